/- Layer 5: what holds ahead of each act of the law ReadoutLinks. -/
import Derived.Test.YtanillahofohgaaReM
import Derived.Test.YtanillahofohgaaReW
set_option linter.unusedVariables false
set_option linter.unusedSimpArgs false
set_option maxRecDepth 100000
namespace Go.Proofs.Ytanillahofohgaa
open Go.RowKit

theorem InS.blocks {W W' : World} {v : Value} {l : List Int} (h : InS W v l) (k : ∀ b, b < W.heap.size → W'.heap[b]? = W.heap[b]?) : InS W' v l := by
  obtain ⟨a, cap, e, hc, hi, h1⟩ := h
  refine ⟨a, cap, e, hc, hi, fun h0 => ?_⟩
  obtain ⟨b, off, rfl, h2⟩ := h1 h0
  have hb : b < W.heap.size := cell_lt (h2 0 h0)
  exact ⟨b, off, rfl, fun j hj => (World.cell?_of_block (k b hb)).trans (h2 j hj)⟩
/-- Where the document's rows may lie. -/
def Ap (lb yb : Nat) (f : Nat → Value) (b : Nat) : Prop := ¬ Lb lb f b ∧ b ≠ yb
structure LinksI (B lb yb : Nat) (room cr : Int) (w0 W : World) (q u : Strs) (c : Int) (f : Nat → Value) (qv uv : Value) : Prop where
  lk : LkW B W lb room c q u f
  y : YAt W yb room c qv uv
  yB : B ≤ yb
  yn : ¬ Lb lb f yb
  qs : StS (Ap lb yb f) W qv q
  us : StS (Ap lb yb f) W uv u
  c0 : 0 ≤ c
  cu : (u.length : Int) + c = cr
  qr : (q.length : Int) ≤ room
  xq : ∀ x ∈ q, x.length ≤ 16404
  xu : ∀ x ∈ u, x.length ≤ 16404
  bl : Below B w0 W
variable {B lb yb : Nat} {room cr : Int} {w0 W W2 : World} {q u : Strs} {c : Int} {f : Nat → Value} {qv uv : Value}
theorem LinksI.below (h : LinksI B lb yb room cr w0 W q u c f qv uv) (k : Below W.heap.size W W2) : LinksI B lb yb room cr w0 W2 q u c f qv uv :=
  ⟨h.lk.below k, h.y.below k, h.yB, h.yn, h.qs.below k, h.us.below k, h.c0, h.cu, h.qr, h.xq, h.xu, h.bl.trans (k.mono (by have := h.lk.hB; have := h.lk.rf.lt; omega))⟩
/-- y's box, set anew. -/
def ySet (W : World) (yb : Nat) (room c : Int) (q2 u2 : Value) : World := (((W.setCell ⟨yb, 0, none⟩ (.int .i64 room)).setCell ⟨yb, 1, none⟩ (.int .i64 c)).setCell ⟨yb, 2, none⟩ q2).setCell ⟨yb, 3, none⟩ u2
theorem ySet_other (W : World) (yb : Nat) (room c : Int) (q2 u2 : Value) {k : Nat} (hk : k ≠ yb) : (ySet W yb room c q2 u2).heap[k]? = W.heap[k]? := by
  unfold ySet
  rw [Below.heap_setCell _ _ _ _ hk, Below.heap_setCell _ _ _ _ hk, Below.heap_setCell _ _ _ _ hk, Below.heap_setCell _ _ _ _ hk]
theorem ySet_size (W : World) (yb : Nat) (room c : Int) (q2 u2 : Value) : (ySet W yb room c q2 u2).heap.size = W.heap.size := by
  unfold ySet
  rw [set_size, set_size, set_size, set_size]
/-- The document's method has answered, and y has been set. -/
structure Half (B lb yb : Nat) (room : Int) (w0 W3 : World) (q u : Strs) (c : Int) (f : Nat → Value) (q' u' : Strs) (c' : Int) (q2 u2 : Value) : Prop where
  lk : LkW B W3 lb room c q u f
  y : YAt W3 yb room c' q2 u2
  yB : B ≤ yb
  yn : ¬ Lb lb f yb
  qs : StS (Ap lb yb f) W3 q2 q'
  us : StS (Ap lb yb f) W3 u2 u'
  bl : Below B w0 W3
theorem LinksI.half (h : LinksI B lb yb room cr w0 W q u c f qv uv) (k : Below W.heap.size W W2) {q2 u2 : Value} {q' u' : Strs} (c' : Int)
    (hq : StS (fun b => W.heap.size ≤ b ∨ Ap lb yb f b) W2 q2 q') (hu : StS (fun b => W.heap.size ≤ b ∨ Ap lb yb f b) W2 u2 u') :
    Half B lb yb room w0 (ySet W2 yb room c' q2 u2) q u c f q' u' c' q2 u2 := by
  have hyl : yb < W.heap.size := RF.lt h.y
  have hBl := h.lk.hB
  have hlt := h.lk.rf.lt
  have imp : ∀ b, (W.heap.size ≤ b ∨ Ap lb yb f b) → Ap lb yb f b := fun b hb => by
    rcases hb with hb | hb
    · exact ⟨fun hl => by have := h.lk.lt b hl; omega, by omega⟩
    · exact hb
  refine ⟨(h.lk.below k).same fun g hg => ySet_other _ _ _ _ _ _ (fun e => h.yn (e ▸ hg)), YAt.set4 (h.y.below k) room c' q2 u2, h.yB, h.yn, ?_, ?_, ?_⟩
  · exact (hq.mono fun b _ hb => imp b hb).keep fun b _ hb => ySet_other _ _ _ _ _ _ hb.2
  · exact (hu.mono fun b _ hb => imp b hb).keep fun b _ hb => ySet_other _ _ _ _ _ _ hb.2
  · have hb := h.bl.trans (k.mono (by omega))
    unfold ySet
    exact (((hb.setCell (p := ⟨yb, 0, none⟩) h.yB _).setCell (p := ⟨yb, 1, none⟩) h.yB _).setCell (p := ⟨yb, 2, none⟩) h.yB _).setCell (p := ⟨yb, 3, none⟩) h.yB _
theorem Half.below {W3 W4 : World} {q' u' : Strs} {c' : Int} {q2 u2 : Value} (h : Half B lb yb room w0 W3 q u c f q' u' c' q2 u2) (k : Below W3.heap.size W3 W4) : Half B lb yb room w0 W4 q u c f q' u' c' q2 u2 :=
  ⟨h.lk.below k, h.y.below k, h.yB, h.yn, h.qs.below k, h.us.below k, h.bl.trans (k.mono (by have := h.lk.hB; have := h.lk.rf.lt; omega))⟩
/-- The program's method has answered, too. -/
theorem Half.whole {W3 W4 : World} {q' u' : Strs} {c' : Int} {q2 u2 : Value} (h : Half B lb yb room w0 W3 q u c f q' u' c' q2 u2) (hm : Moved B lb W3 f room c' q' u' W4)
    (c0 : 0 ≤ c') (cu : (u'.length : Int) + c' = cr) (qr : (q'.length : Int) ≤ room) (xq : ∀ x ∈ q', x.length ≤ 16404) (xu : ∀ x ∈ u', x.length ≤ 16404) :
    ∃ f', LinksI B lb yb room cr w0 W4 q' u' c' f' q2 u2 := by
  obtain ⟨f', h1, h2, h3⟩ := hm
  have hyl : yb < W3.heap.size := RF.lt h.y
  have not' : ∀ b, b < W3.heap.size → ¬ Lb lb f b → ¬ Lb lb f' b := fun b hb hn hl => by
    rcases h2.own b hl with a | a
    · exact hn a
    · omega
  have st : ∀ {v : Value} {l : Strs}, StS (Ap lb yb f) W3 v l → StS (Ap lb yb f') W4 v l := fun hs =>
    (hs.mono (Q := fun b => Ap lb yb f b ∧ Ap lb yb f' b) (fun b hb ha => ⟨ha, not' b hb ha.1, ha.2⟩)).keep (fun b hb ha => h2.keep b hb ha.1.1) |>.mono fun b _ ha => ha.2
  exact ⟨f', h1, h.y.same (h2.keep yb hyl h.yn), h.yB, not' yb hyl h.yn, st h.qs, st h.us, c0, cu, qr, xq, xu, h.bl.trans h3⟩
theorem offQ_fits {room : Int} {q : Strs} {s : List UInt8} (hq : (q.length : Int) ≤ room) (hx : ∀ x ∈ q, x.length ≤ 16404) : ((offQ room q s).length : Int) ≤ room ∧ ∀ x ∈ offQ room q s, x.length ≤ 16404 := by
  by_cases h : offC room q s = 0
  · obtain ⟨h1, h2⟩ := offC_zero h
    rw [offQ_of.1 h]
    refine ⟨by simp; omega, fun x hm => ?_⟩
    rcases List.mem_append.1 hm with hm | hm
    · exact hx x hm
    · rw [List.mem_singleton.1 hm]; exact h1
  · rw [offQ_of.2 h]
    exact ⟨hq, hx⟩
theorem snd_fits {room cr c : Int} {q u : Strs} {fl : List Int} (h0 : 0 ≤ c) (hcu : (u.length : Int) + c = cr) (hq : (q.length : Int) ≤ room) (hx : ∀ x ∈ q, x.length ≤ 16404) (hu : ∀ x ∈ u, x.length ≤ 16404) :
    0 ≤ sndC c q ∧ ((sndU c q u fl).length : Int) + sndC c q = cr ∧ ((sndQ c q).length : Int) ≤ room ∧ (∀ x ∈ sndQ c q, x.length ≤ 16404) ∧ ∀ x ∈ sndU c q u fl, x.length ≤ 16404 := by
  unfold sndC sndU sndQ
  cases hs : sndB c q with
  | false => exact ⟨h0, hcu, hq, hx, hu⟩
  | true =>
    obtain ⟨x, q', rfl, hc⟩ := snd_cons hs
    have hq' : (q'.length : Int) + 1 ≤ room := by simpa using hq
    refine ⟨?_, ?_, ?_, fun z hz => hx z (by simp at hz ⊢; exact .inr hz), fun z hz => ?_⟩
    · show 0 ≤ c - 1; omega
    · show (((u ++ [flL x fl]).length : Nat) : Int) + (c - 1) = cr; simp; omega
    · show (q'.length : Int) ≤ room; omega
    · rcases List.mem_append.1 hz with hz | hz
      · exact hu z hz
      · rw [List.mem_singleton.1 hz, flL_len]
        exact hx x (by simp)
theorem tk_fits {cr c : Int} {u : Strs} (h0 : 0 ≤ c) (hcu : (u.length : Int) + c = cr) (hu : ∀ x ∈ u, x.length ≤ 16404) : 0 ≤ tkC c u ∧ ((u.tail).length : Int) + tkC c u = cr ∧ ∀ x ∈ u.tail, x.length ≤ 16404 := by
  unfold tkC
  cases u with
  | nil => exact ⟨h0, hcu, hu⟩
  | cons x u =>
    have h1 : (u.length : Int) + 1 + c = cr := by simpa using hcu
    refine ⟨?_, ?_, fun z hz => hu z (by simp at hz ⊢; exact .inr hz)⟩
    · show 0 ≤ c + 1; omega
    · show (u.length : Int) + (c + 1) = cr; omega
end Go.Proofs.Ytanillahofohgaa
