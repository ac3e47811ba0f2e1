/- Layer 5: the law ReadoutFlows. -/
import Derived.Test.YtanillahofohgaaReM
set_option linter.unusedVariables false
set_option linter.unusedSimpArgs false
set_option maxRecDepth 100000
namespace Go.Proofs.Ytanillahofohgaa
open Go.RowKit

theorem LkW.same {B : Nat} {W W' : World} {lb : Nat} {room cr : Int} {q u : Strs} {f : Nat → Value} (h : LkW B W lb room cr q u f) (k : ∀ g, Lb lb f g → W'.heap[g]? = W.heap[g]?) : LkW B W' lb room cr q u f :=
  ⟨h.hB, h.rf.of_block (k lb (.inl rfl)), h.f0, h.f1, h.f2, h.qs.same fun g hg => k g (.inr (.inl hg)), h.us.same fun g hg => k g (.inr (.inr hg)), h.ap⟩
theorem LkW.lt {B : Nat} {W : World} {lb : Nat} {room cr : Int} {q u : Strs} {f : Nat → Value} (h : LkW B W lb room cr q u f) : ∀ g, Lb lb f g → g < W.heap.size := fun g hg => by
  rcases hg with rfl | a | a
  · exact h.rf.lt
  · exact (h.qs.lt g a).2
  · exact (h.us.lt g a).2
theorem So.at {B : Nat} {W : World} {v : Value} {l : Strs} (h : So B W v l) {j : Nat} (hj : j < l.length) : ∃ g c, v = .slice (some ⟨g, 0, none⟩) l.length c ∧ W.cell? ⟨g, j, none⟩ = some (.string (str l[j])) := by
  obtain ⟨hl, h1⟩ := h
  rcases h1 with ⟨rfl, h0⟩ | ⟨g, cap, f, rfl, hB, rf, hn, hm, hx⟩
  · omega
  · refine ⟨g, cap, rfl, ?_⟩
    have e := hx j (by omega)
    rw [rf.cell (i := j) (by omega), ← e]
    unfold stC
    rw [List.getElem?_map, List.getElem?_eq_getElem hj]
    rfl
/-- What holds ahead of each act. -/
structure FlowI (B lb : Nat) (room cr : Int) (w0 W : World) (vi vo : Value) (q u li lo : Strs) (c : Int) (f : Nat → Value) (k : Nat) : Prop where
  lk : LkW B W lb room c q u f
  si : So B W vi li
  so : So B W vo lo
  ni : ∀ g, vi.ownBlock = some g → ¬ Lb lb f g
  no : ∀ g, vo.ownBlock = some g → ¬ Lb lb f g
  ne : ∀ g, vi.ownBlock = some g → vo.ownBlock ≠ some g
  eq : li = lo ++ (u ++ q)
  c0 : 0 ≤ c
  cu : (u.length : Int) + c = cr
  qr : (q.length : Int) ≤ room
  le : li.length ≤ k
  bl : Below B w0 W
  xs : ∀ x ∈ q, x.length ≤ 16404
variable {B lb : Nat} {room cr : Int} {w0 W : World} {vi vo : Value} {q u li lo : Strs} {c : Int} {f : Nat → Value} {k : Nat}
theorem FlowI.below (h : FlowI B lb room cr w0 W vi vo q u li lo c f k) {W' : World} (b : Below W.heap.size W W') : FlowI B lb room cr w0 W' vi vo q u li lo c f k :=
  ⟨h.lk.below b, h.si.below b, h.so.below b, h.ni, h.no, h.ne, h.eq, h.c0, h.cu, h.qr, h.le, h.bl.trans (b.mono (by have := h.lk.hB; have := h.lk.rf.lt; omega)), h.xs⟩
theorem FlowI.next (h : FlowI B lb room cr w0 W vi vo q u li lo c f k) : FlowI B lb room cr w0 W vi vo q u li lo c f (k + 1) :=
  ⟨h.lk, h.si, h.so, h.ni, h.no, h.ne, h.eq, h.c0, h.cu, h.qr, by have := h.le; omega, h.bl, h.xs⟩
/-- Behind a method of the link. -/
theorem FlowI.moved (h : FlowI B lb room cr w0 W vi vo q u li lo c f k) {W' : World} {c' : Int} {q' u' : Strs} {f' : Nat → Value} (hl : LkW B W' lb room c' q' u' f') (hm : Mv lb W f W' f') (hb : Below B W W')
    {li' lo' : Strs} (e1 : li' = li) (e2 : lo' = lo) (eq : li' = lo' ++ (u' ++ q')) (c0 : 0 ≤ c') (cu : (u'.length : Int) + c' = cr) (qr : (q'.length : Int) ≤ room) (xs : ∀ x ∈ q', x.length ≤ 16404) :
    FlowI B lb room cr w0 W' vi vo q' u' li' lo' c' f' k := by
  subst e1 e2
  have out : ∀ g, (vi.ownBlock = some g ∨ vo.ownBlock = some g) → g < W.heap.size ∧ ¬ Lb lb f g := fun g hg => by
    rcases hg with hg | hg
    · exact ⟨(h.si.lt g hg).2, h.ni g hg⟩
    · exact ⟨(h.so.lt g hg).2, h.no g hg⟩
  have not' : ∀ g, g < W.heap.size → ¬ Lb lb f g → ¬ Lb lb f' g := fun g h1 h2 h3 => by
    rcases hm.own g h3 with a | a
    · exact h2 a
    · omega
  exact ⟨hl, h.si.same fun g hg => hm.keep g (out g (.inl hg)).1 (out g (.inl hg)).2, h.so.same fun g hg => hm.keep g (out g (.inr hg)).1 (out g (.inr hg)).2,
    fun g hg => not' g (out g (.inl hg)).1 (out g (.inl hg)).2, fun g hg => not' g (out g (.inr hg)).1 (out g (.inr hg)).2, h.ne, eq, c0, cu, qr, h.le, h.bl.trans hb, xs⟩
/-- The world in which a string is put behind a row of the law's own. -/
structure Put (B lb : Nat) (room : Int) (w0 W : World) (vi vo : Value) (q u li lo : Strs) (c : Int) (f : Nat → Value) : Prop where
  lk : LkW B W lb room c q u f
  si : So B W vi li
  so : So B W vo lo
  ni : ∀ g, vi.ownBlock = some g → ¬ Lb lb f g
  no : ∀ g, vo.ownBlock = some g → ¬ Lb lb f g
  ne : ∀ g, vi.ownBlock = some g → vo.ownBlock ≠ some g
  bl : Below B w0 W
theorem Put.below (h : Put B lb room w0 W vi vo q u li lo c f) {W' : World} (b : Below W.heap.size W W') : Put B lb room w0 W' vi vo q u li lo c f :=
  ⟨h.lk.below b, h.si.below b, h.so.below b, h.ni, h.no, h.ne, h.bl.trans (b.mono (by have := h.lk.hB; have := h.lk.rf.lt; omega))⟩
/-- A string behind `in`. -/
theorem Put.addI (h : Put B lb room w0 W vi vo q u li lo c f) {v' : Value} {W' : World} {li' : Strs} (hs : So B W' v' li') (hg : W.grownBy W' vi.ownBlock) (hv : v'.ownBlock = vi.ownBlock ∨ ∃ g, v'.ownBlock = some g ∧ W.heap.size ≤ g) :
    Put B lb room w0 W' v' vo q u li' lo c f := by
  have hB := h.lk.hB
  have hlb := h.lk.rf.lt
  have oth : ∀ g, g < W.heap.size → vi.ownBlock ≠ some g → W'.heap[g]? = W.heap[g]? := fun g h1 h2 => hg.block g h1 (fun e => h2 e.symm)
  refine ⟨h.lk.same fun g hl => oth g (h.lk.lt g hl) (fun e => h.ni g e hl), hs, h.so.same fun g e => oth g (h.so.lt g e).2 (fun e2 => h.ne g e2 e), fun g e => ?_, h.no, fun g e e2 => ?_, h.bl.trans (grown_below hg (fun g e => (h.si.lt g e).1) (by omega))⟩
  · rcases hv with a | ⟨g', a, b⟩
    · exact h.ni g (by rw [← a, e])
    · rw [e] at a; cases a
      exact fun hl => by have := h.lk.lt _ hl; omega
  · rcases hv with a | ⟨g', a, b⟩
    · exact h.ne g (by rw [← a, e]) e2
    · rw [e] at a; cases a
      have := (h.so.lt _ e2).2
      omega
/-- A string behind `out`. -/
theorem Put.addO (h : Put B lb room w0 W vi vo q u li lo c f) {v' : Value} {W' : World} {lo' : Strs} (hs : So B W' v' lo') (hg : W.grownBy W' vo.ownBlock) (hv : v'.ownBlock = vo.ownBlock ∨ ∃ g, v'.ownBlock = some g ∧ W.heap.size ≤ g) :
    Put B lb room w0 W' vi v' q u li lo' c f := by
  have hB := h.lk.hB
  have hlb := h.lk.rf.lt
  have oth : ∀ g, g < W.heap.size → vo.ownBlock ≠ some g → W'.heap[g]? = W.heap[g]? := fun g h1 h2 => hg.block g h1 (fun e => h2 e.symm)
  refine ⟨h.lk.same fun g hl => oth g (h.lk.lt g hl) (fun e => h.no g e hl), h.si.same fun g e => oth g (h.si.lt g e).2 (fun e2 => h.ne g e e2), hs, h.ni, fun g e => ?_, fun g e e2 => ?_, h.bl.trans (grown_below hg (fun g e => (h.so.lt g e).1) (by omega))⟩
  · rcases hv with a | ⟨g', a, b⟩
    · exact h.no g (by rw [← a, e])
    · rw [e] at a; cases a
      exact fun hl => by have := h.lk.lt _ hl; omega
  · rcases hv with a | ⟨g', a, b⟩
    · exact h.ne g e (by rw [← a, e2])
    · rw [e2] at a; cases a
      have := (h.si.lt _ e).2
      omega
theorem FlowI.put (h : FlowI B lb room cr w0 W vi vo q u li lo c f k) : Put B lb room w0 W vi vo q u li lo c f := ⟨h.lk, h.si, h.so, h.ni, h.no, h.ne, h.bl⟩
theorem Put.flow (h : Put B lb room w0 W vi vo q u li lo c f) (eq : li = lo ++ (u ++ q)) (c0 : 0 ≤ c) (cu : (u.length : Int) + c = cr) (qr : (q.length : Int) ≤ room) (le : li.length ≤ k) (xs : ∀ x ∈ q, x.length ≤ 16404) :
    FlowI B lb room cr w0 W vi vo q u li lo c f k := ⟨h.lk, h.si, h.so, h.ni, h.no, h.ne, eq, c0, cu, qr, le, h.bl, xs⟩
/-- Behind a method of the link. -/
theorem Put.moved (h : Put B lb room w0 W vi vo q u li lo c f) {W' : World} {c' : Int} {q' u' : Strs} {f' : Nat → Value} (hl : LkW B W' lb room c' q' u' f') (hm : Mv lb W f W' f') (hb : Below B W W') :
    Put B lb room w0 W' vi vo q' u' li lo c' f' := by
  have out : ∀ g, (vi.ownBlock = some g ∨ vo.ownBlock = some g) → g < W.heap.size ∧ ¬ Lb lb f g := fun g hg => by
    rcases hg with hg | hg
    · exact ⟨(h.si.lt g hg).2, h.ni g hg⟩
    · exact ⟨(h.so.lt g hg).2, h.no g hg⟩
  have not' : ∀ g, g < W.heap.size → ¬ Lb lb f g → ¬ Lb lb f' g := fun g h1 h2 h3 => by
    rcases hm.own g h3 with a | a
    · exact h2 a
    · omega
  exact ⟨hl, h.si.same fun g hg => hm.keep g (out g (.inl hg)).1 (out g (.inl hg)).2, h.so.same fun g hg => hm.keep g (out g (.inr hg)).1 (out g (.inr hg)).2,
    fun g hg => not' g (out g (.inl hg)).1 (out g (.inl hg)).2, fun g hg => not' g (out g (.inr hg)).1 (out g (.inr hg)).2, h.ne, h.bl.trans hb⟩
theorem offC_zero {room : Int} {q : Strs} {s : List UInt8} (h : offC room q s = 0) : s.length ≤ 16404 ∧ (q.length : Int) ≠ room := by
  unfold offC at h
  split at h
  · cases h
  · split at h
    · cases h
    · exact ⟨by omega, by assumption⟩
theorem offQ_of {room : Int} {q : Strs} {s : List UInt8} : (offC room q s = 0 → offQ room q s = q ++ [s]) ∧ (offC room q s ≠ 0 → offQ room q s = q) :=
  ⟨fun h => by unfold offQ; rw [if_pos h], fun h => by unfold offQ; rw [if_neg h]⟩
end Go.Proofs.Ytanillahofohgaa
