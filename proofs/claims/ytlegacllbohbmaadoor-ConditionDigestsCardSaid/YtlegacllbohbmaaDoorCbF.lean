/- Layer 4: a span put behind the others. -/
import Derived.Test.YtlegacllbohbmaaDoorCbE
set_option linter.unusedVariables false
set_option linter.unusedSimpArgs false
namespace Go.Proofs.YtlegacllbohbmaaDoor
open Go.RowKit Go.Shelf

theorem span_info : (Tryd.prog.info? 96).map (fun i => (i.zero, i.size, i.bytes)) = some (some (.agg #[.int .i64 0, .slice none 0 0]), 2, 32) := by kernel_rfl
theorem span_slice : Tryd.prog.underlying 65 = some (.slice 96) := by kernel_rfl
theorem slice_end (sa : Option Addr) (n cap : Nat) : ∃ X : Value, ∀ W : World, (Instr.sliceAt 65 (.slice sa n cap) (some (.int .i64 (n : Int))) none none).run Tryd.prog W = .ok X W := by
  have e : Tryd.prog.underlying 65 = some (.slice (Tryd.prog.elem 65)) := by kernel_rfl
  have ee : Tryd.prog.elem 65 = 96 := by kernel_rfl
  refine ⟨sliced sa n n cap 2, fun W => ?_⟩
  rw [run_sliceAt_slice W _ _ _ _ _ e]
  have hr := run_slice_l (P := Tryd.prog) W 65 sa n cap e .i64 (n : Int) (by omega) (by omega)
  rw [hr, ee]
  simp [go_sem]
set_option maxRecDepth 100000 in
set_option maxHeartbeats 1600000 in
theorem Insert_end (B n b0 : Nat) (sv : Value) (xs : List Value) (T : Int) (a : Option Addr) (m c : Nat) (w : World) (h : Rw 96 2 B w sv n xs) (hB : B ≤ w.heap.size) (hn : n ≤ 1000000)
    (c0 : w.cell? ⟨b0, 0, none⟩ = some (.int .i64 T)) (c1 : w.cell? ⟨b0, 1, none⟩ = some (.slice a m c)) :
    Calls Tryd.prog 47 #[sv, .int .i64 n, .slice (some ⟨b0, 0, none⟩) 1 1] w fun e w' =>
      ∃ v', e = .returned v' ∧ Rw 96 2 B w' v' (n + 1) (xs ++ [.int .i64 T, .slice a m c]) ∧ w.grownBy w' sv.ownBlock ∧ (v'.ownBlock = sv.ownBlock ∨ ∃ g, v'.ownBlock = some g ∧ w.heap.size ≤ g) := by
  obtain ⟨sa, cap, rfl, hcap⟩ := h.form
  have H := Lib.hid h
  have C0 := Lib.hid c0
  have C1 := Lib.hid c1
  have ce : Tryd.prog.cellsOf 96 = 2 := by kernel_rfl
  clear h c0 c1
  have HX : Hid (Src Tryd.prog 2 65 (.slice (some ⟨b0, 0, none⟩) 1 1) 1 [.int .i64 T, .slice a m c] w) := Lib.hid (by
    refine Src.ofSlice w span_slice ⟨b0, 0, none⟩ 1 1 _ rfl (fun j u hj => ?_) (fun u hu => ?_)
    · match j, hj with
      | 0, hj => simp at hj; subst hj; simpa [Addr.add] using C0.out
      | 1, hj => simp at hj; subst hj; simpa [Addr.add] using C1.out
    · simp at hu
      rcases hu with rfl | rfl <;> rfl)
  obtain ⟨X, hsl⟩ := slice_end sa n cap
  clear ce
  go_enter Tryd.func47, Tryd.ntmps47
  go_wp2_with (at_builtin; refine wpList_append_rw (B := B) rfl _ _ _ _ rfl (.agg #[.int .i64 0, .slice none 0 0]) 32 span_slice span_info rfl (by decide) rfl H.out _ rfl 1 [.int .i64 T, .slice a m c] HX.out (by unfold maxLen; omega) (by omega) hB ?_)
  intro v' w' h1 h2 h3
  have H1 := Lib.hid h1
  have H2 := Lib.hid h2
  have H3 := Lib.hid h3
  clear h1 h2 h3
  go_wp2
  go_ret
  exact ⟨v', rfl, H1.out, H2.out, H3.out⟩

theorem spC_snoc (sp : List (Int × Ents)) (ls : List Value) (x : Int × Ents) (v : Value) (h : ls.length = sp.length) : spC (sp ++ [x]) (ls ++ [v]) = spC sp ls ++ [.int .i64 x.1, v] := by
  unfold spC
  rw [List.zip_append h.symm, List.flatMap_append]
  rfl
/-- All blocks but two stay. -/
def But2 (a : Nat) (o : Option Nat) (w w' : World) : Prop := ∀ k, k < w.heap.size → k ≠ a → some k ≠ o → w'.heap[k]? = w.heap[k]?

theorem put_close {B vb : Nat} {sp : List (Int × Ents)} {T : Int} {l : Ents} {f : Nat → Value} {w w2 w3 : World} {lv sv sv' : Value} {ls : List Value} (hvb : B ≤ vb) (hb : 0 ≤ T ∧ T ≤ 1099511627776) (hn : sp.length < 64) (hf : RF w vb 67 2 f) (hl : EntS w lv l)
    (hr : Rw 96 2 B w sv sp.length (spC sp ls)) (he : ∀ (i : Nat) (h : i < sp.length) (h' : i < ls.length), EntS w ls[i] sp[i].2) (hll : ls.length = sp.length) (hT : ∀ x ∈ sp, x.1 < T) (hq : (∀ x ∈ sp, 0 ≤ x.1 ∧ x.1 ≤ 1099511627776) ∧ sp.Pairwise (fun x y => x.1 < y.1))
    (b2 : Below w.heap.size w w2) (r3 : RF w3 vb 67 2 f) (h3 : Rw 96 2 B w3 sv' (sp.length + 1) (spC sp ls ++ [.int .i64 T, lv])) (g3 : w2.grownBy w3 sv.ownBlock) (l3 : sv'.ownBlock = sv.ownBlock ∨ ∃ g, sv'.ownBlock = some g ∧ w2.heap.size ≤ g) :
    ∃ sv'', RF (w3.setCell ⟨vb, 1, none⟩ sv') vb 67 2 (upd f 1 sv'') ∧ SpanS B (w3.setCell ⟨vb, 1, none⟩ sv') sv'' (sp ++ [(T, l)]) ∧ Below B w (w3.setCell ⟨vb, 1, none⟩ sv') ∧ But2 vb sv.ownBlock w (w3.setCell ⟨vb, 1, none⟩ sv') ∧
      (sv''.ownBlock = sv.ownBlock ∨ ∃ g, sv''.ownBlock = some g ∧ w.heap.size ≤ g) := by
  have hlt := hf.lt
  have z2 := b2.size
  have z3 := g3.size
  have ent : ∀ (v : Value) (l : Ents), EntS w v l → EntS (w3.setCell ⟨vb, 1, none⟩ sv') v l := fun v l h => h.same fun b c fz hb => by
    have hlb : b < w.heap.size := (Array.getElem?_eq_some_iff.1 hb).1
    have n1 : b ≠ vb := by
      rintro rfl
      obtain ⟨c2, fz2, e2⟩ := hf.kind
      rw [hb] at e2
      cases e2
    have n2 : some b ≠ sv.ownBlock := fun e => by
      obtain ⟨c2, fz2, e2⟩ := hr.kind b e.symm
      rw [hb] at e2
      cases e2
    rw [Below.heap_setCell _ _ _ _ n1, g3.block b (by omega) n2, b2.block b hlb]
  have n3 : ∀ g, sv'.ownBlock = some g → g ≠ vb := by
    rintro g hg rfl
    obtain ⟨c, fz, e1⟩ := h3.kind g hg
    obtain ⟨c2, fz2, e2⟩ := r3.kind
    rw [e1] at e2
    cases e2
  have hB : B ≤ w.heap.size := by omega
  refine ⟨sv', RF.upd r3 1 sv', ⟨ls ++ [lv], by simp [hll], ?_, ⟨?_, ?_, by simp; omega⟩, ?_⟩, ?_, ?_, ?_⟩
  · rw [spC_snoc sp ls (T, l) lv hll, List.length_append]
    exact h3.same fun g hg => Below.heap_setCell _ _ _ _ (n3 g hg)
  · intro x hx
    rcases List.mem_append.1 hx with hx | hx
    · exact hq.1 x hx
    · rw [List.mem_singleton.1 hx]; exact hb
  · rw [List.pairwise_append]
    refine ⟨hq.2, List.pairwise_singleton _ _, fun x hx y hy => ?_⟩
    rw [List.mem_singleton.1 hy]
    exact hT x hx
  · intro i h h'
    by_cases hi : i < sp.length
    · rw [List.getElem_append_left (by omega), List.getElem_append_left hi]
      exact ent _ _ (he i hi (by omega))
    · have hi' : i = sp.length := by simp at h; omega
      subst hi'
      rw [List.getElem_append_right (by omega), List.getElem_append_right (by omega)]
      simp only [hll, Nat.sub_self, List.getElem_singleton]
      exact ent _ _ hl
  · exact ((b2.mono hB).trans (grown_below g3 (fun g hg => (hr.lt g hg).1) (by omega))).setCell (p := ⟨vb, 1, none⟩) hvb _
  · intro k hk n1 n2
    rw [Below.heap_setCell _ _ _ _ n1, g3.block k (by omega) n2, b2.block k hk]
  · rcases l3 with h | ⟨g, h, hg⟩
    · exact .inl h
    · exact .inr ⟨g, h, by omega⟩

set_option maxRecDepth 100000 in
set_option maxHeartbeats 1600000 in
theorem put_end (B vb : Nat) (sv : Value) (sp : List (Int × Ents)) (T : Int) (lv : Value) (l : Ents) (f : Nat → Value) (w : World) (hvb : B ≤ vb) (hf : RF w vb 67 2 f) (h1 : f 1 = sv) (hs : SpanS B w sv sp) (hl : EntS w lv l)
    (hT : ∀ x ∈ sp, x.1 < T) (hb : 0 ≤ T ∧ T ≤ 1099511627776) (hn : sp.length < 64) :
    Calls Tryd.prog 25 #[.pointer (some ⟨vb, 0, none⟩), .int .i64 T, lv] w fun e w' =>
      e = .returned (.bool true) ∧ ∃ sv', RF w' vb 67 2 (upd f 1 sv') ∧ SpanS B w' sv' (sp ++ [(T, l)]) ∧ Below B w w' ∧ But2 vb sv.ownBlock w w' ∧ (sv'.ownBlock = sv.ownBlock ∨ ∃ g, sv'.ownBlock = some g ∧ w.heap.size ≤ g) := by
  obtain ⟨a, m, c, rfl⟩ := hl.form
  have htm := hs.tm
  obtain ⟨ls, hll, hr, ⟨hbb, hso, _⟩, he⟩ := id hs
  have hc := hf.cell (i := 1) (by omega)
  rw [h1] at hc
  have hlt := hf.lt
  have HP := Lib.hid (place_any vb sv sp T w hc htm hso (by omega))
  obtain ⟨sa, cap, rfl, hcap⟩ := hr.form
  have HF := Lib.hid hf
  have H1 := Lib.hid h1
  have HL := Lib.hid hl
  have HR := Lib.hid hr
  have HE := Lib.hid he
  have HLL := Lib.hid hll
  have HTT := Lib.hid hT
  have HQ := Lib.hid (⟨hbb, hso⟩ : (∀ x ∈ sp, 0 ≤ x.1 ∧ x.1 ≤ 1099511627776) ∧ sp.Pairwise (fun x y => x.1 < y.1))
  clear hs htm hbb hso he hl hf h1 hT hr hll
  go_enter Tryd.func25, Tryd.ntmps25
  go_wp2_with fail
  refine HP.out.mono ?_
  rintro e w1 ⟨⟨i, hp, rfl⟩, hB⟩
  have hin : i = sp.length := by
    rcases Nat.lt_or_ge i sp.length with h | h
    · have := hp.2.2 i (Nat.le_refl _) h
      rw [tmF_at sp i h] at this
      exact absurd (HTT.out _ (List.getElem_mem h)) (by omega)
    · have := hp.1; omega
  subst hin
  rw [show hitB (tmF sp) sp.length T sp.length = false from by unfold hitB; simp]
  have HB := Lib.hid hB
  have hz := hB.size
  have c1 := bc hB hc
  clear hp hB HP hc
  have hnz : ((sp.length : Int) == 64) = false := by simp; omega
  go_wp2_with fail
  have b2 : Below w1.heap.size w1 (w1.alloc (.cells #[.int .i64 T, .slice a m c] 96)) := (Below.refl _ _).alloc (Nat.le_refl _) _
  have B2 := Lib.hid (Below.up HB.out b2)
  have z2 : (w1.alloc (.cells #[.int .i64 T, .slice a m c] 96)).heap.size = w1.heap.size + 1 := by simp
  have d0 : (w1.alloc (.cells #[.int .i64 T, .slice a m c] 96)).cell? ⟨w1.heap.size, 0, none⟩ = some (.int .i64 T) := by simp [go_sem]
  have d1 : (w1.alloc (.cells #[.int .i64 T, .slice a m c] 96)).cell? ⟨w1.heap.size, 1, none⟩ = some (.slice a m c) := by simp [go_sem]
  have R2 := Lib.hid (HF.out.below B2.out)
  have S2 := Lib.hid (HR.out.below B2.out)
  refine (Insert_end B sp.length w1.heap.size _ _ T a m c _ S2.out (by omega) (by omega) d0 d1).mono ?_
  rintro e w3 ⟨v', rfl, h3, g3, l3⟩
  obtain ⟨a3, k3, rfl, _⟩ := h3.form
  have ne : some vb ≠ (Value.slice sa sp.length cap).ownBlock := fun e => by
    obtain ⟨c', fz, e1⟩ := S2.out.kind vb e.symm
    obtain ⟨c2, fz2, e2⟩ := R2.out.kind
    rw [e1] at e2
    cases e2
  have e3 := g3.block vb (by omega) ne
  have R3 := Lib.hid (R2.out.of_block e3)
  have q1 := R3.out.cell (i := 1) (by omega)
  have q2 := R3.out.frozen (i := 1) (by omega)
  have H3 := Lib.hid h3
  have G3 := Lib.hid g3
  have L3 := Lib.hid l3
  clear h3 g3 l3 d0 d1 b2 c1 e3 ne
  go_wp2_with fail
  go_ret
  exact ⟨rfl, put_close hvb hb hn HF.out HL.out HR.out HE.out HLL.out HTT.out HQ.out B2.out R3.out H3.out G3.out L3.out⟩
end Go.Proofs.YtlegacllbohbmaaDoor
