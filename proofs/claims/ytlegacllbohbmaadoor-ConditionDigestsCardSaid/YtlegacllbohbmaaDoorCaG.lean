/- Whole numbers appended to rows of the call's own; words joined. -/
import Derived.Test.YtlegacllbohbmaaDoorCaF
set_option linter.unusedVariables false
set_option linter.unusedSimpArgs false
namespace Go.Proofs.YtlegacllbohbmaaDoor
open Go.RowKit Go.Shelf

theorem AppendUint_any (B u : Nat) (hu64 : u < 18446744073709551616) (sv : Value) (l : List UInt8) (w : World) (h : By B w sv l) (hB : B ≤ w.heap.size) (hl : l.length + 20 ≤ 140737488355328)
    (htab : Lib.TabIs Tryd.prog w "internal/strconv.uint64pow10" .u64 Lib.pow10Tab) :
    Calls Tryd.prog 79 #[sv, .int .u64 u, .int .i64 10] w fun e w' => ∃ v', e = .returned v' ∧ By B w' v' (l ++ Lib.decDigits u) ∧ Below B w w' := by
  by_cases hu : u < 100
  · exact AppendUint_small B u hu sv l w h hB hl
  · exact AppendUint_big B u (by omega) hu64 sv l w h hB hl htab

abbrev Pow (B : Nat) (w : World) : Prop := Lib.TabBelow Tryd.prog B w "internal/strconv.uint64pow10" .u64 Lib.pow10Tab

/-- One byte behind a row: the block that the translation lays for it is new. -/
theorem append_byte {ops : Array Oper} {rest : List Oper} {o : Oper} {a : Act} {Q : Exit → Act → World → Prop} {W : World} (hgd : o.guard = none) (s y : Operand)
    (ho : o.op = .call { callee := .builtin .append, args := #[s, y], argTypes := #[27, 27] }) {B : Nat} {v : Value} {l : List UInt8} (c : UInt8) (x : Int) (hx : x = (c.toNat : Nat))
    (hs : a.eval s = v) (h : By B W v l) (hy : a.eval y = .slice (some ⟨W.heap.size, 0, none⟩) 1 1)
    (hl : l.length + 1 ≤ 140737488355328) (hB : B ≤ W.heap.size)
    (hK : ∀ v' w', By B w' v' (l ++ [c]) → Below B W w' → (v'.ownBlock = v.ownBlock ∨ ∃ g, v'.ownBlock = some g ∧ W.heap.size ≤ g) → wpList Tryd.prog ops Q rest (a.put o.dst v') w') :
    wpList Tryd.prog ops Q (o :: rest) a (W.alloc (.cells #[.int .u8 x] 5)) := by
  subst hx
  have hb0 : Below W.heap.size W (W.alloc (.cells #[.int .u8 (c.toNat : Nat)] 5)) := (Below.refl _ _).alloc (Nat.le_refl _) _
  refine append_cells (W := W.alloc (.cells #[.int .u8 (c.toNat : Nat)] 5)) hgd s y ho hs (h.below hb0) W.heap.size 0 1 1 [c] rfl hy ?_ hl (by have := hb0.size; omega) fun v' w' h1 h2 h3 => hK v' w' h1 ?_ ?_
  · intro j u hj
    match j, hj with
    | 0, hj =>
      simp [Lib.byteCells] at hj
      subst hj
      simp [Addr.add, go_sem]
  · exact (hb0.mono hB).trans (grown_below h2 (fun g hg => (h.lt g hg).1) (by have := hb0.size; omega))
  · rcases h3 with h3 | ⟨g, h3, h4⟩
    · exact .inl h3
    · exact .inr ⟨g, h3, by have := hb0.size; omega⟩

set_option maxHeartbeats 1600000 in
set_option maxRecDepth 100000 in
theorem AppendIntI_any (B : Nat) (i : Int) (h0 : -9223372036854775808 ≤ i) (h1 : i ≤ 9223372036854775807) (sv : Value) (l : List UInt8) (w : World) (h : By B w sv l) (hB : B ≤ w.heap.size) (hl : l.length + 21 ≤ 140737488355328) (htab : Pow B w) :
    Calls Tryd.prog 69 #[sv, .int .i64 i, .int .i64 10] w fun e w' => ∃ v', e = .returned v' ∧ By B w' v' (l ++ Lib.itoa i) ∧ Below B w w' := by
  have HH := Lib.hid h
  have HT := Lib.hid htab
  clear h htab
  by_cases hneg : i < 0
  · obtain ⟨u, rfl⟩ : ∃ u : Nat, i = -(u : Int) := ⟨i.natAbs, by omega⟩
    have hu1 : 1 ≤ u := by omega
    have hu64 : u < 18446744073709551616 := by omega
    have hwr : IntKind.u64.wrap (-IntKind.u64.wrap (-(u : Int))) = (u : Int) := by rw [IntKind.wrap_u64, IntKind.wrap_u64]; omega
    rw [Lib.itoa_neg u hu1]
    go_enter Tryd.func69, Tryd.ntmps69
    go_wp2_with (at_builtin; refine append_byte rfl _ _ rfl 45 45 rfl rfl HH.out rfl (by omega) hB ?_)
    intro v1 w1 hown1 hnx1 _
    have H1 := Lib.hid hown1
    have B1 := Lib.hid hnx1
    have hsz := hnx1.size
    clear hown1 hnx1
    go_wp2_with fail
    refine (AppendUint_any B u hu64 v1 _ w1 H1.out (by omega) (by simp; omega) (HT.out w1 B1.out)).mono ?_
    rintro e w2 ⟨v2, rfl, hown2, hnx2⟩
    have H2 := Lib.hid hown2
    have B2 := Lib.hid hnx2
    clear hown2 hnx2
    go_wp2
    go_ret
    refine ⟨v2, rfl, ?_, B1.out.trans B2.out⟩
    have := H2.out
    rw [List.append_assoc] at this
    exact this
  · obtain ⟨u, rfl⟩ : ∃ u : Nat, i = u := ⟨i.toNat, by omega⟩
    have hu64 : u < 18446744073709551616 := by omega
    have hwr : IntKind.u64.wrap (u : Int) = (u : Int) := IntWalk.u64_in _ (by omega)
    rw [Lib.itoa_nonneg]
    go_enter Tryd.func69, Tryd.ntmps69
    go_wp2_with fail
    refine (AppendUint_any B u hu64 sv _ w HH.out hB (by omega) HT.out.here).mono ?_
    rintro e w2 ⟨v2, rfl, hown2, hnx2⟩
    have H2 := Lib.hid hown2
    have B2 := Lib.hid hnx2
    clear hown2 hnx2
    go_wp2
    go_ret
    exact ⟨v2, rfl, H2.out, B2.out⟩
theorem AppendInt_any (B : Nat) (i : Int) (h0 : -9223372036854775808 ≤ i) (h1 : i ≤ 9223372036854775807) (sv : Value) (l : List UInt8) (w : World) (h : By B w sv l) (hB : B ≤ w.heap.size) (hl : l.length + 21 ≤ 140737488355328) (htab : Pow B w) :
    Calls Tryd.prog 53 #[sv, .int .i64 i, .int .i64 10] w fun e w' => ∃ v', e = .returned v' ∧ By B w' v' (l ++ Lib.itoa i) ∧ Below B w w' := by
  have HH := Lib.hid h
  have HT := Lib.hid htab
  clear h htab
  go_enter Tryd.func53, Tryd.ntmps53
  go_wp2_with fail
  refine (AppendIntI_any B i h0 h1 sv l w HH.out hB hl HT.out).mono ?_
  rintro e w2 ⟨v2, rfl, hown2, hnx2⟩
  have H2 := Lib.hid hown2
  have B2 := Lib.hid hnx2
  clear hown2 hnx2
  go_wp2
  go_ret
  exact ⟨v2, rfl, H2.out, B2.out⟩
end Go.Proofs.YtlegacllbohbmaaDoor
