/- Layer 3: contracts: places in frames. -/
import Derived.Test.YteoahbpfhfjfmaaGreatDoorDaC
import Derived.BigRegion
import Derived.Handy
set_option linter.unusedVariables false
set_option linter.unusedSimpArgs false
namespace Go.Proofs.YteoahbpfhfjfmaaGreatDoor
open Go.RowKit

/-- Three numbers in an array. -/
abbrev arV (a b c : Int) : Value := .agg #[.int .i64 a, .int .i64 b, .int .i64 c]
theorem ar0 (a b c : Int) (w : World) : (Instr.index 35 (.agg #[.int .i64 a, .int .i64 b, .int .i64 c]) (.int .i64 0)).run Tryz.prog w = .ok (.int .i64 a) w := by kernel_rfl
theorem ar1 (a b c : Int) (w : World) : (Instr.index 35 (.agg #[.int .i64 a, .int .i64 b, .int .i64 c]) (.int .i64 1)).run Tryz.prog w = .ok (.int .i64 b) w := by kernel_rfl
theorem ar2 (a b c : Int) (w : World) : (Instr.index 35 (.agg #[.int .i64 a, .int .i64 b, .int .i64 c]) (.int .i64 2)).run Tryz.prog w = .ok (.int .i64 c) w := by kernel_rfl

/-- A number that is not too far. -/
def farB (a : Int) : Bool := inB a (-1099511627776) 1099511627776
def placeE (f a b c : Int) : Int := if inB f 0 5 then (if farB a && farB b && farB c then 0 else 4) else 7

set_option maxRecDepth 20000 in
theorem checkPlace_any (f a b c : Int) (w : World) :
    Calls Tryz.prog 49 #[.int .i64 f, .agg #[.int .i64 a, .int .i64 b, .int .i64 c]] w fun e w' => e = .returned (.int .i64 (placeE f a b c)) ∧ w' = w.alloc (.cells #[.int .i64 a, .int .i64 b, .int .i64 c] 35) := by
  have i0 := ar0 a b c
  have i1 := ar1 a b c
  have i2 := ar2 a b c
  cases hf : inB f 0 5
  · go_enter Tryz.func49, Tryz.ntmps49
    go_wp2_with (first | (go_at_call 53; refine (isFace_any _ _).mono ?_; rintro e w' ⟨rfl, rfl⟩))
    go_ret
    exact ⟨ret_int (by simp [placeE, hf]), rfl⟩
  all_goals cases ha : inB a (-1099511627776) 1099511627776
  all_goals cases hb : inB b (-1099511627776) 1099511627776
  all_goals cases hc : inB c (-1099511627776) 1099511627776
  all_goals
    go_enter Tryz.func49, Tryz.ntmps49
    go_wp2_with (first | (go_at_call 53; refine (isFace_any _ _).mono ?_; rintro e w' ⟨rfl, rfl⟩))
    refine wp_loop_rounds 4 ?_
    repeat any_goals (rw [rounds_succ]; go_wp2_with (go_at_call 86; refine (isReach_any _ _).mono ?_; rintro e w' ⟨rfl, rfl⟩))
    go_ret
    exact ⟨ret_int (by simp [placeE, farB, *]), rfl⟩

/-- The frames: of each face three axes and three signs. -/
def frN : List (List Int) := [[0, 1, 2, 1, 1, 1], [1, 0, 2, 1, -1, 1], [0, 1, 2, -1, -1, 1], [1, 0, 2, -1, 1, 1], [2, 0, 1, 1, 1, 1], [2, 1, 0, -1, 1, 1]]
/-- The table of frames lies as the program lays it. -/
def FT (w : World) : Prop := ∀ f k : Nat, f < 6 → k < 6 → w.cell? ⟨0, 6 * f + k, none⟩ = some (.int .i64 ((frN.getD f []).getD k 0))
theorem place_ok {f a b c : Int} (h : placeE f a b c = 0) : -1099511627776 ≤ a ∧ a ≤ 1099511627776 ∧ -1099511627776 ≤ b ∧ b ≤ 1099511627776 ∧ -1099511627776 ≤ c ∧ c ≤ 1099511627776 := by
  unfold placeE farB inB at h
  grind
theorem place_face {f a b c : Int} (h : placeE f a b c = 0) : 0 ≤ f ∧ f ≤ 5 := by
  unfold placeE farB inB at h
  grind
end Go.Proofs.YteoahbpfhfjfmaaGreatDoor
