/- Layer 3: contracts: keys. -/
import Derived.Test.YteoahbpfhfjfmaaGreatDoorDaB
set_option linter.unusedVariables false
set_option linter.unusedSimpArgs false
namespace Go.Proofs.YteoahbpfhfjfmaaGreatDoor
open Go.RowKit

/-- The document's 'in'. -/
theorem in_any (a lo hi : Int) (w : World) : Calls Tryz.prog 50 #[.int .i64 a, .int .i64 lo, .int .i64 hi] w fun e w' => e = .returned (.bool (inB a lo hi)) ∧ w = w' := by
  go_enter Tryz.func50, Tryz.ntmps50
  go_wp2
  all_goals
    go_ret
    exact ⟨ret_bool (by unfold inB; grind), rfl⟩

/-- A key in one number. -/
def keyB (a b c : Int) : Bool := inB a 0 63 && inB b 0 1023 && inB c 0 1023
def keyN (a b c : Int) : Int := if keyB a b c then a * 1048576 + b * 1024 + c else 0
theorem Key_any (a b c : Int) (w : World) :
    Calls Tryz.prog 24 #[.agg #[.int .i64 a, .int .i64 b, .int .i64 c]] w fun e w' => e = .returned (.tuple #[.int .i64 (keyN a b c), .bool (keyB a b c)]) ∧ w' = w.alloc (.cells #[.int .i64 a, .int .i64 b, .int .i64 c] 50) := by
  cases h2 : inB a 0 63
  all_goals cases h3 : inB b 0 1023
  all_goals cases h4 : inB c 0 1023
  case true.true.true =>
    obtain ⟨a0, a1⟩ := inB_true.1 h2
    obtain ⟨b0, b1⟩ := inB_true.1 h3
    obtain ⟨c0, c1⟩ := inB_true.1 h4
    go_enter Tryz.func24, Tryz.ntmps24
    go_wp2_with (go_at_call 55; refine (within _ _ _ _).mono ?_; rintro e w' ⟨rfl, rfl⟩)
    go_ret2
    exact ⟨by simp [keyB, keyN, *], rfl⟩
  all_goals
    go_enter Tryz.func24, Tryz.ntmps24
    go_wp2_with (go_at_call 55; refine (within _ _ _ _).mono ?_; rintro e w' ⟨rfl, rfl⟩)
    go_ret2
    exact ⟨by simp [keyB, keyN, *], rfl⟩
theorem refKey_any (a b c : Int) (w : World) :
    Calls Tryz.prog 25 #[.agg #[.int .i64 a, .int .i64 b, .int .i64 c]] w fun e w' => e = .returned (.tuple #[.int .i64 (keyN a b c), .bool (keyB a b c)]) ∧ w' = w.alloc (.cells #[.int .i64 a, .int .i64 b, .int .i64 c] 50) := by
  cases h2 : inB a 0 63
  all_goals cases h3 : inB b 0 1023
  all_goals cases h4 : inB c 0 1023
  case true.true.true =>
    obtain ⟨a0, a1⟩ := inB_true.1 h2
    obtain ⟨b0, b1⟩ := inB_true.1 h3
    obtain ⟨c0, c1⟩ := inB_true.1 h4
    go_enter Tryz.func25, Tryz.ntmps25
    go_wp2_with (go_at_call 50; refine (in_any _ _ _ _).mono ?_; rintro e w' ⟨rfl, rfl⟩)
    go_ret2
    exact ⟨by simp [keyB, keyN, *], rfl⟩
  all_goals
    go_enter Tryz.func25, Tryz.ntmps25
    go_wp2_with (go_at_call 50; refine (in_any _ _ _ _).mono ?_; rintro e w' ⟨rfl, rfl⟩)
    go_ret2
    exact ⟨by simp [keyB, keyN, *], rfl⟩
end Go.Proofs.YteoahbpfhfjfmaaGreatDoor
