/- Layer 3: contracts: is a plane, a slab valid? -/
import Derived.Test.YteoahbpfhfjfmaaGreatDoorDaA
set_option linter.unusedVariables false
set_option linter.unusedSimpArgs false
namespace Go.Proofs.YteoahbpfhfjfmaaGreatDoor
open Go.RowKit

/-- Is a plane valid? Its numbers: Face, Depth, Cols, Rows, HalfX, HalfY, Thick. -/
def planeB (p0 p1 p2 p3 p4 p5 p6 : Int) : Bool :=
  inB p2 1 1024 && inB p3 1 1024 && inB p4 1 4096 && inB p5 1 4096 && (if p0 = 6 then decide (p1 = 0 ∧ p6 = 0) else inB p0 0 5 && inB p1 1 65536 && inB p6 0 1000)
def slabB (s0 s1 s2 s3 : Int) : Bool := inB s0 0 5 && spanB s1 s2 65536 && inB s3 (-1024) 1024
/-- A plane's value. -/
abbrev plV (p0 p1 p2 p3 p4 p5 p6 : Int) : Value := .agg #[.int .i64 p0, .int .i64 p1, .int .i64 p2, .int .i64 p3, .int .i64 p4, .int .i64 p5, .int .i64 p6]
/-- Its box. -/
abbrev plO (p0 p1 p2 p3 p4 p5 p6 : Int) : Obj := .cells #[.int .i64 p0, .int .i64 p1, .int .i64 p2, .int .i64 p3, .int .i64 p4, .int .i64 p5, .int .i64 p6] 43

theorem isPlane_any (p0 p1 p2 p3 p4 p5 p6 : Int) (w : World) :
    Calls Tryz.prog 54 #[.agg #[.int .i64 p0, .int .i64 p1, .int .i64 p2, .int .i64 p3, .int .i64 p4, .int .i64 p5, .int .i64 p6]] w fun e w' => e = .returned (.bool (planeB p0 p1 p2 p3 p4 p5 p6)) ∧ w' = w.alloc (.cells #[.int .i64 p0, .int .i64 p1, .int .i64 p2, .int .i64 p3, .int .i64 p4, .int .i64 p5, .int .i64 p6] 43) := by
  cases h2 : inB p2 1 1024
  all_goals cases h3 : inB p3 1 1024
  all_goals cases h4 : inB p4 1 4096
  all_goals cases h5 : inB p5 1 4096
  all_goals
    go_enter Tryz.func54, Tryz.ntmps54
    go_wp2_with (first | (go_at_call 55; refine (within _ _ _ _).mono ?_; rintro e w' ⟨rfl, rfl⟩) | (go_at_call 53; refine (isFace_any _ _).mono ?_; rintro e w' ⟨rfl, rfl⟩))
  all_goals
    go_ret
    exact ⟨ret_bool (by unfold planeB; grind), by first | rfl | grind⟩

theorem isSlab_any (s0 s1 s2 s3 : Int) (w : World) :
    Calls Tryz.prog 78 #[.agg #[.int .i64 s0, .int .i64 s1, .int .i64 s2, .int .i64 s3]] w fun e w' => e = .returned (.bool (slabB s0 s1 s2 s3)) ∧ w' = w.alloc (.cells #[.int .i64 s0, .int .i64 s1, .int .i64 s2, .int .i64 s3] 77) := by
  cases h2 : inB s0 0 5
  all_goals cases h3 : spanB s1 s2 65536
  all_goals
    go_enter Tryz.func78, Tryz.ntmps78
    go_wp2_with (first | (go_at_call 55; refine (within _ _ _ _).mono ?_; rintro e w' ⟨rfl, rfl⟩) | (go_at_call 53; refine (isFace_any _ _).mono ?_; rintro e w' ⟨rfl, rfl⟩) | (go_at_call 100; refine (isSpan_any _ _ _ _).mono ?_; rintro e w' ⟨rfl, rfl⟩))
  all_goals
    go_ret
    exact ⟨ret_bool (by unfold slabB; grind), by first | rfl | grind⟩

end Go.Proofs.YteoahbpfhfjfmaaGreatDoor
