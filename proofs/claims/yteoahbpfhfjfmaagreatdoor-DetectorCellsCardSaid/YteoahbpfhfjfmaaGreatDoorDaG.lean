/- Layer 3: contracts: centres, cells at places. -/
import Derived.Test.YteoahbpfhfjfmaaGreatDoorDaC
set_option linter.unusedVariables false
set_option linter.unusedSimpArgs false
namespace Go.Proofs.YteoahbpfhfjfmaaGreatDoor
open Go.RowKit

theorem planeB_bounds {p0 p1 p2 p3 p4 p5 p6 : Int} (h : planeB p0 p1 p2 p3 p4 p5 p6 = true) : 1 ≤ p2 ∧ p2 ≤ 1024 ∧ 1 ≤ p3 ∧ p3 ≤ 1024 ∧ 1 ≤ p4 ∧ p4 ≤ 4096 ∧ 1 ≤ p5 ∧ p5 ≤ 4096 := by
  unfold planeB inB at h
  grind

set_option maxHeartbeats 1600000 in
/-- The document's answer on a plane. -/
theorem refPlane_any (p0 p1 p2 p3 p4 p5 p6 : Int) (w : World) :
    Calls Tryz.prog 44 #[.agg #[.int .i64 p0, .int .i64 p1, .int .i64 p2, .int .i64 p3, .int .i64 p4, .int .i64 p5, .int .i64 p6]] w fun e w' => e = .returned (.bool (planeB p0 p1 p2 p3 p4 p5 p6)) ∧ w' = w.alloc (.cells #[.int .i64 p0, .int .i64 p1, .int .i64 p2, .int .i64 p3, .int .i64 p4, .int .i64 p5, .int .i64 p6] 43) := by
  cases h1 : inB p0 0 6
  all_goals cases h2 : inB p2 1 1024
  all_goals cases h3 : inB p3 1 1024
  all_goals cases h4 : inB p4 1 4096
  all_goals cases h5 : inB p5 1 4096
  all_goals
    go_enter Tryz.func44, Tryz.ntmps44
    go_wp2_with (go_at_call 50; refine (in_any _ _ _ _).mono ?_; rintro e w' ⟨rfl, rfl⟩)
  all_goals
    go_ret
    exact ⟨ret_bool (by unfold planeB; unfold inB at *; grind), by first | rfl | grind⟩

/-- Where a cell's centre is. -/
def cenE (p : Bool) (p2 p3 c r : Int) : Int := if p then (if inB c 0 (p2 - 1) && inB r 0 (p3 - 1) then 0 else 4) else 2
def cenX (e p2 p4 c : Int) : Int := if e = 0 then (2 * c + 1 - p2) * p4 else 0
theorem mul_bd {a b : Int} (A B : Int) (ha : -A ≤ a ∧ a ≤ A) (hb : 1 ≤ b ∧ b ≤ B) : -(A * B) ≤ a * b ∧ a * b ≤ A * B := by
  have hA : 0 ≤ A := by omega
  have h1 : a * b ≤ A * b := Int.mul_le_mul_of_nonneg_right ha.2 (by omega)
  have h2 : A * b ≤ A * B := Int.mul_le_mul_of_nonneg_left hb.2 hA
  have h3 : (-A) * b ≤ a * b := Int.mul_le_mul_of_nonneg_right ha.1 (by omega)
  have h4 : (-A) * b = -(A * b) := Int.neg_mul _ _
  omega

set_option maxRecDepth 20000 in
theorem Centre_bad (p0 p1 p2 p3 p4 p5 p6 c r : Int) (w : World) (h : cenE (planeB p0 p1 p2 p3 p4 p5 p6) p2 p3 c r ≠ 0) :
    Calls Tryz.prog 20 #[.agg #[.int .i64 p0, .int .i64 p1, .int .i64 p2, .int .i64 p3, .int .i64 p4, .int .i64 p5, .int .i64 p6], .int .i64 c, .int .i64 r] w fun e w' => e = .returned (.tuple #[.int .i64 0, .int .i64 0, .int .i64 (cenE (planeB p0 p1 p2 p3 p4 p5 p6) p2 p3 c r)]) ∧ Below w.heap.size w w' := by
  cases hp : planeB p0 p1 p2 p3 p4 p5 p6
  · go_enter Tryz.func20, Tryz.ntmps20
    go_wp2_with (first | (go_at_call 54; refine (isPlane_any _ _ _ _ _ _ _ _).mono ?_; rintro e w' ⟨rfl, rfl⟩))
    go_ret3
    exact ⟨rfl, by repeat (first | exact Below.refl _ _ | exact Nat.le_refl _ | (apply Below.alloc) | (simp <;> omega))⟩
  · obtain ⟨b0, b1, d0, d1, _, _, _, _⟩ := planeB_bounds hp
    rw [hp] at h
    have h' : inB c 0 (p2 - 1) = false ∨ inB c 0 (p2 - 1) = true ∧ inB r 0 (p3 - 1) = false := by
      unfold cenE at h
      cases g1 : inB c 0 (p2 - 1) <;> cases g2 : inB r 0 (p3 - 1) <;> simp [g1, g2] at h ⊢
    have hE : cenE true p2 p3 c r = 4 := by
      unfold cenE
      rcases h' with g | ⟨g, g'⟩ <;> simp [g]
      simp [g']
    have HE := Lib.hid hE
    clear hE h
    rcases h' with g | ⟨g, g'⟩
    all_goals
      go_enter Tryz.func20, Tryz.ntmps20
      go_wp2_with (first | (go_at_call 54; refine (isPlane_any _ _ _ _ _ _ _ _).mono ?_; rintro e w' ⟨rfl, rfl⟩) | (go_at_call 55; refine (within _ _ _ _).mono ?_; rintro e w' ⟨rfl, rfl⟩))
      go_ret3
      exact ⟨by rw [HE.out]; rfl, by repeat (first | exact Below.refl _ _ | exact Nat.le_refl _ | (apply Below.alloc) | (simp <;> omega))⟩

set_option maxRecDepth 20000 in
theorem Centre_ok (p0 p1 p2 p3 p4 p5 p6 c r : Int) (w : World) (hp : planeB p0 p1 p2 p3 p4 p5 p6 = true) (g : inB c 0 (p2 - 1) = true) (g' : inB r 0 (p3 - 1) = true) :
    Calls Tryz.prog 20 #[.agg #[.int .i64 p0, .int .i64 p1, .int .i64 p2, .int .i64 p3, .int .i64 p4, .int .i64 p5, .int .i64 p6], .int .i64 c, .int .i64 r] w fun e w' => e = .returned (.tuple #[.int .i64 ((2 * c + 1 - p2) * p4), .int .i64 ((2 * r + 1 - p3) * p5), .int .i64 0]) ∧ Below w.heap.size w w' := by
  obtain ⟨b0, b1, d0, d1, e0, e1, f0, f1⟩ := planeB_bounds hp
  obtain ⟨c0, c1⟩ := inB_true.1 g
  obtain ⟨r0, r1⟩ := inB_true.1 g'
  obtain ⟨m0, m1⟩ := mul_bd (a := 2 * c + 1 - p2) (b := p4) 1024 4096 (by omega) (by omega)
  obtain ⟨n0, n1⟩ := mul_bd (a := 2 * r + 1 - p3) (b := p5) 1024 4096 (by omega) (by omega)
  go_enter Tryz.func20, Tryz.ntmps20
  go_wp2_with (first | (go_at_call 54; refine (isPlane_any _ _ _ _ _ _ _ _).mono ?_; rintro e w' ⟨rfl, rfl⟩) | (go_at_call 55; refine (within _ _ _ _).mono ?_; rintro e w' ⟨rfl, rfl⟩))
  go_quiet (fail)
  go_wp2
  go_ret3
  exact ⟨rfl, by repeat (first | exact Below.refl _ _ | exact Nat.le_refl _ | (apply Below.alloc) | (apply Below.drewN) | (simp <;> omega))⟩
end Go.Proofs.YteoahbpfhfjfmaaGreatDoor
