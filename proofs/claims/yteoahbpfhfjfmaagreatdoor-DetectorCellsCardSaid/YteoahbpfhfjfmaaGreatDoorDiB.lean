/- Layer 3: centres and cells at places: the document's answers too. -/
import Derived.Test.YteoahbpfhfjfmaaGreatDoorDiA
import Derived.BigQuiet
set_option linter.unusedVariables false
set_option linter.unusedSimpArgs false
namespace Go.Proofs.YteoahbpfhfjfmaaGreatDoor
open Go.RowKit

set_option maxRecDepth 20000 in
theorem refCentre_bad (p0 p1 p2 p3 p4 p5 p6 c r : Int) (w : World) (h : cenE (planeB p0 p1 p2 p3 p4 p5 p6) p2 p3 c r ≠ 0) :
    Calls Tryz.prog 21 #[.agg #[.int .i64 p0, .int .i64 p1, .int .i64 p2, .int .i64 p3, .int .i64 p4, .int .i64 p5, .int .i64 p6], .int .i64 c, .int .i64 r] w fun e w' => e = .returned (.tuple #[.int .i64 0, .int .i64 0, .int .i64 (cenE (planeB p0 p1 p2 p3 p4 p5 p6) p2 p3 c r)]) ∧ Below w.heap.size w w' := by
  cases hp : planeB p0 p1 p2 p3 p4 p5 p6
  · go_enter Tryz.func21, Tryz.ntmps21
    go_wp2_with (first | (go_at_call 44; refine (refPlane_any _ _ _ _ _ _ _ _).mono ?_; rintro e w' ⟨rfl, rfl⟩))
    go_ret3
    exact ⟨rfl, by repeat (first | exact Below.refl _ _ | exact Nat.le_refl _ | (apply Below.alloc) | (simp <;> omega))⟩
  · obtain ⟨b0, b1, d0, d1, _, _, _, _⟩ := planeB_bounds hp
    rw [hp] at h
    have h' : inB c 0 (p2 - 1) = false ∨ inB c 0 (p2 - 1) = true ∧ inB r 0 (p3 - 1) = false := by
      unfold cenE at h
      cases g1 : inB c 0 (p2 - 1) <;> cases g2 : inB r 0 (p3 - 1) <;> simp [g1, g2] at h ⊢
    have hE : cenE true p2 p3 c r = 4 := by
      unfold cenE
      rcases h' with g | ⟨g, g'⟩ <;> simp [g]
      simp [g']
    have HE := Lib.hid hE
    clear hE h
    rcases h' with g | ⟨g, g'⟩
    all_goals
      go_enter Tryz.func21, Tryz.ntmps21
      go_wp2_with (first | (go_at_call 44; refine (refPlane_any _ _ _ _ _ _ _ _).mono ?_; rintro e w' ⟨rfl, rfl⟩) | (go_at_call 50; refine (in_any _ _ _ _).mono ?_; rintro e w' ⟨rfl, rfl⟩))
      go_ret3
      exact ⟨by rw [HE.out]; rfl, by repeat (first | exact Below.refl _ _ | exact Nat.le_refl _ | (apply Below.alloc) | (simp <;> omega))⟩

set_option maxRecDepth 20000 in
theorem refCentre_ok (p0 p1 p2 p3 p4 p5 p6 c r : Int) (w : World) (hp : planeB p0 p1 p2 p3 p4 p5 p6 = true) (g : inB c 0 (p2 - 1) = true) (g' : inB r 0 (p3 - 1) = true) :
    Calls Tryz.prog 21 #[.agg #[.int .i64 p0, .int .i64 p1, .int .i64 p2, .int .i64 p3, .int .i64 p4, .int .i64 p5, .int .i64 p6], .int .i64 c, .int .i64 r] w fun e w' => e = .returned (.tuple #[.int .i64 ((2 * c + 1 - p2) * p4), .int .i64 ((2 * r + 1 - p3) * p5), .int .i64 0]) ∧ Below w.heap.size w w' := by
  obtain ⟨b0, b1, d0, d1, e0, e1, f0, f1⟩ := planeB_bounds hp
  obtain ⟨c0, c1⟩ := inB_true.1 g
  obtain ⟨r0, r1⟩ := inB_true.1 g'
  obtain ⟨m0, m1⟩ := mul_bd (a := 2 * c + 1 - p2) (b := p4) 1024 4096 (by omega) (by omega)
  obtain ⟨n0, n1⟩ := mul_bd (a := 2 * r + 1 - p3) (b := p5) 1024 4096 (by omega) (by omega)
  go_enter Tryz.func21, Tryz.ntmps21
  go_wp2_with (first | (go_at_call 44; refine (refPlane_any _ _ _ _ _ _ _ _).mono ?_; rintro e w' ⟨rfl, rfl⟩) | (go_at_call 50; refine (in_any _ _ _ _).mono ?_; rintro e w' ⟨rfl, rfl⟩))
  go_quiet (fail)
  go_wp2
  go_ret3
  exact ⟨rfl, by repeat (first | exact Below.refl _ _ | exact Nat.le_refl _ | (apply Below.alloc) | (apply Below.drewN) | (simp <;> omega))⟩

def atB (P : Bool) (x y p2 p3 p4 p5 : Int) : Bool := P && cnB x p2 p4 && cnB y p3 p5
def atX (P : Bool) (x y p2 p3 p4 p5 : Int) : Int := if atB P x y p2 p3 p4 p5 then (x + p2 * p4) / (2 * p4) else 0
def atY (P : Bool) (x y p2 p3 p4 p5 : Int) : Int := if atB P x y p2 p3 p4 p5 then (y + p3 * p5) / (2 * p5) else 0
set_option maxRecDepth 20000 in
theorem At_any (p0 p1 p2 p3 p4 p5 p6 x y : Int) (w : World) :
    Calls Tryz.prog 22 #[.agg #[.int .i64 p0, .int .i64 p1, .int .i64 p2, .int .i64 p3, .int .i64 p4, .int .i64 p5, .int .i64 p6], .int .i64 x, .int .i64 y] w fun e w' => e = .returned (.tuple #[.int .i64 (atX (planeB p0 p1 p2 p3 p4 p5 p6) x y p2 p3 p4 p5), .int .i64 (atY (planeB p0 p1 p2 p3 p4 p5 p6) x y p2 p3 p4 p5), .bool (atB (planeB p0 p1 p2 p3 p4 p5 p6) x y p2 p3 p4 p5)]) ∧ Below w.heap.size w w' := by
  cases hp : planeB p0 p1 p2 p3 p4 p5 p6
  · go_enter Tryz.func22, Tryz.ntmps22
    go_wp2_with (first | (go_at_call 54; refine (isPlane_any _ _ _ _ _ _ _ _).mono ?_; rintro e w' ⟨rfl, rfl⟩))
    go_ret3
    exact ⟨by simp [atX, atY, atB], by repeat (first | exact Below.refl _ _ | exact Nat.le_refl _ | (apply Below.alloc) | (apply Below.drewN) | (apply Below.drew) | (simp <;> omega))⟩
  · obtain ⟨b0, b1, d0, d1, e0, e1, f0, f1⟩ := planeB_bounds hp
    cases g1 : cnB x p2 p4
    all_goals cases g2 : cnB y p3 p5
    all_goals
      have hv : Hid (cnV x p2 p4 = if cnB x p2 p4 then (x + p2 * p4) / (2 * p4) else 0) := Lib.hid rfl
      have hu : Hid (cnV y p3 p5 = if cnB y p3 p5 then (y + p3 * p5) / (2 * p5) else 0) := Lib.hid rfl
      rw [g1] at hv
      rw [g2] at hu
      go_enter Tryz.func22, Tryz.ntmps22
      go_wp2_with (first | (go_at_call 54; refine (isPlane_any _ _ _ _ _ _ _ _).mono ?_; rintro e w' ⟨rfl, rfl⟩) | (go_at_call 56; refine (cellNumber_any _ _ _ _ (by assumption) (by assumption) (by assumption) (by assumption)).mono ?_; rintro e w' ⟨rfl, rfl⟩))
      go_ret3
      exact ⟨by simp [atX, atY, atB, g1, g2, hv.out, hu.out], by repeat (first | exact Below.refl _ _ | exact Nat.le_refl _ | (apply Below.alloc) | (apply Below.drewN) | (apply Below.drew) | (simp <;> omega))⟩

set_option maxRecDepth 20000 in
theorem refAt_any (p0 p1 p2 p3 p4 p5 p6 x y : Int) (w : World) :
    Calls Tryz.prog 23 #[.agg #[.int .i64 p0, .int .i64 p1, .int .i64 p2, .int .i64 p3, .int .i64 p4, .int .i64 p5, .int .i64 p6], .int .i64 x, .int .i64 y] w fun e w' => e = .returned (.tuple #[.int .i64 (atX (planeB p0 p1 p2 p3 p4 p5 p6) x y p2 p3 p4 p5), .int .i64 (atY (planeB p0 p1 p2 p3 p4 p5 p6) x y p2 p3 p4 p5), .bool (atB (planeB p0 p1 p2 p3 p4 p5 p6) x y p2 p3 p4 p5)]) ∧ Below w.heap.size w w' := by
  cases hp : planeB p0 p1 p2 p3 p4 p5 p6
  · go_enter Tryz.func23, Tryz.ntmps23
    go_wp2_with (first | (go_at_call 44; refine (refPlane_any _ _ _ _ _ _ _ _).mono ?_; rintro e w' ⟨rfl, rfl⟩))
    go_ret3
    exact ⟨by simp [atX, atY, atB], by repeat (first | exact Below.refl _ _ | exact Nat.le_refl _ | (apply Below.alloc) | (apply Below.drewN) | (apply Below.drew) | (simp <;> omega))⟩
  · obtain ⟨b0, b1, d0, d1, e0, e1, f0, f1⟩ := planeB_bounds hp
    cases g1 : cnB x p2 p4
    all_goals cases g2 : cnB y p3 p5
    all_goals
      have q1 := cnB_iff x p2 p4 (by omega)
      have q2 := cnB_iff y p3 p5 (by omega)
      obtain ⟨u1, hu1⟩ : ∃ u, rcV x p2 p4 = u := ⟨_, rfl⟩
      obtain ⟨u2, hu2⟩ : ∃ u, rcV y p3 p5 = u := ⟨_, rfl⟩
      have R1 : Hid (∀ W : World, Calls Tryz.prog 57 #[.int .i64 x, .int .i64 p2, .int .i64 p4] W fun e w' => e = .returned (.int .i64 u1) ∧ w' = W) := Lib.hid fun W => (refCell_any x p2 p4 W (by omega) (by omega) (by omega) (by omega)).mono fun _ _ ⟨a, b⟩ => ⟨by rw [a, hu1], b.symm⟩
      have R2 : Hid (∀ W : World, Calls Tryz.prog 57 #[.int .i64 y, .int .i64 p3, .int .i64 p5] W fun e w' => e = .returned (.int .i64 u2) ∧ w' = W) := Lib.hid fun W => (refCell_any y p3 p5 W (by omega) (by omega) (by omega) (by omega)).mono fun _ _ ⟨a, b⟩ => ⟨by rw [a, hu2], b.symm⟩
      unfold rcV at hu1 hu2
      simp only [g1, g2, if_true, Bool.false_eq_true, if_false, true_iff, false_iff] at hu1 hu2 q1 q2
      have t1 : (u1 < 0) = (¬ (cnB x p2 p4 = true)) := by rw [g1]; simp; omega
      have t2 : (u2 < 0) = (¬ (cnB y p3 p5 = true)) := by rw [g2]; simp; omega
      rw [g1] at t1
      rw [g2] at t2
      simp only [Bool.false_eq_true, not_false_eq_true, not_true_eq_false, eq_iff_iff, iff_true, iff_false] at t1 t2
      have H1 := Lib.hid hu1
      have H2 := Lib.hid hu2
      clear hu1 hu2 q1 q2
      go_enter Tryz.func23, Tryz.ntmps23
      go_wp2_with (first | (go_at_call 44; refine (refPlane_any _ _ _ _ _ _ _ _).mono ?_; rintro e w' ⟨rfl, rfl⟩))
      go_quiet ((go_at_call 57; first | (with_reducible exact Calls.quiet_of_same (R1.out _)) | (with_reducible exact Calls.quiet_of_same (R2.out _))))
      go_wp2
      try any_goals (exfalso; omega)
      go_ret3
      exact ⟨by simp [atX, atY, atB, g1, g2, H1.out, H2.out], by repeat (first | exact Below.refl _ _ | exact Nat.le_refl _ | (apply Below.alloc) | (apply Below.drewN) | (apply Below.drew) | (simp <;> omega))⟩
end Go.Proofs.YteoahbpfhfjfmaaGreatDoor
