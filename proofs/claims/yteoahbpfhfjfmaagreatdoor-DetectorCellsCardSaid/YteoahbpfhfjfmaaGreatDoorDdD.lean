/- Layer 3: the example's line and bend. -/
import Derived.Test.YteoahbpfhfjfmaaGreatDoorDdC
import Derived.Test.YteoahbpfhfjfmaaGreatDoorDcC
set_option linter.unusedVariables false
set_option linter.unusedSimpArgs false
namespace Go.Proofs.YteoahbpfhfjfmaaGreatDoor
open Go.RowKit

theorem exF_ok (i : Nat) (hi : i < 1) : slabB (exF i 0) (exF i 1) (exF i 2) (exF i 3) = true := by
  have h : i = 0 := by omega
  subst h
  decide
theorem exLine : lineB 1 (-262144) 0 0 0 = true := by decide
theorem exBend6 : bendN 1 exF 0 6 = 0 := by decide
theorem exBend20 : bendN 1 exF 0 20 = 300 := by decide
theorem face0 : inB 0 0 5 = true := by decide
theorem depth6 : inB 6 0 65536 = true := by decide

theorem position_ex (b1 b2 b3 : Nat) (w : World) (h : Ex w b1 b2 b3) : Calls Tryz.prog 68 #[.slice (some ⟨b2, 0, none⟩) 1 1, .int .i64 0, .agg #[.int .i64 1, .int .i64 (-262144), .int .i64 0, .int .i64 0, .int .i64 0], .int .i64 6] w fun e w' =>
      e = .returned (.tuple #[.int .i64 (-1), .int .i64 0]) ∧ Below w.heap.size w w' :=
  position_any _ 1 exF 0 6 1 (-262144) 0 0 0 w h.slabs (by omega) exF_ok (by omega) (by omega) (by omega) (by omega) (by omega) (by omega)
theorem bend_ex (b1 b2 b3 : Nat) (w : World) (h : Ex w b1 b2 b3) : Calls Tryz.prog 63 #[.slice (some ⟨b2, 0, none⟩) 1 1, .int .i64 0, .int .i64 20] w fun e w' => e = .returned (.int .i64 300) ∧ Below w.heap.size w w' := by
  have := bend_any _ 1 exF 0 20 w h.slabs (by omega) exF_ok
  rw [exBend20] at this
  exact this

theorem checkLine_ex (b1 b2 b3 : Nat) (w : World) (h : Ex w b1 b2 b3) : Calls Tryz.prog 67 #[exV b1 b2 b3, .int .i64 0, .agg #[.int .i64 1, .int .i64 (-262144), .int .i64 0, .int .i64 0, .int .i64 0]] w fun e w' => e = .returned (.int .i64 0) ∧ Below w.heap.size w w' := by
  have HE := Lib.hid h
  have hl := exLine
  have hf := face0
  clear h
  go_enter Tryz.func67, Tryz.ntmps67
  go_wp2_with fail
  refine (isValid_ex b1 b2 b3 _ (HE.out.below (by repeat (first | exact Below.refl _ _ | exact Nat.le_refl _ | (apply Below.alloc) | (apply Below.drew) | (simp <;> omega))))).mono ?_
  rintro e w1 ⟨rfl, hB⟩
  have k0 := bc hB (b := w.heap.size + 1) (o := 0) (v := .int .i64 1) (by simp [go_sem])
  have k1 := bc hB (b := w.heap.size + 1) (o := 1) (v := .int .i64 (-262144)) (by simp [go_sem])
  have k2 := bc hB (b := w.heap.size + 1) (o := 2) (v := .int .i64 0) (by simp [go_sem])
  have k3 := bc hB (b := w.heap.size + 1) (o := 3) (v := .int .i64 0) (by simp [go_sem])
  have k4 := bc hB (b := w.heap.size + 1) (o := 4) (v := .int .i64 0) (by simp [go_sem])
  have lz := cell_lt k0
  have B1 : Hid (Below w.heap.size w w1) := Lib.hid (Below.up (u := w) (by repeat (first | exact Below.refl _ _ | exact Nat.le_refl _ | (apply Below.alloc) | (apply Below.drew) | (simp <;> omega))) hB)
  clear hB
  go_wp2_with (first | (go_at_call 53; refine (isFace_any _ _).mono ?_; rintro e w' ⟨rfl, rfl⟩) | (go_at_call 90; refine (isLine_any _ _ _ _ _ _).mono ?_; rintro e w' ⟨rfl, rfl⟩))
  go_ret
  exact ⟨rfl, Below.up B1.out (by repeat (first | exact Below.refl _ _ | exact Nat.le_refl _ | (apply Below.alloc) | (apply Below.drew) | (simp <;> omega)))⟩

theorem Cross_ex (b1 b2 b3 : Nat) (w : World) (h : Ex w b1 b2 b3) : Calls Tryz.prog 36 #[exV b1 b2 b3, .int .i64 0, .agg #[.int .i64 1, .int .i64 (-262144), .int .i64 0, .int .i64 0, .int .i64 0], .int .i64 6] w fun e w' => e = .returned (.tuple #[.int .i64 (-1), .int .i64 0, .int .i64 0]) ∧ Below w.heap.size w w' := by
  have HE := Lib.hid h
  have hd := depth6
  clear h
  go_enter Tryz.func36, Tryz.ntmps36
  go_wp2_with fail
  refine (checkLine_ex b1 b2 b3 _ (HE.out.below (by repeat (first | exact Below.refl _ _ | exact Nat.le_refl _ | (apply Below.alloc) | (apply Below.drew) | (simp <;> omega))))).mono ?_
  rintro e w1 ⟨rfl, hB⟩
  have g2 := bc hB (b := w.heap.size) (o := 2) (v := .slice (some ⟨b2, 0, none⟩) 1 1) (by simp [go_sem])
  have k0 := bc hB (b := w.heap.size + 1) (o := 0) (v := .int .i64 1) (by simp [go_sem])
  have k1 := bc hB (b := w.heap.size + 1) (o := 1) (v := .int .i64 (-262144)) (by simp [go_sem])
  have k2 := bc hB (b := w.heap.size + 1) (o := 2) (v := .int .i64 0) (by simp [go_sem])
  have k3 := bc hB (b := w.heap.size + 1) (o := 3) (v := .int .i64 0) (by simp [go_sem])
  have k4 := bc hB (b := w.heap.size + 1) (o := 4) (v := .int .i64 0) (by simp [go_sem])
  have lz := cell_lt k0
  have lg := cell_lt g2
  have B1 : Hid (Below w.heap.size w w1) := Lib.hid (Below.up (u := w) (by repeat (first | exact Below.refl _ _ | exact Nat.le_refl _ | (apply Below.alloc) | (apply Below.drew) | (simp <;> omega))) hB)
  have E1 := Lib.hid (HE.out.below B1.out)
  clear hB
  go_wp2_with ((go_at_call 55; refine (within _ _ _ _).mono ?_; rintro e w' ⟨rfl, rfl⟩))
  refine (position_ex b1 b2 b3 _ E1.out).mono ?_
  rintro e w2 ⟨rfl, hB⟩
  have B2 : Hid (Below w.heap.size w w2) := Lib.hid (Below.up B1.out hB)
  clear hB g2 k0 k1 k2 k3 k4 lz lg
  go_wp2_with fail
  go_ret3
  exact ⟨rfl, B2.out⟩

theorem Bend_ex (b1 b2 b3 : Nat) (w : World) (h : Ex w b1 b2 b3) : Calls Tryz.prog 32 #[exV b1 b2 b3, .int .i64 0, .int .i64 20] w fun e w' => e = .returned (.int .i64 300) ∧ Below w.heap.size w w' := by
  have HE := Lib.hid h
  clear h
  go_enter Tryz.func32, Tryz.ntmps32
  go_wp2_with fail
  refine (isValid_ex b1 b2 b3 _ (HE.out.below (by repeat (first | exact Below.refl _ _ | exact Nat.le_refl _ | (apply Below.alloc) | (apply Below.drew) | (simp <;> omega))))).mono ?_
  rintro e w1 ⟨rfl, hB⟩
  have g2 := bc hB (b := w.heap.size) (o := 2) (v := .slice (some ⟨b2, 0, none⟩) 1 1) (by simp [go_sem])
  have lg := cell_lt g2
  have B1 : Hid (Below w.heap.size w w1) := Lib.hid (Below.up (u := w) (by repeat (first | exact Below.refl _ _ | exact Nat.le_refl _ | (apply Below.alloc) | (apply Below.drew) | (simp <;> omega))) hB)
  have E1 := Lib.hid (HE.out.below B1.out)
  clear hB
  go_wp2_with fail
  refine (bend_ex b1 b2 b3 _ E1.out).mono ?_
  rintro e w2 ⟨rfl, hB⟩
  have B2 : Hid (Below w.heap.size w w2) := Lib.hid (Below.up B1.out hB)
  clear hB g2 lg
  go_wp2_with fail
  go_ret
  exact ⟨rfl, B2.out⟩
end Go.Proofs.YteoahbpfhfjfmaaGreatDoor
