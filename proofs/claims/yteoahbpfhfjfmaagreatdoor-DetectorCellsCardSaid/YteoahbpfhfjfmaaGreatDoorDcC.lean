/- Layer 3: the example is valid. -/
import Derived.Test.YteoahbpfhfjfmaaGreatDoorDcB
set_option linter.unusedVariables false
set_option linter.unusedSimpArgs false
namespace Go.Proofs.YteoahbpfhfjfmaaGreatDoor
open Go.RowKit

set_option maxRecDepth 20000 in
set_option maxHeartbeats 800000 in
theorem Check_ex (b1 b2 b3 : Nat) (w : World) (h : Ex w b1 b2 b3) : Calls Tryz.prog 11 #[exV b1 b2 b3] w fun e w' => e = .returned (.tuple #[.int .i64 0, .int .i64 0, .int .i64 0]) ∧ Below w.heap.size w w' := by
  have HE := Lib.hid h
  clear h
  go_enter Tryz.func11, Tryz.ntmps11
  go_wp2_with fail
  refine (checkWhole_ex b1 b2 b3 _).mono ?_
  rintro e w1 ⟨rfl, hB⟩
  have B1 : Hid (Below w.heap.size w w1) := Lib.hid (Below.up (u := w) (by repeat (first | exact Below.refl _ _ | exact Nat.le_refl _ | (apply Below.alloc) | (apply Below.drew) | (apply Below.drewN) | (simp <;> omega))) hB)
  have c10 := bc hB (b := w.heap.size) (o := 0) (v := .string ⟨#[97]⟩) (by simp [go_sem])
  have c11 := bc hB (b := w.heap.size) (o := 1) (v := .slice (some ⟨b1, 0, none⟩) 1 1) (by simp [go_sem])
  have c12 := bc hB (b := w.heap.size) (o := 2) (v := .slice (some ⟨b2, 0, none⟩) 1 1) (by simp [go_sem])
  have c13 := bc hB (b := w.heap.size) (o := 3) (v := .slice (some ⟨b3, 0, none⟩) 1 1) (by simp [go_sem])
  have hz := hB.size
  simp only [World.size_alloc] at hz
  have l1 : w.heap.size < w1.heap.size := by omega
  have E1 := Lib.hid (HE.out.below B1.out)
  clear hB hz
  go_wp2_with fail
  refine (checkPlanes_ex b1 b2 b3 _ E1.out).mono ?_
  rintro e w2 ⟨rfl, hB⟩
  have B2 : Hid (Below w.heap.size w w2) := Lib.hid (Below.up B1.out hB)
  have c20 := bc hB c10
  have c21 := bc hB c11
  have c22 := bc hB c12
  have c23 := bc hB c13
  have l2 : w.heap.size < w2.heap.size := by have := hB.size; omega
  have E2 := Lib.hid (HE.out.below B2.out)
  clear hB c10 c11 c12 c13
  go_wp2_with fail
  refine (checkSlabs_ex b1 b2 b3 _ E2.out).mono ?_
  rintro e w3 ⟨rfl, hB⟩
  have B3 : Hid (Below w.heap.size w w3) := Lib.hid (Below.up B2.out hB)
  have c30 := bc hB c20
  have c31 := bc hB c21
  have c32 := bc hB c22
  have c33 := bc hB c23
  have l3 : w.heap.size < w3.heap.size := by have := hB.size; omega
  have E3 := Lib.hid (HE.out.below B3.out)
  clear hB c20 c21 c22 c23
  go_wp2_with fail
  refine (checkCables_ex b1 b2 b3 _ E3.out).mono ?_
  rintro e w4 ⟨rfl, hB⟩
  have B4 : Hid (Below w.heap.size w w4) := Lib.hid (Below.up B3.out hB)
  have c40 := bc hB c30
  have c41 := bc hB c31
  have c42 := bc hB c32
  have c43 := bc hB c33
  have l4 : w.heap.size < w4.heap.size := by have := hB.size; omega
  have E4 := Lib.hid (HE.out.below B4.out)
  clear hB c30 c31 c32 c33
  go_wp2_with fail
  go_ret3
  exact ⟨rfl, B4.out⟩

theorem isValid_ex (b1 b2 b3 : Nat) (w : World) (h : Ex w b1 b2 b3) : Calls Tryz.prog 58 #[exV b1 b2 b3] w fun e w' => e = .returned (.bool true) ∧ Below w.heap.size w w' := by
  have HE := Lib.hid h
  clear h
  go_enter Tryz.func58, Tryz.ntmps58
  go_wp2_with fail
  refine (Check_ex b1 b2 b3 _ (HE.out.below (by repeat (first | exact Below.refl _ _ | exact Nat.le_refl _ | (apply Below.alloc) | (apply Below.drew) | (apply Below.drewN) | (simp <;> omega))))).mono ?_
  rintro e w1 ⟨rfl, hB⟩
  have B1 : Hid (Below w.heap.size w w1) := Lib.hid (Below.up (u := w) (by repeat (first | exact Below.refl _ _ | exact Nat.le_refl _ | (apply Below.alloc) | (apply Below.drew) | (apply Below.drewN) | (simp <;> omega))) hB)
  clear hB
  go_wp2_with fail
  go_ret
  exact ⟨rfl, B1.out⟩
end Go.Proofs.YteoahbpfhfjfmaaGreatDoor
