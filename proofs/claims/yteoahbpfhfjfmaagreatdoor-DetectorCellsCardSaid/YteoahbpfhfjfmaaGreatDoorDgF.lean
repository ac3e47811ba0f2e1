/- Layer 3: the text of the example, byte by byte. -/
import Derived.Test.YteoahbpfhfjfmaaGreatDoorDsE
set_option linter.unusedVariables false
set_option linter.unusedSimpArgs false
namespace Go.Proofs.YteoahbpfhfjfmaaGreatDoor
open Go.RowKit
theorem itoa_0 : Lib.itoa 0 = [48] := by rw [Lib.itoa]; simp [Lib.decDigits]
theorem itoa_1 : Lib.itoa 1 = [49] := by rw [Lib.itoa]; simp [Lib.decDigits]
theorem itoa_2 : Lib.itoa 2 = [50] := by rw [Lib.itoa]; simp [Lib.decDigits]
theorem itoa_3 : Lib.itoa 3 = [51] := by rw [Lib.itoa]; simp [Lib.decDigits]
theorem itoa_4 : Lib.itoa 4 = [52] := by rw [Lib.itoa]; simp [Lib.decDigits]
theorem itoa_5 : Lib.itoa 5 = [53] := by rw [Lib.itoa]; simp [Lib.decDigits]
theorem itoa_7 : Lib.itoa 7 = [55] := by rw [Lib.itoa]; simp [Lib.decDigits]
theorem itoa_10 : Lib.itoa 10 = [49, 48] := by rw [Lib.itoa]; simp [Lib.decDigits]
theorem itoa_20 : Lib.itoa 20 = [50, 48] := by rw [Lib.itoa]; simp [Lib.decDigits]
theorem itoa_100 : Lib.itoa 100 = [49, 48, 48] := by rw [Lib.itoa]; simp [Lib.decDigits]
theorem itoa_200 : Lib.itoa 200 = [50, 48, 48] := by rw [Lib.itoa]; simp [Lib.decDigits]
theorem exText_eq : exText = [100, 101, 116, 101, 99, 116, 111, 114, 32, 97, 10, 112, 108, 97, 110, 101, 32, 48, 32, 49, 48, 48, 32, 52, 32, 50, 32, 53, 32, 55, 32, 49, 10, 115, 108, 97, 98, 32, 48, 32, 49, 48, 32, 50, 48, 32, 51, 10, 99, 97, 98, 108, 101, 32, 50, 32, 53, 32, 48, 32, 49, 32, 48, 32, 51, 32, 50, 32, 49, 48, 48, 32, 50, 48, 48, 10] := by
  have p : exP 0 0 = 0 ∧ exP 0 1 = 100 ∧ exP 0 2 = 4 ∧ exP 0 3 = 2 ∧ exP 0 4 = 5 ∧ exP 0 5 = 7 ∧ exP 0 6 = 1 := by decide
  have f : exF 0 0 = 0 ∧ exF 0 1 = 10 ∧ exF 0 2 = 20 ∧ exF 0 3 = 3 := by decide
  have c : exC 0 0 = 2 ∧ exC 0 1 = 5 ∧ exC 0 2 = 0 ∧ exC 0 3 = 1 ∧ exC 0 4 = 0 ∧ exC 0 5 = 3 ∧ exC 0 6 = 2 ∧ exC 0 7 = 100 ∧ exC 0 8 = 200 := by decide
  simp [exText, numsL, p, f, c, itoa_0, itoa_1, itoa_2, itoa_3, itoa_4, itoa_5, itoa_7, itoa_10, itoa_20, itoa_100, itoa_200]
end Go.Proofs.YteoahbpfhfjfmaaGreatDoor
