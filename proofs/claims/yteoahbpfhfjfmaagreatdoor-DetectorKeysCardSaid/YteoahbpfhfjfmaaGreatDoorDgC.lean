/- Layer 3: the cell of a key. -/
import Derived.Test.YteoahbpfhfjfmaaGreatDoorDaC
set_option linter.unusedVariables false
set_option linter.unusedSimpArgs false
namespace Go.Proofs.YteoahbpfhfjfmaaGreatDoor
open Go.RowKit

def kdB (n : Int) : Bool := inB n 0 67108863
def kd0 (n : Int) : Int := if kdB n then n / 1048576 else 0
def kd1 (n : Int) : Int := if kdB n then n / 1024 % 1024 else 0
def kd2 (n : Int) : Int := if kdB n then n % 1024 else 0
theorem Keyed_any (n : Int) (w : World) :
    Calls Tryz.prog 26 #[.int .i64 n] w fun e w' => e = .returned (.tuple #[.agg #[.int .i64 (kd0 n), .int .i64 (kd1 n), .int .i64 (kd2 n)], .bool (kdB n)]) ∧ Below w.heap.size w w' := by
  cases h : inB n 0 67108863
  · go_enter Tryz.func26, Tryz.ntmps26
    go_wp2_with (go_at_call 55; refine (within _ _ _ _).mono ?_; rintro e w' ⟨rfl, rfl⟩)
    refine bodyPost_ret (v := .tuple #[.agg #[.int .i64 (kd0 n), .int .i64 (kd1 n), .int .i64 (kd2 n)], .bool (kdB n)]) ?_ rfl ⟨rfl, ?_⟩
    · simp [results, Tryz.results26, go_sem, kd0, kd1, kd2, kdB, h]
    · repeat (first | exact Below.refl _ _ | exact Nat.le_refl _ | (apply Below.alloc) | (simp <;> omega))
  · obtain ⟨a0, a1⟩ := inB_true.1 h
    go_enter Tryz.func26, Tryz.ntmps26
    go_wp2_with (go_at_call 55; refine (within _ _ _ _).mono ?_; rintro e w' ⟨rfl, rfl⟩)
    refine bodyPost_ret (v := .tuple #[.agg #[.int .i64 (kd0 n), .int .i64 (kd1 n), .int .i64 (kd2 n)], .bool (kdB n)]) ?_ rfl ⟨rfl, ?_⟩
    · simp [results, Tryz.results26, go_sem, kd0, kd1, kd2, kdB, h]
    · repeat (first | exact Below.refl _ _ | exact Nat.le_refl _ | (apply Below.alloc) | (simp <;> omega))
theorem refKeyed_any (n : Int) (w : World) :
    Calls Tryz.prog 27 #[.int .i64 n] w fun e w' => e = .returned (.tuple #[.agg #[.int .i64 (kd0 n), .int .i64 (kd1 n), .int .i64 (kd2 n)], .bool (kdB n)]) ∧ Below w.heap.size w w' := by
  cases h : inB n 0 67108863
  · go_enter Tryz.func27, Tryz.ntmps27
    go_wp2_with (go_at_call 50; refine (in_any _ _ _ _).mono ?_; rintro e w' ⟨rfl, rfl⟩)
    refine bodyPost_ret (v := .tuple #[.agg #[.int .i64 (kd0 n), .int .i64 (kd1 n), .int .i64 (kd2 n)], .bool (kdB n)]) ?_ rfl ⟨rfl, ?_⟩
    · simp [results, Tryz.results27, go_sem, kd0, kd1, kd2, kdB, h]
    · repeat (first | exact Below.refl _ _ | exact Nat.le_refl _ | (apply Below.alloc) | (simp <;> omega))
  · obtain ⟨a0, a1⟩ := inB_true.1 h
    go_enter Tryz.func27, Tryz.ntmps27
    go_wp2_with (go_at_call 50; refine (in_any _ _ _ _).mono ?_; rintro e w' ⟨rfl, rfl⟩)
    refine bodyPost_ret (v := .tuple #[.agg #[.int .i64 (kd0 n), .int .i64 (kd1 n), .int .i64 (kd2 n)], .bool (kdB n)]) ?_ rfl ⟨rfl, ?_⟩
    · simp [results, Tryz.results27, go_sem, kd0, kd1, kd2, kdB, h]
    · repeat (first | exact Below.refl _ _ | exact Nat.le_refl _ | (apply Below.alloc) | (simp <;> omega))
theorem kd_key {a b c : Int} (h : keyB a b c = true) : kdB (keyN a b c) = true ∧ kd0 (keyN a b c) = a ∧ kd1 (keyN a b c) = b ∧ kd2 (keyN a b c) = c := by
  have hk : keyN a b c = a * 1048576 + b * 1024 + c := by simp [keyN, h]
  simp only [keyB, Bool.and_eq_true, inB_true] at h
  obtain ⟨⟨⟨a0, a1⟩, b0, b1⟩, c0, c1⟩ := h
  have hb : kdB (keyN a b c) = true := by rw [hk]; exact inB_true.2 ⟨by omega, by omega⟩
  refine ⟨hb, ?_⟩
  simp only [kd0, kd1, kd2, hb, if_true]
  omega
theorem key_kd {n : Int} (h : kdB n = true) : keyB (kd0 n) (kd1 n) (kd2 n) = true ∧ keyN (kd0 n) (kd1 n) (kd2 n) = n := by
  have h' := h
  simp only [kdB, inB_true] at h'
  have hk : keyB (kd0 n) (kd1 n) (kd2 n) = true := by
    simp only [keyB, kd0, kd1, kd2, h, if_true, Bool.and_eq_true, inB_true]
    omega
  refine ⟨hk, ?_⟩
  simp only [keyN, hk, if_true]
  simp only [kd0, kd1, kd2, h, if_true]
  omega
end Go.Proofs.YteoahbpfhfjfmaaGreatDoor
