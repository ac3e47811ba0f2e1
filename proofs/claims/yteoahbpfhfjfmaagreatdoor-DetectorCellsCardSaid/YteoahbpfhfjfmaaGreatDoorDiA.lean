/- Layer 3: the cell of a place: the program's number, the document's search. -/
import Derived.Test.YteoahbpfhfjfmaaGreatDoorDaG
set_option linter.unusedVariables false
set_option linter.unusedSimpArgs false
namespace Go.Proofs.YteoahbpfhfjfmaaGreatDoor
open Go.RowKit

/-- The number of the cell that holds c, of m cells of half width p: does c lie in one, and in which. -/
def cnB (c m p : Int) : Bool := decide (-(m * p) ≤ c) && decide (c < m * p)
def cnV (c m p : Int) : Int := if cnB c m p then (c + m * p) / (2 * p) else 0
theorem mp_bd {m p : Int} (h0 : 1 ≤ m) (h1 : m ≤ 1024) (h2 : 1 ≤ p) (h3 : p ≤ 4096) : 1 ≤ m * p ∧ m * p ≤ 4194304 := by
  have := mul_bd (a := m) (b := p) 1024 4096 (by omega) (by omega)
  refine ⟨?_, by omega⟩
  have : 1 * 1 ≤ m * p := Int.mul_le_mul h0 h2 (by omega) (by omega)
  omega
theorem cellNumber_any (c m p : Int) (w : World) (h0 : 1 ≤ m) (h1 : m ≤ 1024) (h2 : 1 ≤ p) (h3 : p ≤ 4096) :
    Calls Tryz.prog 56 #[.int .i64 c, .int .i64 m, .int .i64 p] w fun e w' => e = .returned (.tuple #[.int .i64 (cnV c m p), .bool (cnB c m p)]) ∧ w = w' := by
  obtain ⟨b0, b1⟩ := mp_bd h0 h1 h2 h3
  have hq : ∀ x : Int, 0 ≤ x → Int.tdiv x (2 * p) = x / (2 * p) := fun x hx => Int.tdiv_eq_ediv_of_nonneg hx
  by_cases g1 : c < -(m * p)
  · have e : cnB c m p = false := by unfold cnB; simp; omega
    go_enter Tryz.func56, Tryz.ntmps56
    go_wp2_with fail
    go_ret2
    exact ⟨by simp [cnV, e], rfl⟩
  · by_cases g2 : c < m * p
    · have e : cnB c m p = true := by unfold cnB; simp; omega
      go_enter Tryz.func56, Tryz.ntmps56
      go_wp2_with fail
      go_ret2
      exact ⟨by simp [cnV, e], rfl⟩
    · have e : cnB c m p = false := by unfold cnB; simp; omega
      go_enter Tryz.func56, Tryz.ntmps56
      go_wp2_with fail
      go_ret2
      exact ⟨by simp [cnV, e], rfl⟩

theorem cell_iff (c m p k : Int) (hp : 1 ≤ p) : ((2 * k - m) * p ≤ c ∧ c < (2 * k + 2 - m) * p) ↔ (c + m * p) / (2 * p) = k := by
  have e1 : (2 * k - m) * p = k * (2 * p) - m * p := by grind
  have e2 : (2 * k + 2 - m) * p = (k + 1) * (2 * p) - m * p := by grind
  have hq : 0 < 2 * p := by omega
  have i1 := Int.le_ediv_iff_mul_le (a := k) (b := c + m * p) hq
  have i2 := Int.ediv_lt_iff_lt_mul (a := c + m * p) (b := k + 1) hq
  rw [e1, e2]
  constructor
  · rintro ⟨a, b⟩
    have := i1.2 (by omega)
    have := i2.2 (by omega)
    omega
  · intro h
    have := i1.1 (by omega)
    have := i2.1 (by omega)
    omega
theorem cnB_iff (c m p : Int) (hp : 1 ≤ p) : cnB c m p = true ↔ 0 ≤ (c + m * p) / (2 * p) ∧ (c + m * p) / (2 * p) < m := by
  have hq : 0 < 2 * p := by omega
  have i1 := Int.le_ediv_iff_mul_le (a := 0) (b := c + m * p) hq
  have i2 := Int.ediv_lt_iff_lt_mul (a := c + m * p) (b := m) hq
  have e : m * (2 * p) = 2 * (m * p) := by grind
  unfold cnB
  simp only [Bool.and_eq_true, decide_eq_true_eq]
  rw [i1, i2, e]
  omega
def rcV (c m p : Int) : Int := if cnB c m p then (c + m * p) / (2 * p) else -1

set_option maxRecDepth 20000 in
theorem refCell_any (c m p : Int) (w : World) (h0 : 1 ≤ m) (h1 : m ≤ 1024) (h2 : 1 ≤ p) (h3 : p ≤ 4096) :
    Calls Tryz.prog 57 #[.int .i64 c, .int .i64 m, .int .i64 p] w fun e w' => e = .returned (.int .i64 (rcV c m p)) ∧ w = w' := by
  go_enter Tryz.func57, Tryz.ntmps57
  go_wp2_with fail
  go_loopw [6, 7] (fun u6 i wr => ∃ k : Nat, (k : Int) ≤ m ∧ i = .int .i64 k ∧ u6 = .int .i64 0 ∧ Hid (∀ j : Nat, j < k → (c + m * p) / (2 * p) ≠ j) ∧ wr = w) (fun _ i _ => m.toNat - (intOf i).toNat)
  case atStart => exact ⟨0, by omega, rfl, rfl, Lib.hid (fun i hi => absurd hi (by omega)), rfl⟩
  case round =>
    obtain ⟨k, hk, rfl, rfl, HF, rfl⟩ := hrel
    by_cases hlt : (k : Int) < m
    · obtain ⟨m0, m1⟩ := mul_bd (a := 2 * (k : Int) - m) (b := p) 2048 4096 (by omega) (by omega)
      obtain ⟨n0, n1⟩ := mul_bd (a := 2 * (k : Int) + 2 - m) (b := p) 2048 4096 (by omega) (by omega)
      have hi := cell_iff c m p k h2
      by_cases g1 : (2 * (k : Int) - m) * p ≤ c
      · by_cases g2 : c < (2 * (k : Int) + 2 - m) * p
        · have e := hi.1 ⟨g1, g2⟩
          have hb : cnB c m p = true := (cnB_iff c m p h2).2 (by omega)
          clear hi
          go_wp2_with fail
          go_ret
          exact ⟨by simp [rcV, hb, e], rfl⟩
        · have e : (c + m * p) / (2 * p) ≠ k := fun e => g2 (hi.2 e).2
          clear hi
          go_wp2_with fail
          go_roundw
          case rel => exact ⟨k + 1, by omega, by go_num, rfl, Lib.hid (fun j hj => by
            by_cases hjk : j = k
            · rw [hjk]; exact e
            · exact HF.out j (by omega)), by first | rfl | trivial⟩
          case measure => simp [intOf]; omega
      · have e : (c + m * p) / (2 * p) ≠ k := fun e => g1 (hi.2 e).1
        clear hi
        go_wp2_with fail
        go_roundw
        case rel => exact ⟨k + 1, by omega, by go_num, rfl, Lib.hid (fun j hj => by
          by_cases hjk : j = k
          · rw [hjk]; exact e
          · exact HF.out j (by omega)), by first | rfl | trivial⟩
        case measure => simp [intOf]; omega
    · have hb : cnB c m p = false := by
        cases hb : cnB c m p
        · rfl
        · have := (cnB_iff c m p h2).1 hb
          have := HF.out ((c + m * p) / (2 * p)).toNat (by omega)
          omega
      go_wp2_with fail
      go_ret
      exact ⟨by simp [rcV, hb], rfl⟩
end Go.Proofs.YteoahbpfhfjfmaaGreatDoor
