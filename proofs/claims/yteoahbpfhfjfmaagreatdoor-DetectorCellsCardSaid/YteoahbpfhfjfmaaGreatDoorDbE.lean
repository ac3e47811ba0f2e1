/- Layer 3: contracts: isBlock, checkCable. -/
import Derived.Test.YteoahbpfhfjfmaaGreatDoorDbD
import Derived.Deep.RegionWith
import Derived.Deep.RegionHeld3
set_option linter.unusedVariables false
set_option linter.unusedSimpArgs false
namespace Go.Proofs.YteoahbpfhfjfmaaGreatDoor
open Go.RowKit

def blockB (c3 c4 c5 c6 p2 p3 : Int) : Bool := partB c3 c5 p2 && partB c4 c6 p3 && decide (c5 * c6 ≤ 4096)
theorem partB_true {f n a : Int} : partB f n a = true ↔ 0 ≤ f ∧ 1 ≤ n ∧ n ≤ a - f := by unfold partB; exact decide_eq_true_iff

set_option maxRecDepth 20000 in
set_option maxHeartbeats 800000 in
theorem isBlock_any (c0 c1 c2 c3 c4 c5 c6 c7 c8 p0 p1 p2 p3 p4 p5 p6 : Int) (w : World) (h2 : 0 ≤ p2 ∧ p2 ≤ 1024) (h3 : 0 ≤ p3 ∧ p3 ≤ 1024)
    (b3 : -9223372036854775808 ≤ c3 ∧ c3 ≤ 9223372036854775807) (b4 : -9223372036854775808 ≤ c4 ∧ c4 ≤ 9223372036854775807) :
    Calls Tryz.prog 101 #[.agg #[.int .i64 c0, .int .i64 c1, .int .i64 c2, .int .i64 c3, .int .i64 c4, .int .i64 c5, .int .i64 c6, .int .i64 c7, .int .i64 c8], .agg #[.int .i64 p0, .int .i64 p1, .int .i64 p2, .int .i64 p3, .int .i64 p4, .int .i64 p5, .int .i64 p6]] w fun e w' => e = .returned (.bool (blockB c3 c4 c5 c6 p2 p3)) ∧ Below w.heap.size w w' := by
  obtain ⟨h20, h21⟩ := h2
  obtain ⟨h30, h31⟩ := h3
  have P1 : Hid (∀ w : World, Calls Tryz.prog 111 #[.int .i64 c3, .int .i64 c5, .int .i64 p2] w fun e w' => e = .returned (.bool (partB c3 c5 p2)) ∧ w = w') := Lib.hid fun w => isPart_any _ _ _ w (by omega) b3
  have P2 : Hid (∀ w : World, Calls Tryz.prog 111 #[.int .i64 c4, .int .i64 c6, .int .i64 p3] w fun e w' => e = .returned (.bool (partB c4 c6 p3)) ∧ w = w') := Lib.hid fun w => isPart_any _ _ _ w (by omega) b4
  cases g1 : partB c3 c5 p2
  · go_enter Tryz.func101, Tryz.ntmps101
    go_wp2_with (go_at_call 111; refine (isPart_any _ _ _ _ (by omega) b3).mono ?_; rintro e w' ⟨rfl, rfl⟩)
    go_ret
    exact ⟨ret_bool (by simp [blockB, g1]), by repeat (first | exact Below.refl _ _ | exact Nat.le_refl _ | (apply Below.alloc) | (simp <;> omega))⟩
  · cases g2 : partB c4 c6 p3
    · go_enter Tryz.func101, Tryz.ntmps101
      go_wp2_with (go_at_call 111; first | ((with_reducible refine (P1.out _).mono ?_); rintro e w' ⟨rfl, rfl⟩) | ((with_reducible refine (P2.out _).mono ?_); rintro e w' ⟨rfl, rfl⟩))
      go_ret
      exact ⟨ret_bool (by simp [blockB, g2]), by repeat (first | exact Below.refl _ _ | exact Nat.le_refl _ | (apply Below.alloc) | (simp <;> omega))⟩
    · obtain ⟨q0, q1, q2⟩ := partB_true.1 g1
      obtain ⟨r0, r1, r2⟩ := partB_true.1 g2
      have m1 : c5 * c6 ≤ 1024 * 1024 := Int.mul_le_mul (by omega) (by omega) (by omega) (by omega)
      have m0 : 0 ≤ c5 * c6 := Int.mul_nonneg (by omega) (by omega)
      go_enter Tryz.func101, Tryz.ntmps101
      go_wp2_with (go_at_call 111; first | ((with_reducible refine (P1.out _).mono ?_); rintro e w' ⟨rfl, rfl⟩) | ((with_reducible refine (P2.out _).mono ?_); rintro e w' ⟨rfl, rfl⟩))
      all_goals
        go_ret
        exact ⟨ret_bool (by simp [blockB, g1, g2]), by repeat (first | exact Below.refl _ _ | exact Nat.le_refl _ | (apply Below.alloc) | (simp <;> omega))⟩

/-- The fault of a cable alone, beside n planes. -/
def cabE (n : Nat) (p : Nat → Nat → Int) (c : Nat → Int) : Int :=
  if (inB (c 0) 0 15 && inB (c 1) 0 31 && spanB (c 7) (c 8) 1099511627776) = false then 4
  else if inB (c 2) 0 (n - 1) = false then 7
  else if blockB (c 3) (c 4) (c 5) (c 6) (p (c 2).toNat 2) (p (c 2).toNat 3) = false then 4 else 0

set_option maxRecDepth 20000 in
set_option maxHeartbeats 1600000 in
theorem checkCable_any (v : Value) (n : Nat) (p : Nat → Nat → Int) (c : Nat → Int) (w : World) (hv : Sl 7 w v n p) (hn : n ≤ 1000000)
    (hp : ∀ i, i < n → 0 ≤ p i 2 ∧ p i 2 ≤ 1024 ∧ 0 ≤ p i 3 ∧ p i 3 ≤ 1024) (hc : ∀ k, -9223372036854775808 ≤ c k ∧ c k ≤ 9223372036854775807) :
    Calls Tryz.prog 81 #[.agg #[.int .i64 (c 0), .int .i64 (c 1), .int .i64 (c 2), .int .i64 (c 3), .int .i64 (c 4), .int .i64 (c 5), .int .i64 (c 6), .int .i64 (c 7), .int .i64 (c 8)], v] w fun e w' => e = .returned (.int .i64 (cabE n p c)) ∧ Below w.heap.size w w' := by
  obtain ⟨a, cap, rfl, hcap, hp', hr⟩ := hv
  have HR := Lib.hid hr
  have HP := Lib.hid hp
  have b3 := Lib.hid (hc 3)
  have b4 := Lib.hid (hc 4)
  clear hr hp hp' hc
  have D : Hid (cabE n p c = (if (inB (c 0) 0 15 && inB (c 1) 0 31 && spanB (c 7) (c 8) 1099511627776) = false then 4
    else if inB (c 2) 0 (n - 1) = false then 7
    else if blockB (c 3) (c 4) (c 5) (c 6) (p (c 2).toNat 2) (p (c 2).toNat 3) = false then 4 else 0)) := Lib.hid rfl
  generalize cabE n p c = E at *
  have G : Hid ((inB (c 0) 0 15 && inB (c 1) 0 31 && spanB (c 7) (c 8) 1099511627776) = false → E = 4) := Lib.hid fun h => by rw [D.out, if_pos h]
  cases g1 : inB (c 0) 0 15
  · have e := Lib.hid (G.out (by simp [g1]))
    go_enter Tryz.func81, Tryz.ntmps81
    go_wp2_with (first | (go_at_call 55; refine (within _ _ _ _).mono ?_; rintro e w' ⟨rfl, rfl⟩) | (go_at_call 100; refine (isSpan_any _ _ _ _).mono ?_; rintro e w' ⟨rfl, rfl⟩))
    go_ret
    exact ⟨ret_int e.out.symm, by repeat (first | exact Below.refl _ _ | exact Nat.le_refl _ | (apply Below.alloc) | (simp <;> omega))⟩
  cases g2 : inB (c 1) 0 31
  · have e := Lib.hid (G.out (by simp [g2]))
    go_enter Tryz.func81, Tryz.ntmps81
    go_wp2_with (first | (go_at_call 55; refine (within _ _ _ _).mono ?_; rintro e w' ⟨rfl, rfl⟩) | (go_at_call 100; refine (isSpan_any _ _ _ _).mono ?_; rintro e w' ⟨rfl, rfl⟩))
    go_ret
    exact ⟨ret_int e.out.symm, by repeat (first | exact Below.refl _ _ | exact Nat.le_refl _ | (apply Below.alloc) | (simp <;> omega))⟩
  cases g3 : spanB (c 7) (c 8) 1099511627776
  · have e := Lib.hid (G.out (by simp [g3]))
    go_enter Tryz.func81, Tryz.ntmps81
    go_wp2_with (first | (go_at_call 55; refine (within _ _ _ _).mono ?_; rintro e w' ⟨rfl, rfl⟩) | (go_at_call 100; refine (isSpan_any _ _ _ _).mono ?_; rintro e w' ⟨rfl, rfl⟩))
    go_ret
    exact ⟨ret_int e.out.symm, by repeat (first | exact Below.refl _ _ | exact Nat.le_refl _ | (apply Below.alloc) | (simp <;> omega))⟩
  have G2 : Hid (¬ (inB (c 0) 0 15 && inB (c 1) 0 31 && spanB (c 7) (c 8) 1099511627776) = false) := Lib.hid (by simp [g1, g2, g3])
  cases g4 : inB (c 2) 0 (n - 1)
  · have e : Hid (E = 7) := Lib.hid (by rw [D.out, if_neg G2.out, if_pos g4])
    go_enter Tryz.func81, Tryz.ntmps81
    go_wp2_with (first | (go_at_call 55; refine (within _ _ _ _).mono ?_; rintro e w' ⟨rfl, rfl⟩) | (go_at_call 100; refine (isSpan_any _ _ _ _).mono ?_; rintro e w' ⟨rfl, rfl⟩))
    go_ret
    exact ⟨ret_int e.out.symm, by repeat (first | exact Below.refl _ _ | exact Nat.le_refl _ | (apply Below.alloc) | (simp <;> omega))⟩
  obtain ⟨k0, k1⟩ := inB_true.1 g4
  obtain ⟨b, off, rfl, hcell⟩ := HR.out (by omega)
  obtain ⟨i, hi⟩ := Int.eq_ofNat_of_zero_le k0
  have hin : i < n := by omega
  have HC := Lib.hid hcell
  have hit : (c 2).toNat = i := by omega
  rw [hit] at D
  have f0 := hcell i 0 hin (by omega)
  have f1 := hcell i 1 hin (by omega)
  have f2 := hcell i 2 hin (by omega)
  have f3 := hcell i 3 hin (by omega)
  have f4 := hcell i 4 hin (by omega)
  have f5 := hcell i 5 hin (by omega)
  have f6 := hcell i 6 hin (by omega)
  simp only [Nat.add_zero] at f0
  have hb := cell_lt f0
  obtain ⟨u2, v2, u3, v3⟩ := HP.out i hin
  have IB : Hid (∀ w : World, Calls Tryz.prog 101 #[.agg #[.int .i64 (c 0), .int .i64 (c 1), .int .i64 (c 2), .int .i64 (c 3), .int .i64 (c 4), .int .i64 (c 5), .int .i64 (c 6), .int .i64 (c 7), .int .i64 (c 8)], .agg #[.int .i64 (p i 0), .int .i64 (p i 1), .int .i64 (p i 2), .int .i64 (p i 3), .int .i64 (p i 4), .int .i64 (p i 5), .int .i64 (p i 6)]] w fun e w' => e = .returned (.bool (blockB (c 3) (c 4) (c 5) (c 6) (p i 2) (p i 3))) ∧ Below w.heap.size w w') :=
    Lib.hid fun w => isBlock_any _ _ _ _ _ _ _ _ _ _ _ _ _ _ _ _ w ⟨u2, v2⟩ ⟨u3, v3⟩ b3.out b4.out
  have i0 : (0 : Int) ≤ i := by omega
  have i1 : (i : Int) < n := by omega
  clear hcell HR hit u2 v2 u3 v3 HP b3 b4 k0 k1
  have D2 : Hid (E = if blockB (c 3) (c 4) (c 5) (c 6) (p i 2) (p i 3) = false then 4 else 0) := Lib.hid (by rw [D.out, if_neg G2.out, if_neg (by simp [g4])])
  clear D G G2
  generalize p i 0 = q0 at *
  generalize p i 1 = q1 at *
  generalize p i 2 = q2 at *
  generalize p i 3 = q3 at *
  generalize p i 4 = q4 at *
  generalize p i 5 = q5 at *
  generalize p i 6 = q6 at *
  rw [hi] at g4 IB ⊢
  cases g5 : blockB (c 3) (c 4) (c 5) (c 6) q2 q3
  · have e : Hid (E = 4) := Lib.hid (by rw [D2.out, g5]; rfl)
    rw [g5] at IB
    clear D2
    go_enter Tryz.func81, Tryz.ntmps81
    go_wp2_with (first | (go_at_call 55; refine (within _ _ _ _).mono ?_; rintro e w' ⟨rfl, rfl⟩) | (go_at_call 100; refine (isSpan_any _ _ _ _).mono ?_; rintro e w' ⟨rfl, rfl⟩))
    go_region_with (first | ((go_at_call 101; with_reducible refine (IB.out _).mono ?_); rintro e w1 ⟨rfl, hB⟩; have B0 := Lib.hid (Below.up (u := w) (by repeat (first | exact Below.refl _ _ | exact Nat.le_refl _ | (apply Below.alloc) | (apply Below.drew) | (apply Below.drewN) | (simp <;> omega))) hB); clear hB))
    all_goals
      go_wp2_with fail
      go_ret
      exact ⟨ret_int e.out.symm, B0.out⟩
  · have e : Hid (E = 0) := Lib.hid (by rw [D2.out, g5]; rfl)
    rw [g5] at IB
    clear D2
    go_enter Tryz.func81, Tryz.ntmps81
    go_wp2_with (first | (go_at_call 55; refine (within _ _ _ _).mono ?_; rintro e w' ⟨rfl, rfl⟩) | (go_at_call 100; refine (isSpan_any _ _ _ _).mono ?_; rintro e w' ⟨rfl, rfl⟩))
    go_region_with (first | ((go_at_call 101; with_reducible refine (IB.out _).mono ?_); rintro e w1 ⟨rfl, hB⟩; have B0 := Lib.hid (Below.up (u := w) (by repeat (first | exact Below.refl _ _ | exact Nat.le_refl _ | (apply Below.alloc) | (apply Below.drew) | (apply Below.drewN) | (simp <;> omega))) hB); clear hB))
    all_goals
      go_wp2_with fail
      go_ret
      exact ⟨ret_int e.out.symm, B0.out⟩
end Go.Proofs.YteoahbpfhfjfmaaGreatDoor
