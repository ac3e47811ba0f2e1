/- Contract: shiftLeft. -/
import Derived.Test.YtkhchaoehlefdaaDoorEyB
set_option linter.unusedVariables false
set_option linter.unusedSimpArgs false
namespace Go.Proofs.YtkhchaoehlefdaaDoor
open Go.RowKit

theorem P_pow (n : Nat) : P n = 2 ^ (32 * n) := by
  unfold P
  rw [Int.pow_mul]; rfl
theorem pow_split (b : Nat) : (2 : Int) ^ b = P (b / 32) * 2 ^ (b % 32) := by
  rw [P_pow, ← Int.pow_add, Nat.div_add_mod]
theorem V_from {x : Nat → Int} {k : Nat} (h : ∀ j, j < k → x j = 0) (n : Nat) : V x (k + n) = P k * V (sh x k) n := by
  rw [V_add, V_zeros h, Int.zero_add]

theorem nt_nil (w : World) (base : Nat) : Nt w base (.slice none 0 0) 0 0 := ⟨fun _ => 0, ⟨_, _, rfl, Nat.le_refl _, Dg_zero, fun h => absurd h (by omega)⟩, rfl, fun h => absurd h (by omega)⟩

set_option maxHeartbeats 1600000 in
set_option maxRecDepth 100000 in
theorem shiftLeft_nr {w : World} {u : Value} {n : Nat} {p : Int} (by' : Nat) (hu : Nr w u n p) (hn : n ≤ 1000000) (hby : by' ≤ 1000000) :
    Calls Tryd.prog 92 #[u, .int .i64 by'] w fun e w' => ∃ v k, e = .returned v ∧ Nt w' w.heap.size v k (2 ^ by' * p) ∧ k ≤ by' / 32 + n + 1 ∧ Below w.heap.size w w' := by
  by_cases h0 : n = 0
  · subst h0
    have hp : p = 0 := hu.zero.1 rfl
    subst hp
    obtain ⟨a, cap, x, rfl, _⟩ := hu
    go_enter Tryd.func92, Tryd.ntmps92
    go_wp2_with fail
    go_ret
    exact ⟨_, 0, rfl, by rw [Int.mul_zero]; exact nt_nil _ _, by omega, Below.refl _ _⟩
  · obtain ⟨a, cap, x, rfl, hc, hx, hr, ht, rfl⟩ := hu
    have HX := Lib.hid hx
    have HR := Lib.hid hr
    have e1 : ((by' : Int)).tdiv 32 = ((by' / 32 : Nat) : Int) := by rw [Int.tdiv_eq_ediv_of_nonneg (by omega)]; omega
    have e2 : ((by' : Int)).tmod 32 = ((by' % 32 : Nat) : Int) := by rw [Int.tmod_eq_emod_of_nonneg (by omega)]; omega
    have hs1 : by' / 32 ≤ 1000000 := by omega
    have hs2 : by' % 32 < 32 := by omega
    have HE := Lib.hid (pow_split by')
    clear hx hr ht
    generalize hsk : by' / 32 = sk at *
    generalize hsb : by' % 32 = sb at *
    have HK := Lib.hid (And.intro hsk hsb)
    clear hsk hsb
    go_enter Tryd.func92, Tryd.ntmps92
    go_wp2_with (at_make; refine make32 rfl _ _ _ rfl (by kernel_rfl) (sk + n + 1) _ _ rfl rfl (by omega) (by omega) (by omega) ?_; intro w1 hO hB)
    have hs := sl_below HR.out hB
    have hne := sl_ne HR.out (Nat.le_refl w.heap.size)
    refine (shiftInto_any w.heap.size sk n (sk + n + 1 - sk) (sk + n + 1) (sk + n + 1 - sk) cap sb a (fun _ => 0) x w1 (by omega) (by omega) (by omega) hs2 Dg_zero HX.out hO hs hne).mono ?_
    rintro e w2 ⟨z, rfl, hO2, hd2, hz2, hv2, hC2⟩
    have HV := Lib.hid (show V z (sk + (n + 1)) = 2 ^ by' * V x n by
      rw [V_from (fun j hj => hz2 j (by omega)), hv2, HE.out, Int.mul_assoc])
    have HB := Lib.hid (Chg.below hB hC2 hB.size (Nat.le_refl _))
    clear hs hne hz2 hv2 hC2 hB hO
    go_wp2_with fail
    refine (trim_any _ (sk + n + 1) _ z w2 (by omega) (by omega) (sl_own hO2 (by omega))).mono ?_
    rintro e w4 ⟨rfl, rfl⟩
    go_wp2_with fail
    go_ret
    refine ⟨_, _, rfl, ?_, tl_le z _, HB.out⟩
    have := nt_of_trim hO2 hd2 (Nat.le_refl w.heap.size) (Nat.le_refl (sk + n + 1)) (Nat.le_refl (sk + n + 1))
    rw [show V z (sk + n + 1) = _ from HV.out] at this
    exact this
end Go.Proofs.YtkhchaoehlefdaaDoor
