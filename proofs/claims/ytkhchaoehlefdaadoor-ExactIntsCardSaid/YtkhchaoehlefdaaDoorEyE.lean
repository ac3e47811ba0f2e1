/- Contracts: Len32, LeadingZeros32. -/
import Derived.Test.YtkhchaoehlefdaaDoorEyD
import Derived.Lib.BitFns
import Derived.Lib.Small
set_option linter.unusedVariables false
set_option linter.unusedSimpArgs false
namespace Go.Proofs.YtkhchaoehlefdaaDoor
open Go.RowKit

theorem tab8 : (Lib.len8tab.size : Int) = 256 := by rw [Lib.len8tab_size]; rfl
/-- A byte of the table, at a number below 256. -/
theorem at8 (y : Int) (h : y.toNat < Lib.len8tab.size) (h0 : 0 ≤ y) (h1 : y ≤ 255) : ((Lib.len8tab[y.toNat]'h).toNat : Int) = (Lib.bitLen y.toNat : Int) := by
  rw [← Lib.len8_of y h0 h1]
  unfold Lib.len8
  rw [getElem?_pos Lib.len8tab y.toNat h]
  rfl
theorem sum8 (k a b : Nat) (hk : k ≤ 56) (ha : a ≤ 8) (hb : b = k + a) : wrap64 ((k : Int) + wrap64 (a : Int)) = (b : Int) := by unfold wrap64; omega
theorem sum80 (a : Nat) (ha : a ≤ 8) : wrap64 (wrap64 (a : Int)) = (a : Int) := by unfold wrap64; omega

set_option maxHeartbeats 4000000 in
set_option maxRecDepth 100000 in
theorem len32_any (x : Int) (w : World) (h0 : 0 ≤ x) (h1 : x ≤ 4294967295) :
    Calls Tryd.prog 90 #[.int .u32 x] w fun e w' => e = .returned (.int .i64 (Lib.bitLen x.toNat)) ∧ w = w' := by
  go_enter Tryd.func90, Tryd.ntmps90
  go_wp2
  all_goals first
    | (go_ret; refine ⟨congrArg Ending.returned (congrArg (Value.int IntKind.i64) ?_), rfl⟩)
    | (exfalso; have hs := tab8; omega)
  all_goals first
    | (rw [at8 (x / 65536 / 256) _ (by omega) (by omega)]
       have e : (x / 65536 / 256).toNat = x.toNat / 16777216 := by omega
       have l := Lib.bitLen_le8' (x / 65536 / 256) (by omega) (by omega)
       have s := Lib.bitLen_shift24 x.toNat (by omega) (by omega)
       rw [e] at l ⊢
       exact sum8 24 _ _ (by decide) l s)
    | (rw [at8 (x / 65536) _ (by omega) (by omega)]
       have e : (x / 65536).toNat = x.toNat / 65536 := by omega
       have l := Lib.bitLen_le8' (x / 65536) (by omega) (by omega)
       have s := Lib.bitLen_shift16 x.toNat (by omega) (by omega)
       rw [e] at l ⊢
       exact sum8 16 _ _ (by decide) l s)
    | (rw [at8 (x / 256) _ (by omega) (by omega)]
       have e : (x / 256).toNat = x.toNat / 256 := by omega
       have l := Lib.bitLen_le8' (x / 256) (by omega) (by omega)
       have s := Lib.bitLen_shift8 x.toNat (by omega) (by omega)
       rw [e] at l ⊢
       exact sum8 8 _ _ (by decide) l s)
    | (rw [at8 x _ (by omega) (by omega)]
       exact sum80 _ (Lib.bitLen_le8' x (by omega) (by omega)))

/-- A number's highest bit. -/
theorem bitLen_pow (f : Nat) : ∀ x : Nat, 0 < x → x < 2 ^ f → ∃ k, Lib.bitLenAux f x = k + 1 ∧ 2 ^ k ≤ x ∧ x < 2 ^ (k + 1) ∧ k < f := by
  induction f with
  | zero => intro x h0 h1; simp at h1; omega
  | succ f ih =>
    intro x h0 h1
    simp only [Lib.bitLenAux]
    rw [if_neg (by omega)]
    by_cases hx : x < 2
    · have : x = 1 := by omega
      subst this
      refine ⟨0, ?_, by decide, by decide, by omega⟩
      cases f <;> simp [Lib.bitLenAux]
    · obtain ⟨k, e, a, b, c⟩ := ih (x / 2) (by omega) (by rw [Nat.pow_succ] at h1; omega)
      refine ⟨k + 1, by rw [e]; omega, ?_, ?_, by omega⟩
      · rw [Nat.pow_succ]; omega
      · rw [Nat.pow_succ]; omega

set_option maxHeartbeats 800000 in
theorem lead32 (x : Int) (w : World) (h0 : 0 < x) (h1 : x ≤ 4294967295) :
    Calls Tryd.prog 82 #[.int .u32 x] w fun e w' => ∃ s : Nat, e = .returned (.int .i64 s) ∧ s < 32 ∧ 2147483648 ≤ x * 2 ^ s ∧ x * 2 ^ s ≤ 4294967295 ∧ w = w' := by
  obtain ⟨k, e, a, b, _⟩ := bitLen_pow 64 x.toNat (by omega) (by omega)
  have hk : k < 32 := by
    by_cases h : k < 32
    · exact h
    · exfalso
      have : 2 ^ 32 ≤ 2 ^ k := Nat.pow_le_pow_right (by decide) (by omega)
      omega
  have HE := Lib.hid (show Lib.bitLen x.toNat = k + 1 from e)
  have H0 := Lib.hid (show 2147483648 ≤ x * 2 ^ (31 - k) ∧ x * 2 ^ (31 - k) ≤ 4294967295 by
    obtain ⟨n, rfl⟩ := Int.eq_ofNat_of_zero_le (show 0 ≤ x by omega)
    simp only [Int.toNat_natCast] at a b
    have e1 : (2147483648 : Nat) = 2 ^ k * 2 ^ (31 - k) := by rw [← Nat.pow_add, show k + (31 - k) = 31 by omega]
    have e2 : (4294967296 : Nat) = 2 ^ (k + 1) * 2 ^ (31 - k) := by rw [← Nat.pow_add, show k + 1 + (31 - k) = 32 by omega]
    have p : 0 < 2 ^ (31 - k) := Nat.two_pow_pos _
    have a' : 2 ^ k * 2 ^ (31 - k) ≤ n * 2 ^ (31 - k) := Nat.mul_le_mul_right _ a
    have b' : n * 2 ^ (31 - k) < 2 ^ (k + 1) * 2 ^ (31 - k) := Nat.mul_lt_mul_of_pos_right b p
    have e3 : ((n : Int) * 2 ^ (31 - k)) = ((n * 2 ^ (31 - k) : Nat) : Int) := by rw [Int.natCast_mul, Int.natCast_pow]; rfl
    rw [e3]
    omega)
  have hw : IntKind.i64.wrap (32 - ((k + 1 : Nat) : Int)) = ((31 - k : Nat) : Int) := by rw [IntWalk.i64_in _ (by omega)]; omega
  clear e a b
  go_enter Tryd.func82, Tryd.ntmps82
  go_wp2_with fail
  refine (len32_any x w (by omega) h1).mono ?_
  rintro e w1 ⟨rfl, rfl⟩
  rw [HE.out]
  go_wp2_with fail
  go_ret
  exact ⟨31 - k, ret_int (by omega), by omega, H0.out.1, H0.out.2, rfl⟩
end Go.Proofs.YtkhchaoehlefdaaDoor
