/- Contract: highBits. -/
import Derived.RangeFuncRecord
import Derived.Test.YtkhchaoehlefdaaDoorEzB
import Derived.Test.YtkhchaoehlefdaaDoorExP
set_option linter.unusedVariables false
set_option linter.unusedSimpArgs false
namespace Go.Proofs.YtkhchaoehlefdaaDoor
open Go.RowKit

theorem word_any (pb n cap : Nat) (a : Option Addr) (x : Nat → Int) (w : World) (i : Int) (j : Nat) (hi : i = (j : Int)) (hj : j ≤ 1000000000) (hn : n ≤ 1000000000)
    (hc : w.cell? ⟨pb, 0, none⟩ = some (.slice a n cap)) (hx : Dg x) (hr : Sl w a n x) :
    Calls Tryd.prog 91 #[.int .i64 i, .pointer (some ⟨pb, 0, none⟩)] w fun e w' => e = .returned (.int .u64 (wd x n j)) ∧ ∃ m, w' = w.drewN m := by
  subst hi
  by_cases h : j < n
  · obtain ⟨d, o, rfl, hrow⟩ := hr (by omega)
    have g1 := hrow j h
    have e1 : wd x n j = x j := by unfold wd; rw [if_pos h]
    rw [e1]
    obtain ⟨b1, b2⟩ := hx j
    clear hx hr hrow e1
    generalize x j = xj at *
    go_enter Tryd.func91, Tryd.ntmps91
    go_wp2_with fail
    go_ret
    exact ⟨ret_int (by omega), 0, rfl⟩
  · have e1 : wd x n j = 0 := by unfold wd; rw [if_neg h]
    rw [e1]
    clear hx hr e1
    go_enter Tryd.func91, Tryd.ntmps91
    go_wp2_with fail
    go_ret
    exact ⟨ret_int (by omega), 0, rfl⟩

theorem or_high (c z : Int) (k : Nat) (hc : 0 ≤ c ∧ c < 2 ^ k) (hz : 0 ≤ z) (hb : z * 2 ^ k + c < 18446744073709551616) : bits BinOp.or IntKind.u64 (z * 2 ^ k) c = z * 2 ^ k + c := by
  obtain ⟨c, rfl⟩ := Int.eq_ofNat_of_zero_le hc.1
  obtain ⟨z, rfl⟩ := Int.eq_ofNat_of_zero_le hz
  have e : ((z : Int) * 2 ^ k) = ((z * 2 ^ k : Nat) : Int) := by rw [Int.natCast_mul, Int.natCast_pow]; rfl
  have hc2 : c < 2 ^ k := by have := hc.2; rw [show ((2 : Int) ^ k) = ((2 ^ k : Nat) : Int) by rw [Int.natCast_pow]; rfl] at this; omega
  rw [e] at hb ⊢
  rw [u64_or_nat _ _ (by omega) (by omega), nat_join k _ _ (Nat.mul_mod_left z _) hc2]
  omega

theorem pow_parts {s : Nat} (hs : s < 32) : (0 : Int) < 2 ^ s ∧ (0 : Int) < 2 ^ (32 - s) ∧ (2 : Int) ^ s * 2 ^ (32 - s) = 4294967296 := by
  refine ⟨Int.pow_pos (by decide), Int.pow_pos (by decide), ?_⟩
  rw [← Int.pow_add, show s + (32 - s) = 32 by omega]; rfl

set_option maxHeartbeats 4000000 in
theorem highBits_any (m cap k s : Nat) (a : Option Addr) (x : Nat → Int) (w : World) (hk : k ≤ 1000000) (hm : m ≤ 1000000) (hs : s < 32) (hx : Dg x) (hr : Sl w a m x)
    (ht : wd x m (k + 2) * 2 ^ s ≤ 4294967295) :
    Calls Tryd.prog 83 #[.slice a m cap, .int .i64 (k + 3), .int .i64 s] w fun e w' =>
      e = .returned (.int .u64 (hi64 (wd x m (k + 2)) (wd x m (k + 1)) (wd x m k) (2 ^ s) (2 ^ (32 - s)))) ∧ 0 ≤ hi64 (wd x m (k + 2)) (wd x m (k + 1)) (wd x m k) (2 ^ s) (2 ^ (32 - s)) ∧
      hi64 (wd x m (k + 2)) (wd x m (k + 1)) (wd x m k) (2 ^ s) (2 ^ (32 - s)) ≤ 18446744073709551615 ∧ Below w.heap.size w w' := by
  have hd := wd_dg hx m
  have hcell : ∀ z, ((w.alloc (.cells #[.slice a m cap] 64)).drewN z).cell? ⟨w.heap.size, 0, none⟩ = some (.slice a m cap) := by
    intro z
    unfold World.cell?
    rw [show ((w.alloc (.cells #[.slice a m cap] 64)).drewN z).heap[w.heap.size]? = _ from World.alloc_heap_new w _]
    rfl
  have W := Lib.hid (fun (z : Nat) (i : Int) (j : Nat) (hi : i = (j : Int)) (hj : j ≤ 1000000000) => word_any w.heap.size m cap a x ((w.alloc (.cells #[.slice a m cap] 64)).drewN z) i j hi hj (by omega)
    (hcell z) hx (Sl.below hr (below_drewN ((Below.refl _ _).alloc (Nat.le_refl _) _) z)))
  have W1 := Lib.hid (fun (z : Nat) (i : Int) (hi : i = ((k + 2 : Nat) : Int)) => W.out z i (k + 2) hi (by omega))
  have W2 := Lib.hid (fun (z : Nat) (i : Int) (hi : i = ((k + 1 : Nat) : Int)) => W.out z i (k + 1) hi (by omega))
  have W3 := Lib.hid (fun (z : Nat) (i : Int) (hi : i = (k : Int)) => W.out z i k hi (by omega))
  obtain ⟨t0, t1, t2⟩ := pow_parts hs
  clear W
  have b1 := hd (k + 2)
  have b2 := hd (k + 1)
  have b3 := hd k
  clear hd hx hr
  generalize hw1 : wd x m (k + 2) = w1 at *
  generalize hw2 : wd x m (k + 1) = w2 at *
  generalize hw3 : wd x m k = w3 at *
  have m1 : 0 ≤ (w1 * 4294967296 + w2) * 2 ^ s := Int.mul_nonneg (by omega) (by omega)
  have m2 : (w1 * 4294967296 + w2) * 2 ^ s = w1 * 2 ^ s * 4294967296 + w2 * 2 ^ s := by grind
  have m3 : w2 * 2 ^ s ≤ 4294967295 * 2 ^ s := Int.mul_le_mul_of_nonneg_right b2.2 (by omega)
  have q0 : 0 ≤ w3 / 2 ^ (32 - s) := Int.ediv_nonneg b3.1 (by omega)
  have q1 : w3 / 2 ^ (32 - s) < 2 ^ s := Int.ediv_lt_of_lt_mul t1 (by rw [t2]; omega)
  have p1 : (2 : Int) ^ s ≤ 4294967296 := by
    have : (2 : Int) ^ s * 1 ≤ 2 ^ s * 2 ^ (32 - s) := Int.mul_le_mul_of_nonneg_left (by omega) (by omega)
    omega
  have top : (w1 * 4294967296 + w2) * 2 ^ s + w3 / 2 ^ (32 - s) < 18446744073709551616 := by
    have p2 : (2 : Int) ^ s ∣ 4294967296 := ⟨_, t2.symm⟩
    have p3 : (w1 * 4294967296 + w2) * 2 ^ s ≤ 18446744073709551616 - 2 ^ s := by
      have c1 : w1 * 4294967296 + w2 + 1 ≤ (w1 + 1) * 4294967296 := by omega
      have c2 : (w1 * 4294967296 + w2 + 1) * 2 ^ s ≤ (w1 + 1) * 4294967296 * 2 ^ s := Int.mul_le_mul_of_nonneg_right c1 (by omega)
      have c3 : (w1 + 1) * 2 ^ s ≤ 4294967296 := by
        have c5 : w1 * 2 ^ s < 2 ^ (32 - s) * 2 ^ s := by rw [Int.mul_comm (2 ^ (32 - s)), t2]; omega
        have c6 := Int.lt_of_mul_lt_mul_right c5 (by omega)
        have c7 : (w1 + 1) * 2 ^ s ≤ 2 ^ (32 - s) * 2 ^ s := Int.mul_le_mul_of_nonneg_right (by omega) (by omega)
        rw [Int.mul_comm (2 ^ (32 - s)), t2] at c7
        exact c7
      have c4 : (w1 + 1) * 4294967296 * 2 ^ s = (w1 + 1) * 2 ^ s * 4294967296 := by grind
      have c5 : (w1 * 4294967296 + w2 + 1) * 2 ^ s = (w1 * 4294967296 + w2) * 2 ^ s + 2 ^ s := by grind
      omega
    omega
  have o1 := or_join w1 w2 b1 b2
  have o2 : IntKind.u64.wrap ((w1 * 4294967296 + w2) * 2 ^ s) = (w1 * 4294967296 + w2) * 2 ^ s := IntWalk.u64_in _ (by omega)
  have o3 := or_high (w3 / 2 ^ (32 - s)) (w1 * 4294967296 + w2) s ⟨q0, q1⟩ (by omega) top
  have s1 : IntKind.i64.wrap (32 - (s : Int)) = ((32 - s : Nat) : Int) := by rw [IntWalk.i64_in _ (by omega)]; omega
  have s2 : (0 : Int) ≤ ((32 - s : Nat) : Int) := by omega
  have HF := Lib.hid (show 0 ≤ hi64 w1 w2 w3 (2 ^ s) (2 ^ (32 - s)) ∧ hi64 w1 w2 w3 (2 ^ s) (2 ^ (32 - s)) ≤ 18446744073709551615 by unfold hi64; omega)
  have HD := Lib.hid (show hi64 w1 w2 w3 (2 ^ s) (2 ^ (32 - s)) = (w1 * 4294967296 + w2) * 2 ^ s + w3 / 2 ^ (32 - s) from rfl)
  have HW := Lib.hid (And.intro hw1 (And.intro hw2 hw3))
  clear m2 m3 q1 p1 t0 t1 t2 ht hcell hw1 hw2 hw3
  obtain ⟨b10, b11⟩ := b1
  obtain ⟨b20, b21⟩ := b2
  obtain ⟨b30, b31⟩ := b3
  go_enter Tryd.func83, Tryd.ntmps83
  go_wp2_with fail
  go_quiet (first
    | (go_at_call 91; with_reducible refine Calls.quiet_of (W1.out _ _ (by omega)))
    | (go_at_call 91; with_reducible refine Calls.quiet_of (W2.out _ _ (by omega)))
    | (go_at_call 91; with_reducible refine Calls.quiet_of (W3.out _ _ (by omega))))
  go_wp2_with fail
  go_ret
  exact ⟨by rw [HD.out]; rfl, HF.out.1, HF.out.2, below_drewN ((Below.refl _ _).alloc (Nat.le_refl _) _) nq⟩
end Go.Proofs.YtkhchaoehlefdaaDoor
