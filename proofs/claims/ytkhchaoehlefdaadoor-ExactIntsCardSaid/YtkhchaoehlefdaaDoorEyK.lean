/- Contract: divide, of numbers of any length. -/
import Derived.Test.YtkhchaoehlefdaaDoorEyJ
import Derived.Test.YtkhchaoehlefdaaDoorExP
set_option linter.unusedVariables false
set_option linter.unusedSimpArgs false
namespace Go.Proofs.YtkhchaoehlefdaaDoor
open Go.RowKit

/-- What divide does, in one place. -/
def DvOne (w : World) (p q : Int) (n : Nat) (e : Ending) (w' : World) : Prop :=
  ∃ r s k j, e = .returned (.tuple #[r, s]) ∧ Nt w' w.heap.size r k (p / q) ∧ Nt w' w.heap.size s j (p % q) ∧ k ≤ n ∧ j ≤ n ∧ Below w.heap.size w w'

set_option maxHeartbeats 1600000 in
theorem divide_less {w : World} {u v : Value} {n m : Nat} {p q : Int} (hu : Nr w u n p) (hv : Nr w v m q) (hq : 0 < q) (hn : n ≤ 900000) (hm : m ≤ 900000) (hlt : p < q) :
    Calls Tryd.prog 69 #[u, v] w (DvOne w p q n) := by
  have HU := Lib.hid hu
  have HV := Lib.hid hv
  have n1 := hu.nonneg
  obtain ⟨a, cap, x, rfl, _⟩ := hu
  obtain ⟨a2, cap2, y, rfl, _⟩ := hv
  have C := Lib.hid (order_nr HU.out HV.out (by omega) (by omega))
  rw [ord_lt hlt] at C
  have E1 := Lib.hid (Int.ediv_eq_zero_of_lt n1 hlt)
  have E2 := Lib.hid (Int.emod_eq_of_lt n1 hlt)
  clear hlt n1
  go_enter Tryd.func69, Tryd.ntmps69
  go_wp2_with fail
  refine C.out.mono ?_
  rintro e w1 ⟨rfl, d, rfl⟩
  clear C
  go_wp2_with fail
  refine (fresh_nr (HU.out.drew d) (by omega)).mono ?_
  rintro e w1 ⟨r, rfl, hN, hB⟩
  have HN := Lib.hid hN
  have hB2 : Below w.heap.size w w1 := (below_drewN (Below.refl _ w) d).trans hB
  clear hN hB
  go_wp2_with fail
  go_ret2
  exact ⟨_, r, 0, n, rfl, by rw [E1.out]; exact nt_nil _ _, by rw [E2.out]; exact HN.out, by omega, by omega, hB2⟩

set_option maxHeartbeats 1600000 in
theorem divide_long {w : World} {u v : Value} {L j : Nat} {p q : Int} (hu : Nr w u (L + (j + 1)) p) (hv : Nr w v (j + 2) q) (hq : 0 < q) (hn : L + (j + 1) ≤ 900000) (hL : 0 < L) (h2 : 2 < L + (j + 1)) (hge : ¬ p < q) :
    Calls Tryd.prog 69 #[u, v] w (DvOne w p q (L + (j + 1))) := by
  have HU := Lib.hid hu
  have HV := Lib.hid hv
  obtain ⟨a, cap, x, rfl, _⟩ := hu
  obtain ⟨a2, cap2, y, rfl, _⟩ := hv
  have C := Lib.hid (order_nr HU.out HV.out (by omega) (by omega))
  have ho : ¬ (ord p q < 0) := by unfold ord; split <;> (first | omega | (split <;> omega))
  generalize ord p q = o at *
  have m0 := Int.emod_nonneg p (show q ≠ 0 by omega)
  have m1 : p % q ≤ p := by
    have := Int.mul_ediv_add_emod p q
    have := Int.mul_nonneg (show 0 ≤ q by omega) (Int.ediv_nonneg HU.out.nonneg (show 0 ≤ q by omega))
    omega
  have HM := Lib.hid (show p % q < P (L + (j + 1)) by have := HU.out.lt; omega)
  have hl2 : ¬ ((L : Int) + ((j : Int) + 1) ≤ 2) := by omega
  have hj1 : ¬ ((j : Int) + 2 = 1) := by omega
  clear hge m0 m1
  go_enter Tryd.func69, Tryd.ntmps69
  go_wp2_with fail
  refine C.out.mono ?_
  rintro e w1 ⟨rfl, d, rfl⟩
  clear C
  go_wp2_with fail
  refine (longDivide_nr (HU.out.drew d) (HV.out.drew d) hL (by omega)).mono ?_
  rintro e w1 ⟨r, s, k, l, rfl, hR, hS, hk, hl, hB⟩
  have HR := Lib.hid hR
  have HS := Lib.hid hS
  have hlen := hS.nr.len HM.out
  have hB2 : Below w.heap.size w w1 := (below_drewN (Below.refl _ w) d).trans hB
  clear hR hS hB
  go_wp2_with fail
  go_ret2
  exact ⟨r, s, k, l, rfl, HR.out, HS.out, by omega, hlen, hB2⟩

set_option maxHeartbeats 1600000 in
theorem divide_word {w : World} {u v : Value} {n : Nat} {p q : Int} (hu : Nr w u n p) (hv : Nr w v 1 q) (hq : 0 < q) (hn : n ≤ 900000) (h2 : 2 < n) (hge : ¬ p < q) :
    Calls Tryd.prog 69 #[u, v] w (DvOne w p q n) := by
  have HU := Lib.hid hu
  have HV := Lib.hid hv
  obtain ⟨a, cap, x, rfl, _⟩ := hu
  obtain ⟨a2, cap2, y, rfl, _, hy, hr2, ht2, hvy⟩ := hv
  obtain ⟨d', o', rfl, hrow⟩ := hr2 (by omega)
  have ey : y 0 = q := by rw [← hvy, V_succ, V_zero, P_zero]; omega
  have g1 : w.cell? ⟨d', o', none⟩ = some (.int .u32 q) := by rw [← ey]; simpa using hrow 0 (by omega)
  have hq1 : q ≤ 4294967295 := by rw [← ey]; exact (hy 0).2
  have C := Lib.hid (order_nr HU.out HV.out (by omega) (by omega))
  have ho : ¬ (ord p q < 0) := by unfold ord; split <;> (first | omega | (split <;> omega))
  generalize ord p q = o at *
  clear hge hy hr2 ht2 hvy hrow ey
  go_enter Tryd.func69, Tryd.ntmps69
  go_wp2_with fail
  refine C.out.mono ?_
  rintro e w1 ⟨rfl, d, rfl⟩
  clear C
  go_wp2_with fail
  refine (fresh_nr (HU.out.drew d) (by omega)).mono ?_
  rintro e w1 ⟨r, rfl, hN, hB⟩
  obtain ⟨x1, ⟨a1, cap1, rfl, hc1, hd1, hO1⟩, hv1, ht1⟩ := hN
  obtain ⟨b, N, rfl, hb, hN, hO⟩ := hO1 (by omega)
  have g2 : w1.cell? ⟨d', o', none⟩ = some (.int .u32 q) := by rw [hB.cell (p := ⟨d', o', none⟩) (by simpa using World.block_lt_of_cell? _ _ g1)]; simpa using g1
  have HB := Lib.hid hB
  have HD := Lib.hid (divideWords_any b 0 n N cap1 x1 q w1 (by omega) (by omega) hd1 ⟨hq, hq1⟩ hO)
  have HV1 := Lib.hid hv1
  clear hB hd1 hO hO1 ht1 hv1 g1
  go_wp2_with fail
  refine HD.out.mono ?_
  rintro e w2 ⟨rr, rfl, x2, hO2, hd2, hf2, hv2, r0, r1, hC2⟩
  rw [Nat.add_zero, sh_zero, sh_zero, Nat.sub_zero, HV1.out] at hv2
  obtain ⟨f1, f2⟩ := div_mod_is hv2.symm r0 r1
  have hB2 := Chg.below HB.out hC2 HB.out.size hb
  have F1 := Lib.hid f1
  have F2 := Lib.hid f2
  have NQ := Lib.hid (nt_of_trim hO2 hd2 (show w.heap.size ≤ b from hb) (show n ≤ N from hN) hc1)
  have SQ := Lib.hid (sl_own hO2 hN)
  have HB2 := Lib.hid hB2
  have l2 := tl_le x2 n
  have rb : rr ≤ 18446744073709551615 := by omega
  clear hO2 hd2 hf2 hv2 hC2 f1 f2 hB2 HD g2
  go_wp2_with fail
  refine (trim_any _ n cap1 x2 w2 (by omega) hc1 SQ.out).mono ?_
  rintro e w3 ⟨rfl, rfl⟩
  go_wp2_with fail
  refine (ofWord_any rr ⟨r0, rb⟩ w2).mono ?_
  rintro e w4 ⟨rv, l, rfl, hRv, hl, hB4⟩
  have HRv := Lib.hid hRv
  have HB4 := Lib.hid hB4
  clear hRv hB4
  go_wp2_with fail
  go_ret2
  refine ⟨_, rv, tl x2 n, l, rfl, ?_, ?_, l2, by omega, (below_drewN (Below.refl _ w) d).trans (Below.up HB2.out HB4.out)⟩
  · rw [← F1.out]; exact NQ.out.below HB4.out
  · rw [← F2.out]; exact HRv.out.mono HB2.out.size

/-- divide, of numbers of any length. -/
theorem divide_any (L : Nat) (hL : L ≤ 900000) : DivFits L := by
  intro w u v n m p q hu hv hq hn hm
  by_cases hlt : p < q
  · exact divide_less hu hv hq (by omega) (by omega) hlt
  · have hmn : m ≤ n := hv.len (by have := hu.lt; omega)
    by_cases h2 : n ≤ 2
    · exact divide_short w u v n m p q hu hv hq h2 (by omega)
    · have hm0 : m ≠ 0 := fun h => by have := hv.zero.1 h; omega
      by_cases h1 : m = 1
      · subst h1; exact divide_word hu hv hq (by omega) (by omega) hlt
      · obtain ⟨j, rfl⟩ : ∃ j, m = j + 2 := ⟨m - 2, by omega⟩
        obtain ⟨K, rfl⟩ : ∃ K, n = K + (j + 1) := ⟨n - (j + 1), by omega⟩
        exact divide_long hu hv hq (by omega) (by omega) (by omega) hlt
end Go.Proofs.YtkhchaoehlefdaaDoor
