/- common and divide: of short numbers; what is asked of them in general. -/
import Derived.Test.YtkhchaoehlefdaaDoorExO
import Derived.Deep.RegionWith
namespace Go.Proofs.YtkhchaoehlefdaaDoor
open Go.RowKit

theorem Tab.below {w w' : World} {B : Nat} (h : Tab w) (k : Below B w w') (hB : 0 < B) : Tab w' :=
  fun j hj => (k.cell (p := ⟨0, j, none⟩) hB).trans (h j hj)
theorem cell_ltp {w : World} {b o : Nat} {v : Value} (h : w.cell? ⟨b, o, none⟩ = some v) : b < w.heap.size := by
  unfold World.cell? at h
  split at h
  · rename_i hb; exact (Array.getElem?_eq_some_iff.1 hb).1
  · simp at h
theorem Tab.lt {w : World} (h : Tab w) : 0 < w.heap.size := cell_ltp (h 0 (by decide))
theorem Tab.up {w w' : World} (h : Tab w) (k : Below w.heap.size w w') : Tab w' := h.below k h.lt

/-- What common does, of numbers of at most L words. -/
def ComFits (L : Nat) : Prop := ∀ (w : World) (u v : Value) (n m : Nat) (p q : Int), Tab w → Nr w u n p → Nr w v m q → n ≤ L → m ≤ L →
  Calls Tryd.prog 42 #[u, v] w fun e w' => ∃ r k, e = .returned r ∧ Nt w' w.heap.size r k (Int.gcd p q : Int) ∧ k ≤ max n m ∧ Below w.heap.size w w'
/-- What divide does. -/
def DivFits (L : Nat) : Prop := ∀ (w : World) (u v : Value) (n m : Nat) (p q : Int), Nr w u n p → Nr w v m q → 0 < q → n ≤ L → m ≤ L →
  Calls Tryd.prog 69 #[u, v] w fun e w' => ∃ r s k j, e = .returned (.tuple #[r, s]) ∧ Nt w' w.heap.size r k (p / q) ∧ Nt w' w.heap.size s j (p % q) ∧ k ≤ n ∧ j ≤ n ∧ Below w.heap.size w w'

theorem Nr.drew {w : World} {v : Value} {n : Nat} {z : Int} (h : Nr w v n z) (q : Nat) : Nr (w.drewN q) v n z := h
theorem P2 : P 2 = 18446744073709551616 := by decide

theorem commonShort_nr {w : World} {u v : Value} {n m : Nat} {p q : Int} (hT : Tab w) (hu : Nr w u n p) (hv : Nr w v m q) (hn : n ≤ 2) (hm : m ≤ 2) :
    Calls Tryd.prog 67 #[u, v] w fun e w' => ∃ r k, e = .returned r ∧ Nt w' w.heap.size r k (Int.gcd p q : Int) ∧ k ≤ max n m ∧ Below w.heap.size w w' := by
  have HU := Lib.hid hu
  have HV := Lib.hid hv
  have HT := Lib.hid hT
  have z1 := hu.zero
  have z2 := hv.zero
  have n1 := hu.nonneg
  have n2 := hv.nonneg
  have l1 := hu.lt
  have l2 := hv.lt
  have l3 := P_mono hn
  have l4 := P_mono hm
  rw [P2] at l3 l4
  obtain ⟨a, cap, x, rfl, _⟩ := hu
  obtain ⟨a2, cap2, y, rfl, _⟩ := hv
  clear hT
  by_cases hm0 : m = 0
  · subst hm0
    obtain rfl : q = 0 := z2.1 rfl
    clear z1 z2 l1 l2 l3 l4
    go_enter Tryd.func67, Tryd.ntmps67
    go_wp2_with fail
    refine (fresh_nr HU.out (by omega)).mono ?_
    rintro e w1 ⟨r, rfl, hN, hB⟩
    go_wp2_with fail
    go_ret
    exact ⟨r, n, rfl, by rw [Int.gcd_zero_right]; have := HU.out.nonneg; rw [show ((p.natAbs : Nat) : Int) = p by omega]; exact hN, by omega, hB⟩
  · have hq : 0 < q := by
      rcases Int.lt_or_eq_of_le n2 with g | g
      · exact g
      · exact absurd (z2.2 g.symm) hm0
    have h0 : ((m : Int) == 0) = false := by simp; omega
    obtain ⟨P0, rfl⟩ := Int.eq_ofNat_of_zero_le n1
    obtain ⟨Q0, rfl⟩ := Int.eq_ofNat_of_zero_le n2
    have hg1 : Nat.gcd Q0 P0 ≤ Q0 := Nat.gcd_le_left _ (by omega)
    have hpm := P_mono (show m ≤ max n m by omega)
    clear z1 z2
    go_enter Tryd.func67, Tryd.ntmps67
    go_wp2_with fail
    refine (value_nr HV.out hm).mono ?_
    rintro e w1 ⟨rfl, d, rfl⟩
    go_wp2_with fail
    refine (value_nr (HU.out.drew d) hn).mono ?_
    rintro e w1 ⟨rfl, d2, rfl⟩
    go_wp2_with fail
    refine (commonWord_any Q0 P0 (by omega) (by omega) (by omega) (w.drewN (d + d2)) HT.out).mono ?_
    rintro e w1 ⟨rfl, rfl⟩
    go_wp2_with fail
    refine (ofWord_any _ (by omega) _).mono ?_
    rintro e w1 ⟨r, k, rfl, hN, hk, hB⟩
    have hB2 : Below w.heap.size w w1 := (below_drewN (Below.refl _ w) (d + d2)).trans hB
    have hl : k ≤ max n m := hN.nr.len (by omega)
    have HN := Lib.hid hN
    clear hN hB hg1 hpm l1 l2 l3 l4
    go_wp2_with fail
    go_ret
    exact ⟨r, k, rfl, by rw [Int.gcd_comm]; exact HN.out, hl, hB2⟩

theorem common_short : ComFits 2 := by
  intro w u v n m p q hT hu hv hn hm
  have HU := Lib.hid hu
  have HV := Lib.hid hv
  have HT := Lib.hid hT
  obtain ⟨a, cap, x, rfl, _⟩ := hu
  obtain ⟨a2, cap2, y, rfl, _⟩ := hv
  clear hT
  by_cases hlt : p < q
  · have C := Lib.hid (order_nr HU.out HV.out (by omega) (by omega))
    rw [ord_lt hlt] at C
    clear hlt
    go_enter Tryd.func42, Tryd.ntmps42
    go_wp2_with fail
    refine C.out.mono ?_
    rintro e w1 ⟨rfl, d, rfl⟩
    clear C
    go_wp2_with fail
    refine (commonShort_nr (w := w.drewN d) HT.out (HV.out.drew d) (HU.out.drew d) hm hn).mono ?_
    rintro e w1 ⟨r, k, rfl, hN, hk, hB⟩
    have HN := Lib.hid hN
    have hB2 : Below w.heap.size w w1 := (below_drewN (Below.refl _ w) d).trans hB
    clear hN hB
    go_wp2_with fail
    go_ret
    exact ⟨r, k, rfl, by rw [Int.gcd_comm]; exact HN.out, by omega, hB2⟩
  · have C := Lib.hid (order_nr HU.out HV.out (by omega) (by omega))
    have hge : ¬ (ord p q < 0) := by unfold ord; split <;> (first | omega | (split <;> omega))
    generalize ord p q = o at *
    clear hlt
    go_enter Tryd.func42, Tryd.ntmps42
    go_wp2_with fail
    refine C.out.mono ?_
    rintro e w1 ⟨rfl, d, rfl⟩
    clear C
    go_wp2_with fail
    refine (commonShort_nr (w := w.drewN d) HT.out (HU.out.drew d) (HV.out.drew d) hn hm).mono ?_
    rintro e w1 ⟨r, k, rfl, hN, hk, hB⟩
    have HN := Lib.hid hN
    have hB2 : Below w.heap.size w w1 := (below_drewN (Below.refl _ w) d).trans hB
    clear hN hB
    go_wp2_with fail
    go_ret
    exact ⟨r, k, rfl, HN.out, hk, hB2⟩

set_option maxHeartbeats 1600000 in
theorem divide_short : DivFits 2 := by
  intro w u v n m p q hu hv hq hn hm
  have HU := Lib.hid hu
  have HV := Lib.hid hv
  have n1 := hu.nonneg
  have l1 := hu.lt
  have l2 := hv.lt
  have l3 := P_mono hn
  have l4 := P_mono hm
  rw [P2] at l3 l4
  obtain ⟨a, cap, x, rfl, _⟩ := hu
  obtain ⟨a2, cap2, y, rfl, _⟩ := hv
  by_cases hlt : p < q
  · have C := Lib.hid (order_nr HU.out HV.out (by omega) (by omega))
    rw [ord_lt hlt] at C
    have E1 := Lib.hid (Int.ediv_eq_zero_of_lt n1 hlt)
    have E2 := Lib.hid (Int.emod_eq_of_lt n1 hlt)
    clear hlt l1 l2 l3 l4
    go_enter Tryd.func69, Tryd.ntmps69
    go_wp2_with fail
    refine C.out.mono ?_
    rintro e w1 ⟨rfl, d, rfl⟩
    clear C
    go_wp2_with fail
    refine (fresh_nr (HU.out.drew d) (by omega)).mono ?_
    rintro e w1 ⟨r, rfl, hN, hB⟩
    have HN := Lib.hid hN
    have hB2 : Below w.heap.size w w1 := (below_drewN (Below.refl _ w) d).trans hB
    clear hN hB
    go_wp2_with fail
    go_ret2
    exact ⟨_, r, 0, n, rfl, by rw [E1.out]; exact ⟨fun _ => 0, ⟨_, _, rfl, Nat.le_refl _, Dg_zero, fun h => absurd h (by omega)⟩, rfl, fun h => absurd h (by omega)⟩, by rw [E2.out]; exact HN.out, by omega, by omega, hB2⟩
  · have C := Lib.hid (order_nr HU.out HV.out (by omega) (by omega))
    have hge : ¬ (ord p q < 0) := by unfold ord; split <;> (first | omega | (split <;> omega))
    generalize ord p q = o at *
    have q1 : 0 ≤ p / q := Int.ediv_nonneg n1 (by omega)
    have q2 : p / q ≤ p := Int.ediv_le_self q n1
    have r1 := Int.emod_nonneg p (show q ≠ 0 by omega)
    have r2 := Int.emod_lt_of_pos p hq
    have r3 : p % q ≤ p := by have := Int.mul_ediv_add_emod p q; have := Int.mul_nonneg (show 0 ≤ q by omega) q1; omega
    have hq0 : (q == 0) = false := by simp; omega
    have hp64 : p ≤ 18446744073709551615 := by omega
    have L1 := Lib.hid l1
    clear hlt l1 l2 l3 l4
    go_enter Tryd.func69, Tryd.ntmps69
    go_wp2_with fail
    refine C.out.mono ?_
    rintro e w1 ⟨rfl, d, rfl⟩
    clear C
    go_wp2_with fail
    refine (value_nr (HU.out.drew d) hn).mono ?_
    rintro e w1 ⟨rfl, d2, rfl⟩
    go_wp2_with fail
    refine (value_nr (HV.out.drew (d + d2)) hm).mono ?_
    rintro e w1 ⟨rfl, d3, rfl⟩
    go_wp2_with fail
    generalize d + d2 + d3 = dd0
    have htm : p.tmod q = p % q := Int.tmod_eq_emod_of_nonneg n1
    have htd : IntKind.u64.wrap (p.tdiv q) = p / q := IntWalk.u64_quo p q ⟨n1, hp64, by omega⟩
    have A1 := Lib.hid (fun w => ofWord_any (p / q) ⟨q1, by omega⟩ w)
    have A2 := Lib.hid (fun w => ofWord_any (p % q) ⟨r1, by omega⟩ w)
    go_region_with (first
      | (go_at_call 58; ((with_reducible refine (A1.out _).mono ?_); rintro e w1 ⟨s1, k1, rfl, hN1, hk1, hB1⟩; have HN1 := Lib.hid hN1; clear hN1))
      | (go_at_call 58; ((with_reducible refine (A2.out _).mono ?_); rintro e w2 ⟨s2, k2, rfl, hN2, hk2, hB2⟩; have HN2 := Lib.hid hN2; clear hN2)))
    all_goals
      go_wp2_with fail
      go_ret2
      have hL := L1.out
      exact ⟨s1, s2, k1, k2, rfl, HN1.out.below hB2, HN2.out.mono hB1.size, HN1.out.nr.len (by omega), HN2.out.nr.len (by omega), Below.up ((Below.refl _ w).trans (below_drewN (Below.refl _ w) (dd0 + 1))) (Below.up hB1 hB2)⟩
end Go.Proofs.YtkhchaoehlefdaaDoor
