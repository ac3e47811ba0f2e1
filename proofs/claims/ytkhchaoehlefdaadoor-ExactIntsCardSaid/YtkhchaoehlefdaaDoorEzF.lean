/- Contract: common, of numbers of any length. -/
import Derived.Test.YtkhchaoehlefdaaDoorEzE
import Derived.Deep.LoopGhost
set_option linter.unusedVariables false
set_option linter.unusedSimpArgs false
namespace Go.Proofs.YtkhchaoehlefdaaDoor
open Go.RowKit

theorem gcd_rest {p q : Int} : Int.gcd q (p % q) = Int.gcd p q := by
  have e := Int.mul_ediv_add_emod p q
  exact gcd_steps (p := 0) (q := 1) (r := 1) (s := -(p / q)) (p' := p / q) (q' := 1) (r' := 1) (s' := 0) (by omega) (by grind) (by grind) (by omega)

theorem commonShort_zero {w : World} {u v : Value} {n : Nat} {p q : Int} (hu : Nr w u n p) (hv : Nr w v 0 q) (hn : n ≤ 900000) :
    Calls Tryd.prog 67 #[u, v] w fun e w' => ∃ r k, e = .returned r ∧ Nt w' w.heap.size r k (Int.gcd p q : Int) ∧ k ≤ max n 0 ∧ Below w.heap.size w w' := by
  have HU := Lib.hid hu
  have z2 := hv.zero
  obtain rfl : q = 0 := z2.1 rfl
  obtain ⟨a, cap, x, rfl, _⟩ := hu
  obtain ⟨a2, cap2, y, rfl, _⟩ := hv
  clear z2
  go_enter Tryd.func67, Tryd.ntmps67
  go_wp2_with fail
  refine (fresh_nr HU.out (by omega)).mono ?_
  rintro e w1 ⟨r, rfl, hN, hB⟩
  go_wp2_with fail
  go_ret
  exact ⟨r, n, rfl, by rw [Int.gcd_zero_right]; have := HU.out.nonneg; rw [show ((p.natAbs : Nat) : Int) = p by omega]; exact hN, by omega, hB⟩

set_option maxHeartbeats 1600000 in
theorem commonShort_long {w : World} {u v : Value} {n m : Nat} {p q : Int} (hT : Tab w) (hu : Nr w u n p) (hv : Nr w v m q) (hn : n ≤ 900000) (h2 : 2 < n) (hm : m ≤ 2) (hm0 : 0 < m) :
    Calls Tryd.prog 67 #[u, v] w fun e w' => ∃ r k, e = .returned r ∧ Nt w' w.heap.size r k (Int.gcd p q : Int) ∧ k ≤ max n m ∧ Below w.heap.size w w' := by
  have HU := Lib.hid hu
  have HV := Lib.hid hv
  have HT := Lib.hid hT
  have z2 := hv.zero
  have n2 := hv.nonneg
  have l2 := hv.lt
  have l4 := P_mono hm
  rw [P2] at l4
  have hq : 0 < q := by
    rcases Int.lt_or_eq_of_le n2 with g | g
    · exact g
    · exact absurd (z2.2 g.symm) (by omega)
  have D := Lib.hid (divide_any 900000 (Nat.le_refl _) w u v n m p q hu hv hq hn (by omega))
  have r0 := Int.emod_nonneg p (show q ≠ 0 by omega)
  have r1 := Int.emod_lt_of_pos p hq
  have HG := Lib.hid (gcd_rest (p := p) (q := q))
  obtain ⟨a, cap, x, rfl, _⟩ := hu
  obtain ⟨a2, cap2, y, rfl, _⟩ := hv
  have h0 : ((m : Int) == 0) = false := by simp; omega
  clear z2 hT
  go_enter Tryd.func67, Tryd.ntmps67
  go_wp2_with fail
  refine D.out.mono ?_
  rintro e w1 ⟨s, t, k, j, rfl, hN1, hN2, hk, hj, hB⟩
  have hj2 : j ≤ 2 := Nat.le_trans (hN2.nr.len (k := m) (by omega)) hm
  generalize hR : p % q = R at *
  have HN := Lib.hid hN2
  have HB := Lib.hid hB
  clear D hN1 hN2 hB hj
  go_wp2_with fail
  refine (value_nr (HV.out.below HB.out) hm).mono ?_
  rintro e w2 ⟨rfl, d, rfl⟩
  go_wp2_with fail
  refine (value_nr (HN.out.nr.drew d) hj2).mono ?_
  rintro e w2 ⟨rfl, d2, rfl⟩
  obtain ⟨Q0, rfl⟩ := Int.eq_ofNat_of_zero_le n2
  obtain ⟨R0, rfl⟩ := Int.eq_ofNat_of_zero_le r0
  have hg1 : Nat.gcd Q0 R0 ≤ Q0 := Nat.gcd_le_left _ (by omega)
  go_wp2_with fail
  refine (commonWord_any Q0 R0 (by omega) (by omega) (by omega) (w1.drewN (d + d2)) ((HT.out.up HB.out).below (below_drewN (Below.refl _ _) _) (HT.out.up HB.out).lt)).mono ?_
  rintro e w2 ⟨rfl, rfl⟩
  go_wp2_with fail
  refine (ofWord_any _ (by omega) _).mono ?_
  rintro e w3 ⟨r, k', rfl, hN, hk', hB3⟩
  have hB4 : Below w.heap.size w w3 := Below.up HB.out ((below_drewN (Below.refl _ w1) (d + d2)).trans hB3)
  have hl : k' ≤ m := hN.nr.len (by omega)
  have HN3 := Lib.hid hN
  have hsz := HB.out.size
  clear hN hB3 hg1 l2 l4
  go_wp2_with fail
  go_ret
  refine ⟨r, k', rfl, ?_, by omega, hB4⟩
  rw [← HG.out]
  exact HN3.out.mono hsz

theorem commonShort_any {w : World} {u v : Value} {n m : Nat} {p q : Int} (hT : Tab w) (hu : Nr w u n p) (hv : Nr w v m q) (hn : n ≤ 900000) (hm : m ≤ 2) :
    Calls Tryd.prog 67 #[u, v] w fun e w' => ∃ r k, e = .returned r ∧ Nt w' w.heap.size r k (Int.gcd p q : Int) ∧ k ≤ max n m ∧ Below w.heap.size w w' := by
  by_cases h0 : m = 0
  · subst h0; exact commonShort_zero hu hv hn
  · by_cases h2 : n ≤ 2
    · exact commonShort_nr hT hu hv h2 hm
    · exact commonShort_long hT hu hv hn (by omega) hm (by omega)

/-- What is true between two rounds of common. -/
def ComRel (w : World) (L g gk : Nat) (va vb : Value) (wr : World) : Prop :=
  ∃ n m p q, Nt wr w.heap.size va n p ∧ Nt wr w.heap.size vb m q ∧ q ≤ p ∧ Int.gcd p q = g ∧ n ≤ L ∧ Apart va vb ∧ Below w.heap.size w wr ∧ q = (gk : Int)
theorem comRel_div {w wr w2 w3 : World} {L g : Nat} {va vb t : Value} {n m j : Nat} {p q : Int} (ha : Nt wr w.heap.size va n p) (hb : Nt wr w.heap.size vb m q) (hq : 0 < q) (hg : Int.gcd p q = g) (hm : m ≤ L) (hB : Below w.heap.size w wr)
    (hB2 : Below wr.heap.size wr w2) (hB3 : Below w2.heap.size w2 w3) (hN : Nt w3 w2.heap.size t j (p % q)) : ComRel w L g (p % q).toNat vb t w3 := by
  have r0 := Int.emod_nonneg p (show q ≠ 0 by omega)
  have r1 := Int.emod_lt_of_pos p hq
  have hsz := Nat.le_trans hB.size hB2.size
  refine ⟨m, j, q, p % q, (hb.below hB2).below hB3, hN.mono hsz, by omega, by rw [gcd_rest]; exact hg, hm, ?_, Below.up (Below.up hB hB2) hB3, by omega⟩
  intro c n' cap c' n2 cap' h1 h2 e1 e2
  obtain ⟨x, ⟨a, cp, e3, _, _, hO⟩, _⟩ := hb
  obtain ⟨y, ⟨a2, cp2, e4, _, _, hO2⟩, _⟩ := hN
  rw [e3] at e1
  rw [e4] at e2
  cases e1
  cases e2
  obtain ⟨b, N, e5, _, _, hO⟩ := hO h1
  obtain ⟨b', N', e6, hb', _, _⟩ := hO2 h2
  cases e5
  cases e6
  have := hO.lt
  have := hB2.size
  omega
theorem comRel_app {w w3 : World} {L g m k1 k2 : Nat} {r1 r2 : Value} {p q A B : Int} (hN1 : Nt w3 w.heap.size r1 k1 A) (hN2 : Nt w3 w.heap.size r2 k2 B) (hA : Apart r1 r2) (hg : Int.gcd p q = g) (hq : q < P m) (hm : m ≤ L) (hB : Below w.heap.size w w3)
    (h : 0 ≤ B ∧ B < A ∧ A ≤ q ∧ Int.gcd A B = Int.gcd p q) : ComRel w L g B.toNat r1 r2 w3 := by
  obtain ⟨h1, h2, h3, h4⟩ := h
  exact ⟨k1, k2, A, B, hN1, hN2, by omega, by rw [h4]; exact hg, Nat.le_trans (hN1.nr.len (k := m) (by omega)) hm, hA, hB, by omega⟩

set_option maxHeartbeats 4000000 in
set_option maxRecDepth 100000 in
theorem common_run {w : World} {u v : Value} {n m L : Nat} {p q : Int} (hT : Tab w) (hu : Nr w u n p) (hv : Nr w v m q) (hn : n ≤ L) (hm : m ≤ L) (hL : L ≤ 900000) (h3 : 2 < m) (hge : q ≤ p) :
    Calls Tryd.prog 42 #[u, v] w fun e w' => ∃ r k, e = .returned r ∧ Nt w' w.heap.size r k (Int.gcd p q : Int) ∧ k ≤ L ∧ Below w.heap.size w w' := by
  have HU := Lib.hid hu
  have HV := Lib.hid hv
  have HT := Lib.hid hT
  have C := Lib.hid (order_nr hu hv (by omega) (by omega))
  have HQ := Lib.hid (And.intro hge hv.nonneg)
  obtain ⟨a, cap, x, rfl, _⟩ := hu
  obtain ⟨a2, cap2, y, rfl, _⟩ := hv
  have ho : ¬ (ord p q < 0) := by unfold ord; split <;> (first | omega | (split <;> omega))
  generalize ord p q = od at *
  clear hT hge
  go_enter Tryd.func42, Tryd.ntmps42
  go_wp2_with fail
  refine C.out.mono ?_
  rintro e w1 ⟨rfl, d, rfl⟩
  clear C
  go_wp2_with fail
  refine (fresh_nr (HU.out.drew d) (by omega)).mono ?_
  rintro e w1 ⟨f1, rfl, hN1, hB1⟩
  have HN1 := Lib.hid hN1
  have HB1 := Lib.hid hB1
  clear hN1 hB1
  go_wp2_with fail
  refine (fresh_nr ((HV.out.drew d).below HB1.out) (by omega)).mono ?_
  rintro e w2 ⟨f2, rfl, hN2, hB2⟩
  have hs0 : Hid (ComRel w L (Int.gcd p q) q.toNat f1 f2 w2) := by
    have hsz : w.heap.size ≤ w1.heap.size := HB1.out.size
    refine ⟨n, m, p, q, HN1.out.below hB2, hN2.mono hsz, HQ.out.1, rfl, hn, ?_, Below.up ((below_drewN (Below.refl _ w) d).trans HB1.out) hB2, by have := HQ.out.2; omega⟩
    intro c n' cap c' n2 cap' h1 h2 e1 e2
    obtain ⟨x, ⟨a, cp, e3, _, _, hO⟩, _⟩ := HN1.out
    obtain ⟨y, ⟨a2, cp2, e4, _, _, hO2⟩, _⟩ := hN2
    rw [e3] at e1
    rw [e4] at e2
    cases e1
    cases e2
    obtain ⟨b, N, e5, _, _, hO⟩ := hO h1
    obtain ⟨b', N', e6, hb', _, _⟩ := hO2 h2
    cases e5
    cases e6
    have := hO.lt
    omega
  clear HN1 HB1 hN2 hB2 HU HV HQ
  go_wp2_with fail
  go_loopg [5, 6] (q.toNat) (fun gk va vb wr => Hid (ComRel w L (Int.gcd p q) gk va vb wr))
  case atStart => exact hs0
  case round =>
    clear hs0
    have hrel2 := hrel
    clear hrel
    obtain ⟨n1, m1, p1, q1, hNa, hNb, hle, hg, hnL, hAp, hB, hgk⟩ := hrel2.out
    have hq1 := hNb.nr.lt
    have hp1 := hNa.nr.lt
    have hmn : m1 ≤ n1 := hNb.nr.len (by omega)
    by_cases h2 : 2 < m1
    · have hq0 : 0 < q1 := by
        have := hNb.nr.nonneg
        rcases Int.lt_or_eq_of_le this with g | g
        · exact g
        · exact absurd (hNb.nr.zero.2 g.symm) (by omega)
      obtain ⟨k, rfl⟩ : ∃ k, n1 = k + 3 := ⟨n1 - 3, by omega⟩
      have LA := Lib.hid (lookAhead_nr hNa.nr hNb.nr hmn hle (by omega))
      have HNa := Lib.hid hNa
      have HNb := Lib.hid hNb
      have HApp := Lib.hid hAp
      have HBB := Lib.hid hB
      have HG := Lib.hid (And.intro hg hgk)
      have DV := Lib.hid (fun W => divide_any 900000 (Nat.le_refl _) W u5 u6 (k + 3) m1 p1 q1)
      obtain ⟨x1, ⟨a1, cap1, rfl, hc1, hd1, hO1⟩, hv1, ht1⟩ := hNa
      obtain ⟨x2, ⟨a2', cap2', rfl, hc2, hd2, hO2⟩, hv2, ht2⟩ := hNb
      obtain ⟨b1, N1, rfl, hb1, hN1, hO1⟩ := hO1 (by omega)
      obtain ⟨b2, N2, rfl, hb2, hN2, hO2⟩ := hO2 (by omega)
      have hne : b1 ≠ b2 := hAp _ _ _ _ _ _ (by omega) (by omega) rfl rfl
      have HD := Lib.hid (And.intro hd1 hd2)
      have HO := Lib.hid (And.intro hO1 hO2)
      have HV := Lib.hid (And.intro hv1 hv2)
      have HT1 := Lib.hid (HT.out.up hB)
      clear hd1 hd2 hO1 hO2 hv1 hv2 ht1 ht2 hAp hB hg hgk hrel2 hp1
      go_wp2_with fail
      refine LA.out.mono ?_
      rintro e w1 ⟨u0, v0, u1, v1, oo, rfl, hGood, hB1⟩
      have HGd := Lib.hid hGood
      have hB2 : Below wr.heap.size wr (w1.alloc (.cells #[.int .u64 u0, .int .u64 v0, .int .u64 u1, .int .u64 v1, .bool oo] 91)) := hB1.alloc hB1.size _
      have HB2 := Lib.hid hB2
      have hv00 := hGood.2.1
      clear LA hGood hB1 hB2
      by_cases hz : v0 = 0
      · subst hz
        go_wp2_with fail
        refine (DV.out _ (HNa.out.nr.below HB2.out) (HNb.out.nr.below HB2.out) hq0 (by omega) (by omega)).mono ?_
        rintro e w3 ⟨s, t, k', j, rfl, hN1', hN2', hk', hj', hB3⟩
        have R := Lib.hid (comRel_div (L := L) HNa.out HNb.out hq0 HG.out.1 (by omega) HBB.out HB2.out hB3 hN2')
        have hlt : (p1 % q1).toNat < gk := by
          have := Int.emod_lt_of_pos p1 hq0
          have := HG.out.2
          have := Int.emod_nonneg p1 (show q1 ≠ 0 by omega)
          omega
        clear DV hN1' hN2' hB3 HNa HNb HG HBB HB2 HGd HD HO HV HApp
        go_wp2_with fail
        go_roundg ((p1 % q1).toNat)
        case measure => exact hlt
        case rel => repeat (first | exact R | exact ⟨R, rfl⟩ | refine ⟨_, ?_⟩)
      · have hz1 : (v0 == 0) = false := by simp [hz]
        cases oo
        · have AP := Lib.hid (apply_even w.heap.size b1 b2 (k + 3) m1 N1 N2 cap1 cap2' x1 x2 u0 v0 u1 v1 _ hmn hN1 hN2 hc1 hc2 (by omega) hne hb1 hb2 (Nat.le_trans HBB.out.size HB2.out.size) HD.out.1 HD.out.2 (HO.out.1.below HB2.out HO.out.1.lt) (HO.out.2.below HB2.out HO.out.2.lt)
            (by rw [HV.out.1, HV.out.2]; exact HGd.out) hz)
          rw [HV.out.1, HV.out.2] at AP
          have hgood := HGd.out.2.2.2.2 hz
          have HGG := Lib.hid hgood
          have hlt : (bft false u1 v1 p1 q1).toNat < gk := by
            have := HG.out.2
            omega
          clear DV HNa HNb HGd HD HO HV HApp hgood
          go_wp2_with fail
          refine AP.out.mono ?_
          rintro e w3 ⟨r1, r2, k1, k2, rfl, hNr1, hNr2, hApp, hB3⟩
          have R := Lib.hid (comRel_app (L := L) hNr1 hNr2 hApp HG.out.1 hq1 (by omega) ((HBB.out.trans (HB2.out.mono HBB.out.size)).trans hB3) HGG.out)
          clear AP hNr1 hNr2 hApp hB3 HG HGG HBB HB2
          go_wp2_with fail
          go_roundg ((bft false u1 v1 p1 q1).toNat)
          case measure => exact hlt
          case rel => repeat (first | exact R | exact ⟨R, rfl⟩ | refine ⟨_, ?_⟩)
        · have AP := Lib.hid (apply_odd w.heap.size b1 b2 (k + 3) m1 N1 N2 cap1 cap2' x1 x2 u0 v0 u1 v1 _ hmn hN1 hN2 hc1 hc2 (by omega) hne hb1 hb2 (Nat.le_trans HBB.out.size HB2.out.size) HD.out.1 HD.out.2 (HO.out.1.below HB2.out HO.out.1.lt) (HO.out.2.below HB2.out HO.out.2.lt)
            (by rw [HV.out.1, HV.out.2]; exact HGd.out) hz)
          rw [HV.out.1, HV.out.2] at AP
          have hgood := HGd.out.2.2.2.2 hz
          have HGG := Lib.hid hgood
          have hlt : (bft true u1 v1 p1 q1).toNat < gk := by
            have := HG.out.2
            omega
          clear DV HNa HNb HGd HD HO HV HApp hgood
          go_wp2_with fail
          refine AP.out.mono ?_
          rintro e w3 ⟨r1, r2, k1, k2, rfl, hNr1, hNr2, hApp, hB3⟩
          have R := Lib.hid (comRel_app (L := L) hNr1 hNr2 hApp HG.out.1 hq1 (by omega) ((HBB.out.trans (HB2.out.mono HBB.out.size)).trans hB3) HGG.out)
          clear AP hNr1 hNr2 hApp hB3 HG HGG HBB HB2
          go_wp2_with fail
          go_roundg ((bft true u1 v1 p1 q1).toNat)
          case measure => exact hlt
          case rel => repeat (first | exact R | exact ⟨R, rfl⟩ | refine ⟨_, ?_⟩)
    · have CS := Lib.hid (commonShort_any (HT.out.up hB) hNa.nr hNb.nr (by omega) (by omega))
      have HBB := Lib.hid hB
      have HG := Lib.hid hg
      have hNab := hNa
      obtain ⟨x1, ⟨a1, cap1, rfl, hc1, hd1, hO1⟩, hv1, ht1⟩ := hNa
      obtain ⟨x2, ⟨a2', cap2', rfl, hc2, hd2, hO2⟩, hv2, ht2⟩ := hNb
      clear hd1 hd2 hO1 hO2 hv1 hv2 ht1 ht2 hAp hB hg hgk hrel2 hNab
      go_wp2_with fail
      refine CS.out.mono ?_
      rintro e w3 ⟨r, k, rfl, hN, hk, hB3⟩
      have HN3 := Lib.hid hN
      have HB3 := Lib.hid hB3
      clear CS hN hB3
      go_wp2_with fail
      go_ret
      have hf := HN3.out
      rw [HG.out] at hf
      exact ⟨r, k, rfl, hf.mono HBB.out.size, by omega, Below.up HBB.out HB3.out⟩
end Go.Proofs.YtkhchaoehlefdaaDoor
