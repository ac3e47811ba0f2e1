/- Contract: common, of numbers of any length (what is left: the order of both). -/
import Derived.Test.YtkhchaoehlefdaaDoorEzF
import Derived.Test.YtkhchaoehlefdaaDoorExR
set_option linter.unusedVariables false
set_option linter.unusedSimpArgs false
namespace Go.Proofs.YtkhchaoehlefdaaDoor
open Go.RowKit

set_option maxHeartbeats 4000000 in
set_option maxRecDepth 100000 in
theorem common_swap {w : World} {u v : Value} {n m L : Nat} {p q : Int} (hT : Tab w) (hu : Nr w u n p) (hv : Nr w v m q) (hn : n ≤ L) (hm : m ≤ L) (hL : L ≤ 900000) (h3 : 2 < n) (hlt : p < q) :
    Calls Tryd.prog 42 #[u, v] w fun e w' => ∃ r k, e = .returned r ∧ Nt w' w.heap.size r k (Int.gcd q p : Int) ∧ k ≤ L ∧ Below w.heap.size w w' := by
  have HU := Lib.hid hu
  have HV := Lib.hid hv
  have HT := Lib.hid hT
  have C := Lib.hid (order_nr hu hv (by omega) (by omega))
  rw [ord_lt hlt] at C
  have HQ := Lib.hid (And.intro (Int.le_of_lt hlt) hu.nonneg)
  obtain ⟨a, cap, x, rfl, _⟩ := hu
  obtain ⟨a2, cap2, y, rfl, _⟩ := hv
  clear hT hlt
  go_enter Tryd.func42, Tryd.ntmps42
  go_wp2_with fail
  refine C.out.mono ?_
  rintro e w1 ⟨rfl, d, rfl⟩
  clear C
  go_wp2_with fail
  refine (fresh_nr (HV.out.drew d) (by omega)).mono ?_
  rintro e w1 ⟨f1, rfl, hN1, hB1⟩
  have HN1 := Lib.hid hN1
  have HB1 := Lib.hid hB1
  clear hN1 hB1
  go_wp2_with fail
  refine (fresh_nr ((HU.out.drew d).below HB1.out) (by omega)).mono ?_
  rintro e w2 ⟨f2, rfl, hN2, hB2⟩
  have hs0 : Hid (ComRel w L (Int.gcd q p) p.toNat f1 f2 w2) := by
    have hsz : w.heap.size ≤ w1.heap.size := HB1.out.size
    refine ⟨m, n, q, p, HN1.out.below hB2, hN2.mono hsz, HQ.out.1, rfl, hm, ?_, Below.up ((below_drewN (Below.refl _ w) d).trans HB1.out) hB2, by have := HQ.out.2; omega⟩
    intro c n' cap c' n2 cap' h1 h2 e1 e2
    obtain ⟨x, ⟨a, cp, e3, _, _, hO⟩, _⟩ := HN1.out
    obtain ⟨y, ⟨a2, cp2, e4, _, _, hO2⟩, _⟩ := hN2
    rw [e3] at e1
    rw [e4] at e2
    cases e1
    cases e2
    obtain ⟨b, N, e5, _, _, hO⟩ := hO h1
    obtain ⟨b', N', e6, hb', _, _⟩ := hO2 h2
    cases e5
    cases e6
    have := hO.lt
    omega
  clear HN1 HB1 hN2 hB2 HU HV HQ
  go_wp2_with fail
  go_loopg [5, 6] (p.toNat) (fun gk va vb wr => Hid (ComRel w L (Int.gcd q p) gk va vb wr))
  case atStart => exact hs0
  case round =>
    clear hs0
    have hrel2 := hrel
    clear hrel
    obtain ⟨n1, m1, p1, q1, hNa, hNb, hle, hg, hnL, hAp, hB, hgk⟩ := hrel2.out
    have hq1 := hNb.nr.lt
    have hp1 := hNa.nr.lt
    have hmn : m1 ≤ n1 := hNb.nr.len (by omega)
    by_cases h2 : 2 < m1
    · have hq0 : 0 < q1 := by
        have := hNb.nr.nonneg
        rcases Int.lt_or_eq_of_le this with g | g
        · exact g
        · exact absurd (hNb.nr.zero.2 g.symm) (by omega)
      obtain ⟨k, rfl⟩ : ∃ k, n1 = k + 3 := ⟨n1 - 3, by omega⟩
      have LA := Lib.hid (lookAhead_nr hNa.nr hNb.nr hmn hle (by omega))
      have HNa := Lib.hid hNa
      have HNb := Lib.hid hNb
      have HApp := Lib.hid hAp
      have HBB := Lib.hid hB
      have HG := Lib.hid (And.intro hg hgk)
      have DV := Lib.hid (fun W => divide_any 900000 (Nat.le_refl _) W u5 u6 (k + 3) m1 p1 q1)
      obtain ⟨x1, ⟨a1, cap1, rfl, hc1, hd1, hO1⟩, hv1, ht1⟩ := hNa
      obtain ⟨x2, ⟨a2', cap2', rfl, hc2, hd2, hO2⟩, hv2, ht2⟩ := hNb
      obtain ⟨b1, N1, rfl, hb1, hN1, hO1⟩ := hO1 (by omega)
      obtain ⟨b2, N2, rfl, hb2, hN2, hO2⟩ := hO2 (by omega)
      have hne : b1 ≠ b2 := hAp _ _ _ _ _ _ (by omega) (by omega) rfl rfl
      have HD := Lib.hid (And.intro hd1 hd2)
      have HO := Lib.hid (And.intro hO1 hO2)
      have HV := Lib.hid (And.intro hv1 hv2)
      have HT1 := Lib.hid (HT.out.up hB)
      clear hd1 hd2 hO1 hO2 hv1 hv2 ht1 ht2 hAp hB hg hgk hrel2 hp1
      go_wp2_with fail
      refine LA.out.mono ?_
      rintro e w1 ⟨u0, v0, u1, v1, oo, rfl, hGood, hB1⟩
      have HGd := Lib.hid hGood
      have hB2 : Below wr.heap.size wr (w1.alloc (.cells #[.int .u64 u0, .int .u64 v0, .int .u64 u1, .int .u64 v1, .bool oo] 91)) := hB1.alloc hB1.size _
      have HB2 := Lib.hid hB2
      have hv00 := hGood.2.1
      clear LA hGood hB1 hB2
      by_cases hz : v0 = 0
      · subst hz
        go_wp2_with fail
        refine (DV.out _ (HNa.out.nr.below HB2.out) (HNb.out.nr.below HB2.out) hq0 (by omega) (by omega)).mono ?_
        rintro e w3 ⟨s, t, k', j, rfl, hN1', hN2', hk', hj', hB3⟩
        have R := Lib.hid (comRel_div (L := L) HNa.out HNb.out hq0 HG.out.1 (by omega) HBB.out HB2.out hB3 hN2')
        have hlt : (p1 % q1).toNat < gk := by
          have := Int.emod_lt_of_pos p1 hq0
          have := HG.out.2
          have := Int.emod_nonneg p1 (show q1 ≠ 0 by omega)
          omega
        clear DV hN1' hN2' hB3 HNa HNb HG HBB HB2 HGd HD HO HV HApp
        go_wp2_with fail
        go_roundg ((p1 % q1).toNat)
        case measure => exact hlt
        case rel => repeat (first | exact R | exact ⟨R, rfl⟩ | refine ⟨_, ?_⟩)
      · have hz1 : (v0 == 0) = false := by simp [hz]
        cases oo
        · have AP := Lib.hid (apply_even w.heap.size b1 b2 (k + 3) m1 N1 N2 cap1 cap2' x1 x2 u0 v0 u1 v1 _ hmn hN1 hN2 hc1 hc2 (by omega) hne hb1 hb2 (Nat.le_trans HBB.out.size HB2.out.size) HD.out.1 HD.out.2 (HO.out.1.below HB2.out HO.out.1.lt) (HO.out.2.below HB2.out HO.out.2.lt)
            (by rw [HV.out.1, HV.out.2]; exact HGd.out) hz)
          rw [HV.out.1, HV.out.2] at AP
          have hgood := HGd.out.2.2.2.2 hz
          have HGG := Lib.hid hgood
          have hlt : (bft false u1 v1 p1 q1).toNat < gk := by
            have := HG.out.2
            omega
          clear DV HNa HNb HGd HD HO HV HApp hgood
          go_wp2_with fail
          refine AP.out.mono ?_
          rintro e w3 ⟨r1, r2, k1, k2, rfl, hNr1, hNr2, hApp, hB3⟩
          have R := Lib.hid (comRel_app (L := L) hNr1 hNr2 hApp HG.out.1 hq1 (by omega) ((HBB.out.trans (HB2.out.mono HBB.out.size)).trans hB3) HGG.out)
          clear AP hNr1 hNr2 hApp hB3 HG HGG HBB HB2
          go_wp2_with fail
          go_roundg ((bft false u1 v1 p1 q1).toNat)
          case measure => exact hlt
          case rel => repeat (first | exact R | exact ⟨R, rfl⟩ | refine ⟨_, ?_⟩)
        · have AP := Lib.hid (apply_odd w.heap.size b1 b2 (k + 3) m1 N1 N2 cap1 cap2' x1 x2 u0 v0 u1 v1 _ hmn hN1 hN2 hc1 hc2 (by omega) hne hb1 hb2 (Nat.le_trans HBB.out.size HB2.out.size) HD.out.1 HD.out.2 (HO.out.1.below HB2.out HO.out.1.lt) (HO.out.2.below HB2.out HO.out.2.lt)
            (by rw [HV.out.1, HV.out.2]; exact HGd.out) hz)
          rw [HV.out.1, HV.out.2] at AP
          have hgood := HGd.out.2.2.2.2 hz
          have HGG := Lib.hid hgood
          have hlt : (bft true u1 v1 p1 q1).toNat < gk := by
            have := HG.out.2
            omega
          clear DV HNa HNb HGd HD HO HV HApp hgood
          go_wp2_with fail
          refine AP.out.mono ?_
          rintro e w3 ⟨r1, r2, k1, k2, rfl, hNr1, hNr2, hApp, hB3⟩
          have R := Lib.hid (comRel_app (L := L) hNr1 hNr2 hApp HG.out.1 hq1 (by omega) ((HBB.out.trans (HB2.out.mono HBB.out.size)).trans hB3) HGG.out)
          clear AP hNr1 hNr2 hApp hB3 HG HGG HBB HB2
          go_wp2_with fail
          go_roundg ((bft true u1 v1 p1 q1).toNat)
          case measure => exact hlt
          case rel => repeat (first | exact R | exact ⟨R, rfl⟩ | refine ⟨_, ?_⟩)
    · have CS := Lib.hid (commonShort_any (HT.out.up hB) hNa.nr hNb.nr (by omega) (by omega))
      have HBB := Lib.hid hB
      have HG := Lib.hid hg
      have hNab := hNa
      obtain ⟨x1, ⟨a1, cap1, rfl, hc1, hd1, hO1⟩, hv1, ht1⟩ := hNa
      obtain ⟨x2, ⟨a2', cap2', rfl, hc2, hd2, hO2⟩, hv2, ht2⟩ := hNb
      clear hd1 hd2 hO1 hO2 hv1 hv2 ht1 ht2 hAp hB hg hgk hrel2 hNab
      go_wp2_with fail
      refine CS.out.mono ?_
      rintro e w3 ⟨r, k, rfl, hN, hk, hB3⟩
      have HN3 := Lib.hid hN
      have HB3 := Lib.hid hB3
      clear CS hN hB3
      go_wp2_with fail
      go_ret
      have hf := HN3.out
      rw [HG.out] at hf
      exact ⟨r, k, rfl, hf.mono HBB.out.size, by omega, Below.up HBB.out HB3.out⟩

set_option maxHeartbeats 1600000 in
/-- common, of numbers of any length. -/
theorem common_any (L : Nat) (hL : L ≤ 900000) : ComFits L := by
  intro w u v n m p q hT hu hv hn hm
  by_cases hlt : p < q
  · by_cases h2 : n ≤ 2
    · have HU := Lib.hid hu
      have HV := Lib.hid hv
      have HT := Lib.hid hT
      obtain ⟨a, cap, x, rfl, _⟩ := hu
      obtain ⟨a2, cap2, y, rfl, _⟩ := hv
      clear hT
      have C := Lib.hid (order_nr HU.out HV.out (by omega) (by omega))
      rw [ord_lt hlt] at C
      clear hlt
      go_enter Tryd.func42, Tryd.ntmps42
      go_wp2_with fail
      refine C.out.mono ?_
      rintro e w1 ⟨rfl, d, rfl⟩
      clear C
      go_wp2_with fail
      refine (commonShort_any (w := w.drewN d) HT.out (HV.out.drew d) (HU.out.drew d) (by omega) h2).mono ?_
      rintro e w1 ⟨r, k, rfl, hN, hk, hB⟩
      have HN := Lib.hid hN
      have hB2 : Below w.heap.size w w1 := (below_drewN (Below.refl _ w) d).trans hB
      clear hN hB
      go_wp2_with fail
      go_ret
      exact ⟨r, k, rfl, by rw [Int.gcd_comm]; exact HN.out, by omega, hB2⟩
    · have hnm : n ≤ m := hu.len (by have := hv.lt; omega)
      refine (common_swap hT hu hv hnm (Nat.le_refl m) (by omega) (by omega) hlt).mono ?_
      rintro e w1 ⟨r, k, rfl, hN, hk, hB⟩
      exact ⟨r, k, rfl, by rw [Int.gcd_comm]; exact hN, by omega, hB⟩
  · by_cases h2 : m ≤ 2
    · have HU := Lib.hid hu
      have HV := Lib.hid hv
      have HT := Lib.hid hT
      obtain ⟨a, cap, x, rfl, _⟩ := hu
      obtain ⟨a2, cap2, y, rfl, _⟩ := hv
      clear hT
      have C := Lib.hid (order_nr HU.out HV.out (by omega) (by omega))
      have hge : ¬ (ord p q < 0) := by unfold ord; split <;> (first | omega | (split <;> omega))
      generalize ord p q = o at *
      clear hlt
      go_enter Tryd.func42, Tryd.ntmps42
      go_wp2_with fail
      refine C.out.mono ?_
      rintro e w1 ⟨rfl, d, rfl⟩
      clear C
      go_wp2_with fail
      refine (commonShort_any (w := w.drewN d) HT.out (HU.out.drew d) (HV.out.drew d) (by omega) h2).mono ?_
      rintro e w1 ⟨r, k, rfl, hN, hk, hB⟩
      have HN := Lib.hid hN
      have hB2 : Below w.heap.size w w1 := (below_drewN (Below.refl _ w) d).trans hB
      clear hN hB
      go_wp2_with fail
      go_ret
      exact ⟨r, k, rfl, HN.out, by omega, hB2⟩
    · have hnm : m ≤ n := hv.len (by have := hu.lt; omega)
      refine (common_run hT hu hv (Nat.le_refl n) hnm (by omega) (by omega) (by omega)).mono ?_
      rintro e w1 ⟨r, k, rfl, hN, hk, hB⟩
      exact ⟨r, k, rfl, hN, by omega, hB⟩
end Go.Proofs.YtkhchaoehlefdaaDoor
