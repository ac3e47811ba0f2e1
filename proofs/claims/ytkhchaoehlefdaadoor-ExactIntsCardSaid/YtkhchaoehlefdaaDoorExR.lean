/- Ratios: lowest. -/
import Derived.Test.YtkhchaoehlefdaaDoorExQ
set_option linter.unusedVariables false
set_option linter.unusedSimpArgs false
namespace Go.Proofs.YtkhchaoehlefdaaDoor
open Go.RowKit

/-- A ratio in memory of its own, both parts in normal form. -/
def RR (w : World) (base : Nat) (v : Value) (n m : Nat) (p q : Int) : Prop := ∃ c0 c1 c2 c3, v = .agg #[c0, c1, c2, c3] ∧ RI w base (.agg #[c0, c1]) n p ∧ RI w base (.agg #[c2, c3]) m q
theorem RR.ar {w : World} {base : Nat} {v : Value} {n m : Nat} {p q : Int} (h : RR w base v n m p q) : AR w v n m p q := by
  obtain ⟨c0, c1, c2, c3, e, h1, h2⟩ := h
  exact ⟨c0, c1, c2, c3, e, h1.ai, h2.ai⟩
theorem RR.below {w w' : World} {base : Nat} {v : Value} {n m : Nat} {p q : Int} (h : RR w base v n m p q) (k : Below w.heap.size w w') : RR w' base v n m p q := by
  obtain ⟨c0, c1, c2, c3, e, h1, h2⟩ := h
  exact ⟨c0, c1, c2, c3, e, h1.below k, h2.below k⟩
theorem RR.mono {w : World} {base B : Nat} {v : Value} {n m : Nat} {p q : Int} (h : RR w base v n m p q) (k : B ≤ base) : RR w B v n m p q := by
  obtain ⟨c0, c1, c2, c3, e, h1, h2⟩ := h
  exact ⟨c0, c1, c2, c3, e, h1.mono k, h2.mono k⟩
theorem RR.setOther {w : World} {base : Nat} {v : Value} {n m : Nat} {p q : Int} (h : RR w base v n m p q) {a : Addr} (ha : a.block < base) (u : Value) : RR (w.setCell a u) base v n m p q := by
  obtain ⟨c0, c1, c2, c3, e, h1, h2⟩ := h
  exact ⟨c0, c1, c2, c3, e, h1.setOther ha u, h2.setOther ha u⟩
theorem RR.form {w : World} {base : Nat} {v : Value} {n m : Nat} {p q : Int} (h : RR w base v n m p q) : ∃ g a c g' a' c', v = .agg #[.bool g, .slice a n c, .bool g', .slice a' m c'] := by
  obtain ⟨c0, c1, c2, c3, rfl, h1, h2⟩ := h
  obtain ⟨g, a, c, e⟩ := h1.form
  obtain ⟨g', a', c', e'⟩ := h2.form
  simp only [Value.agg.injEq, Array.mk.injEq, List.cons.injEq, and_true] at e e'
  obtain ⟨rfl, rfl⟩ := e
  obtain ⟨rfl, rfl⟩ := e'
  exact ⟨_, _, _, _, _, _, rfl⟩
theorem AR.form {w : World} {v : Value} {n m : Nat} {p q : Int} (h : AR w v n m p q) : ∃ g a c g' a' c', v = .agg #[.bool g, .slice a n c, .bool g', .slice a' m c'] := by
  obtain ⟨c0, c1, c2, c3, rfl, h1, h2⟩ := h
  obtain ⟨g, a, c, e⟩ := h1.form
  obtain ⟨g', a', c', e'⟩ := h2.form
  simp only [Value.agg.injEq, Array.mk.injEq, List.cons.injEq, and_true] at e e'
  obtain ⟨rfl, rfl⟩ := e
  obtain ⟨rfl, rfl⟩ := e'
  exact ⟨_, _, _, _, _, _, rfl⟩
theorem AR.below {w w' : World} {v : Value} {n m : Nat} {p q : Int} (h : AR w v n m p q) (k : Below w.heap.size w w') : AR w' v n m p q := by
  obtain ⟨c0, c1, c2, c3, e, h1, h2⟩ := h
  exact ⟨c0, c1, c2, c3, e, h1.below k, h2.below k⟩
/-- Where a ratio has been stored into its variable. -/
theorem fin_RR {w w2 : World} {t base : Nat} {v : Value} {n m : Nat} {p q : Int} (hR : RR w2 base v n m p q) (ht : t < base) (hb : w.heap.size ≤ t) (hbb : w.heap.size ≤ base) (hB : Below w.heap.size w w2) (u1 u2 u3 u4 : Value) :
    RR ((((w2.setCell ⟨t, 0, none⟩ u1).setCell ⟨t, 1, none⟩ u2).setCell ⟨t, 2, none⟩ u3).setCell ⟨t, 3, none⟩ u4) w.heap.size v n m p q ∧ Below w.heap.size w ((((w2.setCell ⟨t, 0, none⟩ u1).setCell ⟨t, 1, none⟩ u2).setCell ⟨t, 2, none⟩ u3).setCell ⟨t, 3, none⟩ u4) :=
  ⟨((((hR.setOther (a := ⟨t, 0, none⟩) ht u1).setOther (a := ⟨t, 1, none⟩) ht u2).setOther (a := ⟨t, 2, none⟩) ht u3).setOther (a := ⟨t, 3, none⟩) ht u4).mono hbb, (((hB.setCell (p := ⟨t, 0, none⟩) hb u1).setCell (p := ⟨t, 1, none⟩) hb u2).setCell (p := ⟨t, 2, none⟩) hb u3).setCell (p := ⟨t, 3, none⟩) hb u4⟩
/-- A ratio is returned. -/
def Lo (w : World) (p q : Int) (n m : Nat) (e : Ending) (w' : World) : Prop :=
  ∃ r k j, e = .returned r ∧ RR w' w.heap.size r k j p q ∧ k ≤ n ∧ j ≤ m ∧ Below w.heap.size w w'

theorem sg_div (b : Bool) {P g : Int} (h : g ∣ P) : sg b P / g = sg b (P / g) := by
  cases b
  · rfl
  · exact Int.neg_ediv_of_dvd h
theorem split_ai {w : World} {ng : Bool} {a : Option Addr} {n cap : Nat} {p : Int} (h : AI w (.agg #[.bool ng, .slice a n cap]) n p) (hn : n ≤ 1000000000) :
    ∃ k b, k ≤ n ∧ sg b (p.natAbs : Int) = p ∧ Nr w (.slice a k cap) k p.natAbs ∧ ∀ W, Below w.heap.size w W →
      Calls Tryd.prog 37 #[.agg #[.bool ng, .slice a n cap]] W fun e w' => e = .returned (.tuple #[.bool b, .slice a k cap]) ∧ w' = W.alloc (.cells #[.bool ng, .slice a n cap] 24) := by
  obtain ⟨ng', a', cap', x, e, hc, hd, hs, hp⟩ := h
  simp only [Value.agg.injEq, Array.mk.injEq, List.cons.injEq, and_true, Value.bool.injEq, Value.slice.injEq] at e
  obtain ⟨rfl, rfl, _, rfl⟩ := e
  have hz : (p.natAbs : Int) = V x n := by rw [hp, sg_abs ng (V_nonneg hd n)]
  refine ⟨tl x n, nb ng x n, tl_le x n, by rw [hz, sg_split, hp], by rw [hz]; exact nr_split hc hd hs, fun W hW => split_any ng a n cap x W hn hc (hs.below hW)⟩
theorem isOne_nr {w : World} {u : Value} {n : Nat} {p : Int} (hu : Nr w u n p) (hn : n ≤ 1000000000) :
    Calls Tryd.prog 88 #[u] w fun e w' => e = .returned (.bool (decide (p = 1))) ∧ w = w' := by
  have hl : p = 1 → n ≤ 1 := fun h => hu.len (by rw [h]; decide)
  have hz := hu.zero
  obtain ⟨a, cap, x, rfl, hc, hd, hs, ht, rfl⟩ := hu
  refine (isOne_any a n cap x w hn hc hs).mono ?_
  rintro e w' ⟨rfl, rfl⟩
  refine ⟨ret_bool (decide_eq_decide.2 ⟨?_, ?_⟩), rfl⟩
  · rintro ⟨rfl, h⟩
    rw [← h]; simp [V, P_zero]
  · intro h
    have h1 : n = 1 := by have := hl h; have : n ≠ 0 := fun h0 => by rw [h0] at h; simp [V] at h
                          omega
    subst h1
    exact ⟨rfl, by rw [← h]; simp [V, P_zero]⟩
theorem ri_zero (w : World) (base : Nat) : RI w base (.agg #[.bool false, .slice none 0 0]) 0 0 :=
  ⟨_, rfl, fun _ => 0, ⟨_, _, rfl, Nat.le_refl _, Dg_zero, fun h => absurd h (by omega)⟩, rfl, fun h => absurd h (by omega)⟩

set_option maxHeartbeats 1600000 in
theorem lowest_zero {L : Nat} (hC : ComFits L) (hD : DivFits L) (u v : Value) (n m : Nat) (p q : Int) (w : World) (hT : Tab w) (hu : AI w u n p) (hv : AI w v m q) (hn : n ≤ L) (hm : m ≤ L) (hL : L ≤ 1000000) (hq : 0 < q) (hp : p = 0) :
    Calls Tryd.prog 74 #[u, v] w (Lo w 0 1 n m) := by
  have hmq : 0 < m := Nat.pos_of_ne_zero fun h => by have := hv.lt; subst h; simp [P] at this; omega
  obtain ⟨ng, a, cap, rfl⟩ := hu.form
  obtain ⟨ng2, a2, cap2, rfl⟩ := hv.form
  obtain ⟨k, b, hk, hb, hN, hS⟩ := split_ai hu (by omega)
  obtain ⟨k2, b2, hk2, hb2, hN2, hS2⟩ := split_ai hv (by omega)
  have hqa : (q.natAbs : Int) = q := by omega
  rw [hqa] at hN2
  have S1 := Lib.hid hS
  have S2 := Lib.hid hS2
  have N1 := Lib.hid hN
  have N2 := Lib.hid hN2
  have HT := Lib.hid hT
  have hz := hN.zero
  have HC := Lib.hid hC
  have HD := Lib.hid hD
  have hkl : k ≤ L := by omega
  have hkl2 : k2 ≤ L := by omega
  subst hp
  have hk0 : k = 0 := hz.2 rfl
  subst hk0
  clear hz hb
  clear hu hv hS hS2 hN hN2 hT hC hD hb2 hqa
  go_enter Tryd.func74, Tryd.ntmps74
  go_wp2_with fail
  refine (S1.out _ (by repeat (first | exact Below.refl _ _ | exact Nat.le_refl _ | (apply Below.alloc) | (simp <;> omega)))).mono ?_
  rintro e w1 ⟨rfl, rfl⟩
  go_wp2_with fail
  refine (S2.out _ (by repeat (first | exact Below.refl _ _ | exact Nat.le_refl _ | (apply Below.alloc) | (simp <;> omega)))).mono ?_
  rintro e w1 ⟨rfl, rfl⟩
  go_wp2_with fail
  refine (Of_any 1 (by omega) _).mono ?_
  rintro e w2 ⟨r, j, rfl, hR, hj, hB⟩
  obtain ⟨ng3, a3, cap3, rfl⟩ := hR.form
  have hj1 : j ≤ 1 := hR.len (k := 1) (by decide) (by decide)
  obtain ⟨hcc, hff⟩ := bcell hB
  have HZ := Lib.hid hB.size
  have hBt := Lib.hid (Below.up (u := w) (by repeat (first | exact Below.refl _ _ | exact Nat.le_refl _ | (apply Below.alloc) | (simp <;> omega))) hB)
  have HR := Lib.hid hR
  clear hR hB
  have hz := HZ.out
  simp at hz
  have hd2 : w.heap.size + 1 + 1 < w2.heap.size := by omega
  go_wp2_with fail
  obtain ⟨f1, f2⟩ := fin_RR (v := .agg #[.bool false, .slice none 0 0, .bool ng3, .slice a3 j cap3]) (t := w.heap.size + 1 + 1) ⟨_, _, _, _, rfl, ri_zero _ _, HR.out⟩ (by simp) (by omega) (by simp <;> omega) hBt.out (.bool false) (.slice none 0 0) (.bool ng3) (.slice a3 j cap3)
  exact bodyPost_ret (v := .agg #[.bool false, .slice none 0 0, .bool ng3, .slice a3 j cap3]) (by simp [results, Tryd.results74, go_sem, hcc]) rfl ⟨_, _, _, rfl, f1, by omega, by omega, f2⟩

set_option maxHeartbeats 1600000 in
theorem lowest_one {L : Nat} (hC : ComFits L) (hD : DivFits L) (u v : Value) (n m : Nat) (p q : Int) (w : World) (hT : Tab w) (hu : AI w u n p) (hv : AI w v m q) (hn : n ≤ L) (hm : m ≤ L) (hL : L ≤ 1000000) (hq : 0 < q) (hp : p ≠ 0) (hg : Int.gcd p q = 1) :
    Calls Tryd.prog 74 #[u, v] w (Lo w p q n m) := by
  have hmq : 0 < m := Nat.pos_of_ne_zero fun h => by have := hv.lt; subst h; simp [P] at this; omega
  obtain ⟨ng, a, cap, rfl⟩ := hu.form
  obtain ⟨ng2, a2, cap2, rfl⟩ := hv.form
  obtain ⟨k, b, hk, hb, hN, hS⟩ := split_ai hu (by omega)
  obtain ⟨k2, b2, hk2, hb2, hN2, hS2⟩ := split_ai hv (by omega)
  have hqa : (q.natAbs : Int) = q := by omega
  rw [hqa] at hN2
  have S1 := Lib.hid hS
  have S2 := Lib.hid hS2
  have N1 := Lib.hid hN
  have N2 := Lib.hid hN2
  have HT := Lib.hid hT
  have hz := hN.zero
  have HC := Lib.hid hC
  have HD := Lib.hid hD
  have hkl : k ≤ L := by omega
  have hkl2 : k2 ≤ L := by omega
  have hk0 : ¬ (k = 0) := fun h => hp (by have := hz.1 h; omega)
  have HG := Lib.hid (show ((Int.gcd (p.natAbs : Int) q : Nat) : Int) = 1 by rw [show Int.gcd (p.natAbs : Int) q = Int.gcd p q by simp [Int.gcd], hg]; rfl)
  have HB := Lib.hid hb
  clear hb hg
  clear hu hv hS hS2 hN hN2 hT hC hD hb2 hqa
  go_enter Tryd.func74, Tryd.ntmps74
  go_wp2_with fail
  refine (S1.out _ (by repeat (first | exact Below.refl _ _ | exact Nat.le_refl _ | (apply Below.alloc) | (simp <;> omega)))).mono ?_
  rintro e w1 ⟨rfl, rfl⟩
  go_wp2_with fail
  refine (S2.out _ (by repeat (first | exact Below.refl _ _ | exact Nat.le_refl _ | (apply Below.alloc) | (simp <;> omega)))).mono ?_
  rintro e w1 ⟨rfl, rfl⟩
  go_wp2_with fail
  refine (HC.out _ _ _ _ _ _ _ (HT.out.up (by repeat (first | exact Below.refl _ _ | exact Nat.le_refl _ | (apply Below.alloc) | (simp <;> omega)))) (N1.out.below (by repeat (first | exact Below.refl _ _ | exact Nat.le_refl _ | (apply Below.alloc) | (simp <;> omega)))) (N2.out.below (by repeat (first | exact Below.refl _ _ | exact Nat.le_refl _ | (apply Below.alloc) | (simp <;> omega)))) (by omega) (by omega)).mono ?_
  rintro e w2 ⟨g, kg, rfl, hG, hkg, hB⟩
  have hG1 := hG.nr
  rw [HG.out] at hG1
  have G1 := Lib.hid hG1
  have B0 := Lib.hid hB
  have BT := Lib.hid (Below.up (u := w) (by repeat (first | exact Below.refl _ _ | exact Nat.le_refl _ | (apply Below.alloc) | (simp <;> omega))) hB)
  clear hG hB hG1
  go_wp2_with fail
  refine (isOne_nr G1.out (by omega)).mono ?_
  rintro e w3 ⟨rfl, rfl⟩
  go_wp2_with fail
  refine (fresh_nr (N1.out.below BT.out) (by omega)).mono ?_
  rintro e w3 ⟨r1, rfl, hR1, hB1⟩
  have R1 := Lib.hid hR1
  have B1 := Lib.hid hB1
  clear hR1 hB1
  go_wp2_with fail
  refine (signed_nr b R1.out (by omega)).mono ?_
  rintro e w4 ⟨r2, rfl, hR2, hB2⟩
  rw [HB.out] at hR2
  have R2 := Lib.hid hR2
  have B2 := Lib.hid (Below.up B1.out hB2)
  clear hR2 hB2
  go_wp2_with fail
  refine (fresh_nr (N2.out.below (Below.up BT.out B2.out)) (by omega)).mono ?_
  rintro e w5 ⟨r3, rfl, hR3, hB3⟩
  have R3 := Lib.hid hR3
  have B3 := Lib.hid hB3
  clear hR3 hB3
  go_wp2_with fail
  refine (signed_nr false R3.out (by omega)).mono ?_
  rintro e w6 ⟨r4, rfl, hR4, hB4⟩
  have B4 := Lib.hid (Below.up B3.out hB4)
  have hw2 := B0.out.size
  have hw3 := B2.out.size
  have HR1 := Lib.hid ((R2.out.below B4.out).mono hw2)
  have HR2 := Lib.hid (hR4.mono (Nat.le_trans hw2 hw3))
  have BT2 := Lib.hid (Below.up B0.out (Below.up B2.out B4.out))
  clear hR4 hB4 hw2 hw3
  obtain ⟨ng3, a3, cap3, rfl⟩ := HR1.out.form
  obtain ⟨ng4, a4, cap4, rfl⟩ := HR2.out.form
  obtain ⟨hcc, hff⟩ := bcell BT2.out
  have HZ := Lib.hid BT2.out.size
  go_wp2_with fail
  have hz := HZ.out
  simp at hz
  obtain ⟨f1, f2⟩ := fin_RR (w := w) (v := .agg #[.bool ng3, .slice a3 _ cap3, .bool ng4, .slice a4 _ cap4]) (t := w.heap.size + 1 + 1) ⟨_, _, _, _, rfl, HR1.out, HR2.out⟩ (by simp) (by omega) (by simp <;> omega) (Below.up (u := w) (by repeat (first | exact Below.refl _ _ | exact Nat.le_refl _ | (apply Below.alloc) | (simp <;> omega))) BT2.out) (.bool ng3) (.slice a3 _ cap3) (.bool ng4) (.slice a4 _ cap4)
  exact bodyPost_ret (v := .agg #[.bool ng3, .slice a3 _ cap3, .bool ng4, .slice a4 _ cap4]) (by simp [results, Tryd.results74, go_sem, hcc]) rfl ⟨_, _, _, rfl, f1, by omega, by omega, f2⟩

set_option maxHeartbeats 1600000 in
theorem lowest_more {L : Nat} (hC : ComFits L) (hD : DivFits L) (u v : Value) (n m : Nat) (p q : Int) (w : World) (hT : Tab w) (hu : AI w u n p) (hv : AI w v m q) (hn : n ≤ L) (hm : m ≤ L) (hL : L ≤ 1000000) (hq : 0 < q) (hp : p ≠ 0) (g0 : Nat) (hg : Int.gcd p q = g0) (hg1 : g0 ≠ 1) :
    Calls Tryd.prog 74 #[u, v] w (Lo w (p / g0) (q / g0) n m) := by
  have hmq : 0 < m := Nat.pos_of_ne_zero fun h => by have := hv.lt; subst h; simp [P] at this; omega
  obtain ⟨ng, a, cap, rfl⟩ := hu.form
  obtain ⟨ng2, a2, cap2, rfl⟩ := hv.form
  obtain ⟨k, b, hk, hb, hN, hS⟩ := split_ai hu (by omega)
  obtain ⟨k2, b2, hk2, hb2, hN2, hS2⟩ := split_ai hv (by omega)
  have hqa : (q.natAbs : Int) = q := by omega
  rw [hqa] at hN2
  have S1 := Lib.hid hS
  have S2 := Lib.hid hS2
  have N1 := Lib.hid hN
  have N2 := Lib.hid hN2
  have HT := Lib.hid hT
  have hz := hN.zero
  have HC := Lib.hid hC
  have HD := Lib.hid hD
  have hkl : k ≤ L := by omega
  have hkl2 : k2 ≤ L := by omega
  have hk0 : ¬ (k = 0) := fun h => hp (by have := hz.1 h; omega)
  have HG := Lib.hid (show ((Int.gcd (p.natAbs : Int) q : Nat) : Int) = (g0 : Int) by rw [show Int.gcd (p.natAbs : Int) q = Int.gcd p q by simp [Int.gcd], hg])
  have hd1 : (g0 : Int) ∣ (p.natAbs : Int) := by rw [← hg]; exact Int.dvd_natAbs.2 (Int.gcd_dvd_left ..)
  have HB := Lib.hid (show sg b ((p.natAbs : Int) / g0) = p / g0 by rw [← sg_div b hd1, hb])
  have hgp : (0 : Int) < g0 := by
    have : 0 < Int.gcd p q := Int.gcd_pos_of_ne_zero_left q hp
    omega
  have hgd : decide ((g0 : Int) = 1) = false := decide_eq_false (by omega)
  clear hb hg hd1
  clear hu hv hS hS2 hN hN2 hT hC hD hb2 hqa
  go_enter Tryd.func74, Tryd.ntmps74
  go_wp2_with fail
  refine (S1.out _ (by repeat (first | exact Below.refl _ _ | exact Nat.le_refl _ | (apply Below.alloc) | (simp <;> omega)))).mono ?_
  rintro e w1 ⟨rfl, rfl⟩
  go_wp2_with fail
  refine (S2.out _ (by repeat (first | exact Below.refl _ _ | exact Nat.le_refl _ | (apply Below.alloc) | (simp <;> omega)))).mono ?_
  rintro e w1 ⟨rfl, rfl⟩
  go_wp2_with fail
  refine (HC.out _ _ _ _ _ _ _ (HT.out.up (by repeat (first | exact Below.refl _ _ | exact Nat.le_refl _ | (apply Below.alloc) | (simp <;> omega)))) (N1.out.below (by repeat (first | exact Below.refl _ _ | exact Nat.le_refl _ | (apply Below.alloc) | (simp <;> omega)))) (N2.out.below (by repeat (first | exact Below.refl _ _ | exact Nat.le_refl _ | (apply Below.alloc) | (simp <;> omega)))) (by omega) (by omega)).mono ?_
  rintro e w2 ⟨g, kg, rfl, hG, hkg, hB⟩
  have hG1 := hG.nr
  rw [HG.out] at hG1
  have G1 := Lib.hid hG1
  have B0 := Lib.hid hB
  have BT := Lib.hid (Below.up (u := w) (by repeat (first | exact Below.refl _ _ | exact Nat.le_refl _ | (apply Below.alloc) | (simp <;> omega))) hB)
  clear hG hB hG1
  go_wp2_with fail
  refine (isOne_nr G1.out (by omega)).mono ?_
  rintro e w3 ⟨rfl, rfl⟩
  rw [hgd]
  go_wp2_with fail
  have h1 : kg ≤ L := by omega
  refine (HD.out _ _ _ _ _ _ _ (N1.out.below BT.out) G1.out hgp (by omega) h1).mono ?_
  rintro e w3 ⟨r1, s1, k3, j3, rfl, hR1, hS1, hk3, hj3, hB1⟩
  have R1 := Lib.hid hR1
  have B1 := Lib.hid hB1
  clear hR1 hS1 hB1
  go_wp2_with fail
  refine (HD.out _ _ _ _ _ _ _ (N2.out.below (Below.up BT.out B1.out)) (G1.out.below B1.out) hgp (by omega) h1).mono ?_
  rintro e w4 ⟨r2, s2, k4, j4, rfl, hR2, hS2, hk4, hj4, hB2⟩
  have R2 := Lib.hid hR2
  have B2 := Lib.hid hB2
  clear hR2 hS2 hB2
  go_wp2_with fail
  refine (signed_nr b (R1.out.below B2.out) (by omega)).mono ?_
  rintro e w5 ⟨r3, rfl, hR3, hB3⟩
  rw [HB.out] at hR3
  have R3 := Lib.hid hR3
  have B3 := Lib.hid hB3
  clear hR3 hB3
  go_wp2_with fail
  refine (signed_nr false (R2.out.below B3.out) (by omega)).mono ?_
  rintro e w6 ⟨r4, rfl, hR4, hB4⟩
  have hw2 := B0.out.size
  have hw3 := B1.out.size
  have HR1 := Lib.hid ((R3.out.below hB4).mono hw2)
  have HR2 := Lib.hid (hR4.mono (Nat.le_trans hw2 hw3))
  have BT2 := Lib.hid (Below.up B0.out (Below.up B1.out (Below.up B2.out (Below.up B3.out hB4))))
  clear hR4 hB4 hw2 hw3
  obtain ⟨ng3, a3, cap3, rfl⟩ := HR1.out.form
  obtain ⟨ng4, a4, cap4, rfl⟩ := HR2.out.form
  obtain ⟨hcc, hff⟩ := bcell BT2.out
  have HZ := Lib.hid BT2.out.size
  go_wp2_with fail
  have hz := HZ.out
  simp at hz
  obtain ⟨f1, f2⟩ := fin_RR (w := w) (v := .agg #[.bool ng3, .slice a3 _ cap3, .bool ng4, .slice a4 _ cap4]) (t := w.heap.size + 1 + 1) ⟨_, _, _, _, rfl, HR1.out, HR2.out⟩ (by simp) (by omega) (by simp <;> omega) (Below.up (u := w) (by repeat (first | exact Below.refl _ _ | exact Nat.le_refl _ | (apply Below.alloc) | (simp <;> omega))) BT2.out) (.bool ng3) (.slice a3 _ cap3) (.bool ng4) (.slice a4 _ cap4)
  exact bodyPost_ret (v := .agg #[.bool ng3, .slice a3 _ cap3, .bool ng4, .slice a4 _ cap4]) (by simp [results, Tryd.results74, go_sem, hcc]) rfl ⟨_, _, _, rfl, f1, by omega, by omega, f2⟩

theorem lowest_any {L : Nat} (hC : ComFits L) (hD : DivFits L) (u v : Value) (n m : Nat) (p q : Int) (w : World) (hT : Tab w) (hu : AI w u n p) (hv : AI w v m q) (hn : n ≤ L) (hm : m ≤ L) (hL : L ≤ 1000000) (hq : 0 < q) :
    Calls Tryd.prog 74 #[u, v] w (Lo w (p / Int.gcd p q) (q / Int.gcd p q) n m) := by
  by_cases hp : p = 0
  · subst hp
    have h1 : (Int.gcd 0 q : Int) = q := by simp [Int.gcd]; omega
    rw [h1, Int.zero_ediv, Int.ediv_self (by omega)]
    exact lowest_zero hC hD u v n m 0 q w hT hu hv hn hm hL hq rfl
  by_cases hg : Int.gcd p q = 1
  · rw [hg]
    rw [show ((1 : Nat) : Int) = 1 from rfl, Int.ediv_one, Int.ediv_one]
    exact lowest_one hC hD u v n m p q w hT hu hv hn hm hL hq hp hg
  · exact lowest_more hC hD u v n m p q w hT hu hv hn hm hL hq hp _ rfl hg
end Go.Proofs.YtkhchaoehlefdaaDoor
