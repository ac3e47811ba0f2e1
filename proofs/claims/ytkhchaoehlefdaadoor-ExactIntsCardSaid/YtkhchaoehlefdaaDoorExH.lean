/- Integers: split, signed, and what is built of them. -/
import Derived.Test.YtkhchaoehlefdaaDoorExG
import Derived.WalkSmall
namespace Go.Proofs.YtkhchaoehlefdaaDoor
open Go.RowKit

/-- A number in normal form, shown by a slice. -/
def Nr (w : World) (v : Value) (n : Nat) (z : Int) : Prop := ∃ a cap x, v = .slice a n cap ∧ n ≤ cap ∧ Dg x ∧ Sl w a n x ∧ (0 < n → x (n - 1) ≠ 0) ∧ V x n = z
/-- A number with a sign. -/
def sg (b : Bool) (p : Int) : Int := if b = true then - p else p
theorem sg_true (p : Int) : sg true p = - p := rfl
theorem sg_false (p : Int) : sg false p = p := rfl
theorem sg_abs (b : Bool) {p : Int} (h : 0 ≤ p) : ((sg b p).natAbs : Int) = p := by cases b <;> simp [sg] <;> omega
theorem sg_neg (b : Bool) {p : Int} (h : 0 ≤ p) : decide (sg b p < 0) = (b && decide (p ≠ 0)) := by
  cases b
  · rw [sg_false, decide_eq_false (by omega)]; rfl
  · rw [sg_true, Bool.true_and]; exact decide_eq_decide.2 (by omega)
/-- An integer as it may come in. -/
def AI (w : World) (v : Value) (n : Nat) (z : Int) : Prop := ∃ ng a cap x, v = .agg #[.bool ng, .slice a n cap] ∧ n ≤ cap ∧ Dg x ∧ Sl w a n x ∧ z = sg ng (V x n)
/-- An integer in normal form, in memory of its own. -/
def RI (w : World) (base : Nat) (v : Value) (n : Nat) (z : Int) : Prop := ∃ u, v = .agg #[.bool (decide (z < 0)), u] ∧ Nt w base u n (z.natAbs : Int)

theorem Sl.below {w w' : World} {a : Option Addr} {n : Nat} {x : Nat → Int} (h : Sl w a n x) (k : Below w.heap.size w w') : Sl w' a n x := sl_below h k
theorem Nr.below {w w' : World} {v : Value} {n : Nat} {z : Int} (h : Nr w v n z) (k : Below w.heap.size w w') : Nr w' v n z := by
  obtain ⟨a, cap, x, h1, h2, h3, h4, h5, h6⟩ := h
  exact ⟨a, cap, x, h1, h2, h3, h4.below k, h5, h6⟩
theorem AI.below {w w' : World} {v : Value} {n : Nat} {z : Int} (h : AI w v n z) (k : Below w.heap.size w w') : AI w' v n z := by
  obtain ⟨ng, a, cap, x, h1, h2, h3, h4, h5⟩ := h
  exact ⟨ng, a, cap, x, h1, h2, h3, h4.below k, h5⟩
theorem Fr.sl {w : World} {base : Nat} {a : Option Addr} {n cap : Nat} {x : Nat → Int} (h : Fr w base (.slice a n cap) n x) : Sl w a n x := by
  obtain ⟨a', cap', e, hc, hd, hO⟩ := h
  injection e with e1 e2 e3
  subst e1
  intro hn
  obtain ⟨b, N, e, hb, hN, hO⟩ := hO hn
  exact ⟨b, 0, e, hO.row0 hN⟩
theorem Nt.nr {w : World} {base : Nat} {v : Value} {n : Nat} {z : Int} (h : Nt w base v n z) : Nr w v n z := by
  obtain ⟨x, hF, hv, ht⟩ := h
  have hF' := hF
  obtain ⟨a, cap, rfl, hc, hd, hO⟩ := hF
  exact ⟨a, cap, x, rfl, hc, hd, hF'.sl, ht, hv⟩
theorem Nt.below {w w' : World} {base : Nat} {v : Value} {n : Nat} {z : Int} (h : Nt w base v n z) (k : Below w.heap.size w w') : Nt w' base v n z := by
  obtain ⟨x, ⟨a, cap, rfl, hc, hd, hO⟩, hv, ht⟩ := h
  refine ⟨x, ⟨a, cap, rfl, hc, hd, fun hn => ?_⟩, hv, ht⟩
  obtain ⟨b, N, e, hb, hN, hO⟩ := hO hn
  exact ⟨b, N, e, hb, hN, hO.below k hO.lt⟩
theorem Nt.mono {w : World} {base B : Nat} {v : Value} {n : Nat} {z : Int} (h : Nt w base v n z) (k : B ≤ base) : Nt w B v n z := by
  obtain ⟨x, ⟨a, cap, rfl, hc, hd, hO⟩, hv, ht⟩ := h
  refine ⟨x, ⟨a, cap, rfl, hc, hd, fun hn => ?_⟩, hv, ht⟩
  obtain ⟨b, N, e, hb, hN, hO⟩ := hO hn
  exact ⟨b, N, e, by omega, hN, hO⟩
theorem Nr.nonneg {w : World} {v : Value} {n : Nat} {z : Int} (h : Nr w v n z) : 0 ≤ z := by
  obtain ⟨a, cap, x, h1, h2, h3, h4, h5, h6⟩ := h
  rw [← h6]; exact V_nonneg h3 n
theorem Nr.lt {w : World} {v : Value} {n : Nat} {z : Int} (h : Nr w v n z) : z < P n := by
  obtain ⟨a, cap, x, h1, h2, h3, h4, h5, h6⟩ := h
  rw [← h6]; exact V_lt h3 n
theorem Nr.len {w : World} {v : Value} {n k : Nat} {z : Int} (h : Nr w v n z) (hz : z < P k) : n ≤ k := by
  obtain ⟨a, cap, x, h1, h2, h3, h4, h5, h6⟩ := h
  rw [← h6] at hz
  exact len_le h3 h5 hz
theorem Nr.zero {w : World} {v : Value} {n : Nat} {z : Int} (h : Nr w v n z) : n = 0 ↔ z = 0 := by
  constructor
  · rintro rfl; have := h.lt; have := h.nonneg; rw [P_zero] at *; omega
  · rintro rfl; have := h.len (k := 0) (by rw [P_zero]; omega); omega
theorem RI.ai {w : World} {base : Nat} {v : Value} {n : Nat} {z : Int} (h : RI w base v n z) : AI w v n z := by
  obtain ⟨u, rfl, hN⟩ := h
  obtain ⟨a, cap, x, rfl, hc, hd, hs, ht, hv⟩ := hN.nr
  refine ⟨_, a, cap, x, rfl, hc, hd, hs, ?_⟩
  rw [hv]
  by_cases g : z < 0 <;> simp [g, sg] <;> omega
theorem RI.below {w w' : World} {base : Nat} {v : Value} {n : Nat} {z : Int} (h : RI w base v n z) (k : Below w.heap.size w w') : RI w' base v n z := by
  obtain ⟨u, rfl, hN⟩ := h
  exact ⟨u, rfl, hN.below k⟩
theorem RI.mono {w : World} {base B : Nat} {v : Value} {n : Nat} {z : Int} (h : RI w base v n z) (k : B ≤ base) : RI w B v n z := by
  obtain ⟨u, rfl, hN⟩ := h
  exact ⟨u, rfl, hN.mono k⟩
/-- As many words as are wanted. -/
theorem RI.len {w : World} {base : Nat} {v : Value} {n k : Nat} {z : Int} (h : RI w base v n z) (h1 : - P k < z) (h2 : z < P k) : n ≤ k := by
  obtain ⟨u, rfl, hN⟩ := h
  exact hN.nr.len (k := k) (by omega)
theorem AI.lt {w : World} {v : Value} {n : Nat} {z : Int} (h : AI w v n z) : - P n < z ∧ z < P n := by
  obtain ⟨ng, a, cap, x, rfl, hc, hd, hs, rfl⟩ := h
  have := V_lt hd n
  have := V_nonneg hd n
  cases ng <;> simp only [sg_true, sg_false] <;> omega

theorem bcell {W w1 : World} (hb : Below W.heap.size W w1) : (∀ b o, b < W.heap.size → w1.cell? ⟨b, o, none⟩ = W.cell? ⟨b, o, none⟩) ∧ (∀ b o, b < W.heap.size → w1.frozen? ⟨b, o, none⟩ = W.frozen? ⟨b, o, none⟩) :=
  ⟨fun b o h => hb.cell (p := ⟨b, o, none⟩) h, fun b o h => hb.frozen (p := ⟨b, o, none⟩) h⟩

/-! ### The contracts by values -/
theorem order_nr {w : World} {u v : Value} {n m : Nat} {p q : Int} (hu : Nr w u n p) (hv : Nr w v m q) (hn : n ≤ 1000000000) (hm : m ≤ 1000000000) :
    Calls Tryd.prog 54 #[u, v] w fun e w' => e = .returned (.int .i64 (ord p q)) ∧ ∃ k, w' = w.drewN k := by
  obtain ⟨a, cap, x, rfl, _, hd, hs, ht, rfl⟩ := hu
  obtain ⟨a2, cap2, y, rfl, _, hd2, hs2, ht2, rfl⟩ := hv
  exact order_any a a2 n m cap cap2 x y w hn hm hd hd2 hs hs2 ht ht2
theorem sum_nr {w : World} {u v : Value} {n m : Nat} {p q : Int} (hu : Nr w u n p) (hv : Nr w v m q) (hn : n ≤ 100000000) (hm : m ≤ 100000000) :
    Calls Tryd.prog 62 #[u, v] w fun e w' => ∃ r k, e = .returned r ∧ Nt w' w.heap.size r k (p + q) ∧ k ≤ max n m + 1 ∧ Below w.heap.size w w' := by
  obtain ⟨a, cap, x, rfl, _, hd, hs, ht, rfl⟩ := hu
  obtain ⟨a2, cap2, y, rfl, _, hd2, hs2, ht2, rfl⟩ := hv
  exact sum_any a a2 n m cap cap2 x y w hn hm hd hd2 hs hs2
theorem difference_nr {w : World} {u v : Value} {n m : Nat} {p q : Int} (hu : Nr w u n p) (hv : Nr w v m q) (hn : n ≤ 100000000) (hpq : q ≤ p) :
    Calls Tryd.prog 63 #[u, v] w fun e w' => ∃ r k, e = .returned r ∧ Nt w' w.heap.size r k (p - q) ∧ k ≤ n ∧ Below w.heap.size w w' := by
  have hm : m ≤ n := hv.len (by have := hu.lt; omega)
  obtain ⟨a, cap, x, rfl, _, hd, hs, ht, rfl⟩ := hu
  obtain ⟨a2, cap2, y, rfl, _, hd2, hs2, ht2, rfl⟩ := hv
  exact difference_any a a2 n m cap cap2 x y w hn hm hd hd2 hs hs2 hpq
theorem product_nr {w : World} {u v : Value} {n m : Nat} {p q : Int} (hu : Nr w u n p) (hv : Nr w v m q) (hn : n ≤ 100000000) (hm : m ≤ 100000000) (h40 : n < 40 ∨ m < 40) :
    Calls Tryd.prog 41 #[u, v] w fun e w' => ∃ r k, e = .returned r ∧ Nt w' w.heap.size r k (p * q) ∧ k ≤ n + m ∧ Below w.heap.size w w' := by
  obtain ⟨a, cap, x, rfl, _, hd, hs, ht, rfl⟩ := hu
  obtain ⟨a2, cap2, y, rfl, _, hd2, hs2, ht2, rfl⟩ := hv
  exact product_short a a2 n m cap cap2 x y w hn hm h40 hd hd2 hs hs2
theorem fresh_nr {w : World} {u : Value} {n : Nat} {p : Int} (hu : Nr w u n p) (hn : n ≤ 1000000000) :
    Calls Tryd.prog 39 #[u] w fun e w' => ∃ r, e = .returned r ∧ Nt w' w.heap.size r n p ∧ Below w.heap.size w w' := by
  obtain ⟨a, cap, x, rfl, _, hd, hs, ht, rfl⟩ := hu
  refine (fresh_any a n cap x w hn hd hs).mono ?_
  rintro e w' ⟨v, h1, h2, h3⟩
  exact ⟨v, h1, ⟨x, h2, rfl, ht⟩, h3⟩

/-! ### split, signed -/
/-- Whether an integer is below 0. -/
def nb (ng : Bool) (x : Nat → Int) (n : Nat) : Bool := ng && decide (0 < tl x n)
theorem split_any (ng : Bool) (a : Option Addr) (n cap : Nat) (x : Nat → Int) (w : World) (hn : n ≤ 1000000000) (hc : n ≤ cap) (hr : Sl w a n x) :
    Calls Tryd.prog 37 #[.agg #[.bool ng, .slice a n cap]] w fun e w' =>
      e = .returned (.tuple #[.bool (nb ng x n), .slice a (tl x n) cap]) ∧ w' = w.alloc (.cells #[.bool ng, .slice a n cap] 24) := by
  have HR := Lib.hid hr
  clear hr
  go_enter Tryd.func37, Tryd.ntmps37
  go_wp2_with fail
  refine (trim_any a n cap x _ hn hc (HR.out.below ((Below.refl _ _).alloc (Nat.le_refl _) _))).mono ?_
  rintro e w' ⟨rfl, rfl⟩
  cases ng
  · go_wp2_with fail
    go_ret2
    exact ⟨by simp [nb], rfl⟩
  · go_wp2_with fail
    go_ret2
    exact ⟨by simp [nb], rfl⟩

theorem signed_any (ng : Bool) (a : Option Addr) (n cap : Nat) (w : World) (hn : n ≤ 1000000000) :
    Calls Tryd.prog 38 #[.bool ng, .slice a n cap] w fun e w' =>
      e = .returned (.agg #[.bool (ng && decide (0 < n)), if n = 0 then .slice none 0 0 else .slice a n cap]) ∧ Below w.heap.size w w' := by
  by_cases h0 : n = 0
  · subst h0
    go_enter Tryd.func38, Tryd.ntmps38
    go_wp2_with fail
    refine bodyPost_ret (v := .agg #[.bool false, .slice none 0 0]) (by simp [results, Tryd.results38, go_sem]) rfl ⟨by simp, (Below.refl _ _).alloc (Nat.le_refl _) _⟩
  · have h1 : ((n : Int) == 0) = false := by simp; omega
    go_enter Tryd.func38, Tryd.ntmps38
    go_wp2_with fail
    refine bodyPost_ret (v := .agg #[.bool ng, .slice a n cap]) (by simp [results, Tryd.results38, go_sem]) rfl ⟨by simp [Nat.pos_of_ne_zero h0], (Below.refl _ _).alloc (Nat.le_refl _) _⟩

theorem signed_nr {w : World} {base : Nat} {u : Value} {n : Nat} {p : Int} (ng : Bool) (hu : Nt w base u n p) (hn : n ≤ 1000000000) :
    Calls Tryd.prog 38 #[.bool ng, u] w fun e w' => ∃ r, e = .returned r ∧ RI w' base r n (sg ng p) ∧ Below w.heap.size w w' := by
  have hp := hu.nr.nonneg
  have hz := hu.nr.zero
  obtain ⟨x, ⟨a, cap, rfl, hc, hd, hO⟩, hv, ht⟩ := id hu
  refine (signed_any ng a n cap w hn).mono ?_
  rintro e w' ⟨rfl, hB⟩
  refine ⟨_, rfl, ⟨if n = 0 then .slice none 0 0 else .slice a n cap, ?_, ?_⟩, hB⟩
  · have e1 : decide (0 < n) = decide (p ≠ 0) := decide_eq_decide.2 (by clear hO ht; omega)
    rw [sg_neg ng hp, e1]
  · rw [sg_abs ng hp]
    by_cases h0 : n = 0
    · subst h0
      rw [if_pos rfl]
      exact ⟨x, ⟨none, 0, rfl, Nat.le_refl _, hd, fun h => absurd h (by omega)⟩, hv, fun h => absurd h (by omega)⟩
    · rw [if_neg h0]; exact hu.below hB

theorem RI.form {w : World} {base : Nat} {v : Value} {n : Nat} {z : Int} (h : RI w base v n z) : ∃ ng a cap, v = .agg #[.bool ng, .slice a n cap] := by
  obtain ⟨u, rfl, x, ⟨a, cap, rfl, _⟩, _⟩ := h
  exact ⟨_, a, cap, rfl⟩
theorem Nt.setOther {w : World} {base : Nat} {v : Value} {n : Nat} {z : Int} (h : Nt w base v n z) {a : Addr} (ha : a.block < base) (u : Value) : Nt (w.setCell a u) base v n z := by
  obtain ⟨x, ⟨a', cap, rfl, hc, hd, hO⟩, hv, ht⟩ := h
  refine ⟨x, ⟨a', cap, rfl, hc, hd, fun hn => ?_⟩, hv, ht⟩
  obtain ⟨b, N, e, hb, hN, hO⟩ := hO hn
  exact ⟨b, N, e, hb, hN, hO.setOther (by omega) _⟩
theorem RI.setOther {w : World} {base : Nat} {v : Value} {n : Nat} {z : Int} (h : RI w base v n z) {a : Addr} (ha : a.block < base) (u : Value) : RI (w.setCell a u) base v n z := by
  obtain ⟨u', rfl, hN⟩ := h
  exact ⟨u', rfl, hN.setOther ha u⟩
theorem RI.z {w : World} {base : Nat} {v : Value} {n : Nat} {z y : Int} (h : RI w base v n z) (e : z = y) : RI w base v n y := e ▸ h

/-- Where a result of two fields has been stored into its variable. -/
theorem fin_RI {w w2 : World} {t base : Nat} {v : Value} {k : Nat} {z : Int} (hR : RI w2 base v k z) (ht : t < base) (hb : w.heap.size ≤ t) (hB : Below w.heap.size w w2) (u1 u2 : Value) :
    RI ((w2.setCell ⟨t, 0, none⟩ u1).setCell ⟨t, 1, none⟩ u2) w.heap.size v k z ∧ Below w.heap.size w ((w2.setCell ⟨t, 0, none⟩ u1).setCell ⟨t, 1, none⟩ u2) :=
  ⟨((hR.setOther (a := ⟨t, 0, none⟩) ht u1).setOther (a := ⟨t, 1, none⟩) ht u2).mono (by omega), (hB.setCell (p := ⟨t, 0, none⟩) hb u1).setCell (p := ⟨t, 1, none⟩) hb u2⟩

set_option maxHeartbeats 800000 in
theorem signedSum_same (an : Bool) (u v : Value) (n m : Nat) (p q : Int) (w : World) (hu : Nr w u n p) (hv : Nr w v m q) (hn : n ≤ 100000000) (hm : m ≤ 100000000) :
    Calls Tryd.prog 40 #[.bool an, u, .bool an, v] w fun e w' => ∃ r k, e = .returned r ∧ RI w' w.heap.size r k (sg an (p + q)) ∧ k ≤ max n m + 1 ∧ Below w.heap.size w w' := by
  have HU := Lib.hid hu
  have HV := Lib.hid hv
  clear hu hv
  have h1 : (an == an) = true := by simp
  go_enter Tryd.func40, Tryd.ntmps40
  go_wp2_with fail
  have hB0 : Below w.heap.size w (w.alloc (.cells #[.bool false, .slice none 0 0] 24)) := (Below.refl _ _).alloc (Nat.le_refl _) _
  refine (sum_nr (HU.out.below hB0) (HV.out.below hB0) hn hm).mono ?_
  rintro e w1 ⟨s, k, rfl, hN, hk, hB⟩
  go_wp2_with fail
  refine (signed_nr an hN (by omega)).mono ?_
  rintro e w2 ⟨r, rfl, hR, hB2⟩
  obtain ⟨ng, a, cap, rfl⟩ := hR.form
  have hB3 := Below.up hB hB2
  obtain ⟨hc, hf⟩ := bcell hB3
  have hz : w.heap.size < w2.heap.size := by have := hB3.size; simp at this; omega
  have HR := Lib.hid hR
  clear hR hN
  go_wp2_with fail
  obtain ⟨f1, f2⟩ := fin_RI HR.out (t := w.heap.size) (by simp) (Nat.le_refl _) (Below.up hB0 hB3) (.bool ng) (.slice a k cap)
  exact bodyPost_ret (v := .agg #[.bool ng, .slice a k cap]) (by simp [results, Tryd.results40, go_sem, hc]) rfl ⟨_, k, rfl, f1, hk, f2⟩

theorem signedSum_diff (an bn : Bool) (hab : an = !bn) (u v : Value) (n m : Nat) (p q : Int) (w : World) (hu : Nr w u n p) (hv : Nr w v m q) (hn : n ≤ 100000000) (hm : m ≤ 100000000) :
    Calls Tryd.prog 40 #[.bool an, u, .bool bn, v] w fun e w' => ∃ r k, e = .returned r ∧ RI w' w.heap.size r k (sg an (p - q)) ∧ k ≤ max n m + 1 ∧ Below w.heap.size w w' := by
  have HU := Lib.hid hu
  have HV := Lib.hid hv
  clear hu hv
  have h1 : (an == bn) = false := by subst hab; cases bn <;> rfl
  have hB0 : Below w.heap.size w (w.alloc (.cells #[.bool false, .slice none 0 0] 24)) := (Below.refl _ _).alloc (Nat.le_refl _) _
  by_cases hlt : p < q
  · have C := Lib.hid (order_nr (HU.out.below hB0) (HV.out.below hB0) (by omega) (by omega))
    rw [ord_lt hlt] at C
    have HL := Lib.hid hlt
    have HAB := Lib.hid hab
    clear hlt hab
    go_enter Tryd.func40, Tryd.ntmps40
    go_wp2_with fail
    refine C.out.mono ?_
    rintro e w1 ⟨rfl, d, rfl⟩
    go_wp2_with fail
    have hB1 : Below w.heap.size w ((w.alloc (.cells #[.bool false, .slice none 0 0] 24)).drewN d) := below_drewN hB0 d
    refine (difference_nr (HV.out.below hB1) (HU.out.below hB1) hm (Int.le_of_lt HL.out)).mono ?_
    rintro e w1 ⟨s, k, rfl, hN, hk, hB⟩
    go_wp2_with fail
    refine (signed_nr bn hN (by omega)).mono ?_
    rintro e w2 ⟨r, rfl, hR, hB2⟩
    obtain ⟨ng, a, cap, rfl⟩ := hR.form
    have hB3 := Below.up hB hB2
    obtain ⟨hc, hf⟩ := bcell hB3
    have hz : w.heap.size < w2.heap.size := by have := hB3.size; simp at this; omega
    have HR := Lib.hid hR
    clear hR hN
    go_wp2_with fail
    obtain ⟨f1, f2⟩ := fin_RI HR.out (t := w.heap.size) (by simp) (Nat.le_refl _) (Below.up hB1 hB3) (.bool ng) (.slice a k cap)
    exact bodyPost_ret (v := .agg #[.bool ng, .slice a k cap]) (by simp [results, Tryd.results40, go_sem, hc]) rfl ⟨_, k, rfl, f1.z (by rw [HAB.out]; cases bn <;> simp [sg] <;> omega), by omega, f2⟩
  · have C := Lib.hid (order_nr (HU.out.below hB0) (HV.out.below hB0) (by omega) (by omega))
    have hge : ¬ (ord p q < 0) := by unfold ord; split <;> (first | omega | (split <;> omega))
    generalize ord p q = o at *
    have HL := Lib.hid hlt
    have HAB := Lib.hid hab
    clear hlt hab
    go_enter Tryd.func40, Tryd.ntmps40
    go_wp2_with fail
    refine C.out.mono ?_
    rintro e w1 ⟨rfl, d, rfl⟩
    go_wp2_with fail
    have hB1 : Below w.heap.size w ((w.alloc (.cells #[.bool false, .slice none 0 0] 24)).drewN d) := below_drewN hB0 d
    refine (difference_nr (HU.out.below hB1) (HV.out.below hB1) hn (by have := HL.out; omega)).mono ?_
    rintro e w1 ⟨s, k, rfl, hN, hk, hB⟩
    go_wp2_with fail
    refine (signed_nr an hN (by omega)).mono ?_
    rintro e w2 ⟨r, rfl, hR, hB2⟩
    obtain ⟨ng, a, cap, rfl⟩ := hR.form
    have hB3 := Below.up hB hB2
    obtain ⟨hc, hf⟩ := bcell hB3
    have hz : w.heap.size < w2.heap.size := by have := hB3.size; simp at this; omega
    have HR := Lib.hid hR
    clear hR hN
    go_wp2_with fail
    obtain ⟨f1, f2⟩ := fin_RI HR.out (t := w.heap.size) (by simp) (Nat.le_refl _) (Below.up hB1 hB3) (.bool ng) (.slice a k cap)
    exact bodyPost_ret (v := .agg #[.bool ng, .slice a k cap]) (by simp [results, Tryd.results40, go_sem, hc]) rfl ⟨_, k, rfl, f1, by omega, f2⟩

theorem signedSum_any (an bn : Bool) (u v : Value) (n m : Nat) (p q : Int) (w : World) (hu : Nr w u n p) (hv : Nr w v m q) (hn : n ≤ 100000000) (hm : m ≤ 100000000) :
    Calls Tryd.prog 40 #[.bool an, u, .bool bn, v] w fun e w' => ∃ r k, e = .returned r ∧ RI w' w.heap.size r k (sg an p + sg bn q) ∧ k ≤ max n m + 1 ∧ Below w.heap.size w w' := by
  by_cases h : an = bn
  · subst h
    refine (signedSum_same an u v n m p q w hu hv hn hm).mono ?_
    rintro e w' ⟨r, k, h1, h2, h3, h4⟩
    exact ⟨r, k, h1, h2.z (by cases an <;> simp [sg] <;> omega), h3, h4⟩
  · have hab : an = !bn := by cases an <;> cases bn <;> simp_all
    refine (signedSum_diff an bn hab u v n m p q w hu hv hn hm).mono ?_
    rintro e w' ⟨r, k, h1, h2, h3, h4⟩
    exact ⟨r, k, h1, h2.z (by subst hab; cases bn <;> simp [sg] <;> omega), h3, h4⟩
end Go.Proofs.YtkhchaoehlefdaaDoor
