/- The law of division: any three of at most 16 words. -/
import Derived.Test.YtpmidkhdcabieaaDoorEzI
set_option linter.unusedVariables false
set_option linter.unusedSimpArgs false
namespace Go.Proofs.YtpmidkhdcabieaaDoor
open Go.RowKit

theorem sg_rest {p q Q R : Int} (h : DvS p q Q R) (hq : q ≠ 0) : 0 ≤ R * ord q 0 ∧ R * ord q 0 < q * ord q 0 := by
  obtain ⟨h1, h2, h3⟩ := h
  rcases Int.lt_or_lt_of_ne hq with g | g
  · rw [ord_lt g]
    obtain ⟨h4, h5⟩ := h3 g
    omega
  · rw [ord_gt g]
    obtain ⟨h4, h5⟩ := h2 g
    omega
theorem ord_ge {a b : Int} (h : 0 ≤ a) (hb : b = 0) : decide (0 ≤ ord a b) = true := by
  subst hb
  rcases Int.lt_or_eq_of_le h with g | g
  · rw [ord_gt g]; rfl
  · rw [ord_eq g.symm]; rfl

theorem dvs_zero {p q Q R : Int} (h : DvS p q Q R) (hd : q ∣ p) (hq : q ≠ 0) : R = 0 := by
  obtain ⟨h1, h2, h3⟩ := h
  obtain ⟨d, rfl⟩ := hd
  have e : R = q * (d - Q) := by rw [Int.mul_sub, Int.mul_comm q Q]; omega
  rcases Int.lt_or_lt_of_ne hq with g | g
  · obtain ⟨h4, h5⟩ := h3 g
    by_cases hz : d - Q = 0
    · rw [e, hz, Int.mul_zero]
    · exfalso
      by_cases hp : 1 ≤ d - Q
      · have := Int.mul_le_mul_of_nonneg_left hp (show 0 ≤ -q by omega)
        rw [Int.neg_mul, Int.neg_mul] at this
        omega
      · have := Int.mul_le_mul_of_nonneg_left (show d - Q ≤ -1 by omega) (show 0 ≤ -q by omega)
        rw [Int.neg_mul, Int.neg_mul] at this
        omega
  · obtain ⟨h4, h5⟩ := h2 g
    by_cases hz : d - Q = 0
    · rw [e, hz, Int.mul_zero]
    · exfalso
      by_cases hp : 1 ≤ d - Q
      · have := Int.mul_le_mul_of_nonneg_left hp (show 0 ≤ q by omega)
        omega
      · have := Int.mul_le_mul_of_nonneg_left (show d - Q ≤ -1 by omega) (show 0 ≤ q by omega)
        omega
theorem gcd_pos {p q r : Int} (hq : q ≠ 0) (hr : r ≠ 0) : 0 < (Int.gcd (p * r) (q * r) : Int) := by
  have h : q * r ≠ 0 := Int.mul_ne_zero hq hr
  have h2 := Int.gcd_pos_of_ne_zero_right (p * r) h
  omega
theorem dvd_gcd (p q r : Int) : r ∣ (Int.gcd (p * r) (q * r) : Int) := Int.dvd_coe_gcd (Int.dvd_mul_left p r) (Int.dvd_mul_left q r)

set_option maxRecDepth 100000 in
set_option maxHeartbeats 6400000 in
theorem division_part (ga gb gc : Bool) (aa ab ac : Option Addr) (n m l ca cb cc : Nat) (p q r : Int) (w : World) (hT : Tab w)
    (ha : AI w (.agg #[.bool ga, .slice aa n ca]) n p) (hb : AI w (.agg #[.bool gb, .slice ab m cb]) m q) (hc : AI w (.agg #[.bool gc, .slice ac l cc]) l r) (hn : n ≤ 16) (hm : m ≤ 16) (hl : l ≤ 16) (hq : q ≠ 0) :
    Calls Tryd.prog 3 #[.agg #[.bool ga, .slice aa n ca], .agg #[.bool gb, .slice ab m cb], .agg #[.bool gc, .slice ac l cc]] w fun e w' => e = .returned (.bool true) ∧ Below w.heap.size w w' := by
  have HT := Lib.hid hT
  have d1 : decide ((16 : Int) < (n : Int)) = false := decide_eq_false (by omega)
  have d2 : decide ((16 : Int) < (m : Int)) = false := decide_eq_false (by omega)
  have d3 : decide ((16 : Int) < (l : Int)) = false := decide_eq_false (by omega)
  have dq : (ord q 0 == 0) = false := by
    rcases Int.lt_or_lt_of_ne hq with g | g
    · rw [ord_lt g]; rfl
    · rw [ord_gt g]; rfl
  have HQ0 := Lib.hid hq
  have Va_0 := Lib.hid (IV3a ha gb gc ab ac m l cb cc)
  have Vb_0 := Lib.hid (IV3b hb ga gc aa ac n l ca cc)
  have Vc_0 := Lib.hid (IV3c hc ga gb aa ab n m ca cb)
  clear hT ha hb hc hq
  go_enter Tryd.func3, Tryd.ntmps3
  go_wp2_with fail
  have HW0 := Lib.hid (show Below w.heap.size w (((w.alloc (.cells #[.bool ga, .slice aa n ca] 24)).alloc (.cells #[.bool gb, .slice ab m cb] 24)).alloc (.cells #[.bool gc, .slice ac l cc] 24)) from (by repeat (first | exact Below.refl _ _ | exact Nat.le_refl _ | (apply Below.alloc) | (refine Below.setCell ?_ (by first | exact Nat.le_refl _ | (simp <;> omega)) _) | (simp <;> omega))))
  refine calls_at (fun W => Below w.heap.size w W ∧ IV W w.heap.size ga aa n ca (p) ∧ IV W (w.heap.size + 1) gb ab m cb (q) ∧ IV W (w.heap.size + 1 + 1) gc ac l cc (r)) ⟨HW0.out, Va_0.out, Vb_0.out, Vc_0.out⟩ ?_
  rintro w0 ⟨hB, ha, hb, hc⟩
  clear HW0 Va_0 Vb_0 Vc_0
  have HW0 := Lib.hid hB
  have Va_0 := Lib.hid ha
  have Vb_0 := Lib.hid hb
  have Vc_0 := Lib.hid hc
  clear hB ha hb hc
  refine (alive_any _ (HT.out.up HW0.out)).mono ?_
  rintro e w1 ⟨rfl, hB⟩
  have Va_1 := Lib.hid (Va_0.out.below hB)
  have Vb_1 := Lib.hid (Vb_0.out.below hB)
  have Vc_1 := Lib.hid (Vc_0.out.below hB)
  have HW1 := Lib.hid (Below.up HW0.out hB)
  clear HW0 Va_0 Vb_0 Vc_0
  clear hB
  obtain ⟨oa0, oa1, oa2, _⟩ := Va_1.out
  obtain ⟨ob0, ob1, ob2, _⟩ := Vb_1.out
  obtain ⟨oc0, oc1, oc2, _⟩ := Vc_1.out
  go_wp2_with fail
  refine (div_gi _ _ n m p q _ Va_1.out.2.2.2 Vb_1.out.2.2.2 (by omega) (by omega) HQ0.out).mono ?_
  rintro e w2 ⟨g1, x1, y1, g2, x2, y2, k1, k2, Q, R, rfl, hQ, hR, hDS, hk1, hk2, hB⟩
  have Va_2 := Lib.hid (Va_1.out.below hB)
  have Vb_2 := Lib.hid (Vb_1.out.below hB)
  have Vc_2 := Lib.hid (Vc_1.out.below hB)
  have HW2 := Lib.hid (Below.up HW1.out hB)
  clear HW1 Va_1 Vb_1 Vc_1
  clear oa0 oa1 oa2 ob0 ob1 ob2 oc0 oc1 oc2
  have NQ := Lib.hid hQ
  have NR := Lib.hid hR
  have HDS := Lib.hid hDS
  clear hB hQ hR hDS
  obtain ⟨ob0, ob1, ob2, _⟩ := (Vb_2.out.below (w' := (w2.alloc (.cells #[.bool g1, .slice x1 k1 y1] 24)).alloc (.cells #[.bool g2, .slice x2 k2 y2] 24)) (by repeat (first | exact Below.refl _ _ | exact Nat.le_refl _ | (apply Below.alloc) | (refine Below.setCell ?_ (by first | exact Nat.le_refl _ | (simp <;> omega)) _) | (simp <;> omega))))
  go_wp2_with fail
  refine calls_at (fun W => Below w.heap.size w W ∧ IV W w.heap.size ga aa n ca (p) ∧ IV W (w.heap.size + 1) gb ab m cb (q) ∧ IV W (w.heap.size + 1 + 1) gc ac l cc (r) ∧ IV W w2.heap.size g1 x1 k1 y1 (Q) ∧ IV W (w2.heap.size + 1) g2 x2 k2 y2 (R)) ⟨Below.up HW2.out (by repeat (first | exact Below.refl _ _ | exact Nat.le_refl _ | (apply Below.alloc) | (refine Below.setCell ?_ (by first | exact Nat.le_refl _ | (simp <;> omega)) _) | (simp <;> omega))), Va_2.out.below (by repeat (first | exact Below.refl _ _ | exact Nat.le_refl _ | (apply Below.alloc) | (refine Below.setCell ?_ (by first | exact Nat.le_refl _ | (simp <;> omega)) _) | (simp <;> omega))), Vb_2.out.below (by repeat (first | exact Below.refl _ _ | exact Nat.le_refl _ | (apply Below.alloc) | (refine Below.setCell ?_ (by first | exact Nat.le_refl _ | (simp <;> omega)) _) | (simp <;> omega))), Vc_2.out.below (by repeat (first | exact Below.refl _ _ | exact Nat.le_refl _ | (apply Below.alloc) | (refine Below.setCell ?_ (by first | exact Nat.le_refl _ | (simp <;> omega)) _) | (simp <;> omega))), (IV.new NQ.out).below (by repeat (first | exact Below.refl _ _ | exact Nat.le_refl _ | (apply Below.alloc) | (refine Below.setCell ?_ (by first | exact Nat.le_refl _ | (simp <;> omega)) _) | (simp <;> omega))), IV.new' (NR.out.below ((Below.refl _ _).alloc (Nat.le_refl _) _)) (by simp)⟩ ?_
  rintro w3 ⟨hB, ha, hb, hc, hq, hr⟩
  have HW3 := Lib.hid hB
  have Va_3 := Lib.hid ha
  have Vb_3 := Lib.hid hb
  have Vc_3 := Lib.hid hc
  have Vq_3 := Lib.hid hq
  have Vr_3 := Lib.hid hr
  clear hB ha hb hc hq hr HW2 Va_2 Vb_2 Vc_2
  clear ob0 ob1 ob2 NQ NR
  refine (sign_is _ m q (ord q 0) _ Vb_3.out.2.2.2 (by omega) rfl).mono ?_
  rintro e w4 ⟨rfl, hB⟩
  have Va_4 := Lib.hid (Va_3.out.below hB)
  have Vb_4 := Lib.hid (Vb_3.out.below hB)
  have Vc_4 := Lib.hid (Vc_3.out.below hB)
  have Vq_4 := Lib.hid (Vq_3.out.below hB)
  have Vr_4 := Lib.hid (Vr_3.out.below hB)
  have HW4 := Lib.hid (Below.up HW3.out hB)
  clear HW3 Va_3 Vb_3 Vc_3 Vq_3 Vr_3
  clear hB
  go_wp2_with fail
  go_cut [11] from 26 (fun s0 W => ∃ (bk11 : Nat) (g3 : Bool) (x3 : Option Addr) (k3 y3 : Nat), s0 = .pointer (some ⟨bk11, 0, none⟩) ∧ k3 ≤ m + 2 ∧ Hid (Below w.heap.size w W ∧ IV W w.heap.size ga aa n ca (p) ∧ IV W (w.heap.size + 1) gb ab m cb (q) ∧ IV W (w.heap.size + 1 + 1) gc ac l cc (r) ∧ IV W w2.heap.size g1 x1 k1 y1 (Q) ∧ IV W (w2.heap.size + 1) g2 x2 k2 y2 (R) ∧ IV W bk11 g3 x3 k3 y3 (q * ord q 0)))
  case first =>
    rename_i hJ hK
    as_aux_lemma =>
      have KEEP := Lib.hid (fun (W : World) (hB : Below w4.heap.size w4 W) (bk11 : Nat) (g3 : Bool) (x3 : Option Addr) (k3 y3 : Nat) (hv0 : IV W bk11 g3 x3 k3 y3 (q * ord q 0)) => (show Below w.heap.size w W ∧ IV W w.heap.size ga aa n ca (p) ∧ IV W (w.heap.size + 1) gb ab m cb (q) ∧ IV W (w.heap.size + 1 + 1) gc ac l cc (r) ∧ IV W w2.heap.size g1 x1 k1 y1 (Q) ∧ IV W (w2.heap.size + 1) g2 x2 k2 y2 (R) ∧ IV W bk11 g3 x3 k3 y3 (q * ord q 0) from ⟨Below.up HW4.out hB, Va_4.out.below hB, Vb_4.out.below hB, Vc_4.out.below hB, Vq_4.out.below hB, Vr_4.out.below hB, hv0⟩))
      have B7_ := Lib.hid (Below.refl w4.heap.size w4)
      have M7 := Lib.hid (show ∀ w', Below w4.heap.size w4 w' → w'.cell? ⟨(w.heap.size + 1), 0, none⟩ = some (.bool gb) ∧ w'.cell? ⟨(w.heap.size + 1), 1, none⟩ = some (.slice ab m cb) from fun w' h => ⟨(Vb_4.out.below h).1, (Vb_4.out.below h).2.1⟩)
      obtain ⟨ob0, ob1, ob2, _⟩ := Vb_4.out
      have D7 := Lib.hid (Below.drew B7_.out)
      go_region_held3 (fun w' => w'.cell? ⟨(w.heap.size + 1), 0, none⟩ = some (.bool gb) ∧ w'.cell? ⟨(w.heap.size + 1), 1, none⟩ = some (.slice ab m cb))
        (exact M7.out _ (by ((repeat (first | (with_reducible exact Below.refl _ _) | (with_reducible refine Below.up ?_ HB7_2.out) | (with_reducible refine Below.up ?_ HB7_1.out) | (with_reducible refine Below.up ?_ HB7_0.out) | (with_reducible refine Below.alloc' ?_ _) | (with_reducible refine Below.drew' ?_) | (with_reducible refine Below.set' ?_ (by first | exact Nat.le_refl _ | exact Nat.le_succ _ | exact T7_0.out.size | exact T7_1.out.size | exact T7_2.out.size | exact Nat.le_succ_of_le T7_0.out.size | exact Nat.le_succ_of_le T7_1.out.size | exact Nat.le_succ_of_le T7_2.out.size) _))); done)))
        (first
        | (go_at_call 8; have s0 : m ≤ 1000000000 := (by omega); have s1 : ord q 0 = ord q 0 := rfl; ((with_reducible refine (sign_is (.agg #[.bool gb, .slice ab m cb]) m (q) (ord q 0) _ (Vb_4.out.up (by ((repeat (first | (with_reducible exact Below.refl _ _) | (with_reducible refine Below.up ?_ HB7_2.out) | (with_reducible refine Below.up ?_ HB7_1.out) | (with_reducible refine Below.up ?_ HB7_0.out) | (with_reducible refine Below.alloc' ?_ _) | (with_reducible refine Below.drew' ?_) | (with_reducible refine Below.set' ?_ (by first | exact Nat.le_refl _ | exact Nat.le_succ _ | exact T7_0.out.size | exact T7_1.out.size | exact T7_2.out.size | exact Nat.le_succ_of_le T7_0.out.size | exact Nat.le_succ_of_le T7_1.out.size | exact Nat.le_succ_of_le T7_2.out.size) _))); done))) s0 s1).mono ?_); rintro e w7_0 ⟨rfl, hB⟩; have HB7_0 := Lib.hid hB; have T7_0 := Lib.hid (Below.up (u := w4) (by ((repeat (first | (with_reducible exact Below.refl _ _) | (with_reducible refine Below.up ?_ HB7_2.out) | (with_reducible refine Below.up ?_ HB7_1.out) | (with_reducible refine Below.up ?_ HB7_0.out) | (with_reducible refine Below.alloc' ?_ _) | (with_reducible refine Below.drew' ?_) | (with_reducible refine Below.set' ?_ (by first | exact Nat.le_refl _ | exact Nat.le_succ _ | exact T7_0.out.size | exact T7_1.out.size | exact T7_2.out.size | exact Nat.le_succ_of_le T7_0.out.size | exact Nat.le_succ_of_le T7_1.out.size | exact Nat.le_succ_of_le T7_2.out.size) _))); done)) hB); clear hB s0 s1; (try (refine absorb (a := Box2 w7_0 (w4.heap.size)) ?_ ?_; (focus ((repeat (first | (with_reducible exact Box2.new _ _ _ _ _) | (with_reducible exact Box2.new1 _ _ _ _ _ _) | (with_reducible refine Box2.below ?_ HB7_0.out) | (with_reducible refine Box2.alloc ?_ _) | (with_reducible refine Box2.drew ?_))); done)); intro zb7_0_0a; obtain ⟨zu7_0_0a, zv7_0_0a, zc7_0_0a, zd7_0_0a, ze7_0_0a, zf7_0_0a⟩ := zb7_0_0a.open; have zl7_0_0a := zb7_0_0a.lt; have ZB7_0_0a := Lib.hid zb7_0_0a; clear zb7_0_0a))))
        | (go_at_call 10; have s0 : -9223372036854775808 ≤ ord q 0 ∧ ord q 0 ≤ 9223372036854775807 := ⟨(by have := ord_range q 0; omega), (by have := ord_range q 0; omega)⟩; ((with_reducible refine (of_gf (ord q 0) s0 _).mono ?_); rintro e w7_1 ⟨g7_1, x7_1, y7_1, k7_1, rfl, hR, hk7_1, hB⟩; have R7_1 := Lib.hid hR; clear hR; have HB7_1 := Lib.hid hB; have T7_1 := Lib.hid (Below.up (u := w4) (by ((repeat (first | (with_reducible exact Below.refl _ _) | (with_reducible refine Below.up ?_ HB7_2.out) | (with_reducible refine Below.up ?_ HB7_1.out) | (with_reducible refine Below.up ?_ HB7_0.out) | (with_reducible refine Below.alloc' ?_ _) | (with_reducible refine Below.drew' ?_) | (with_reducible refine Below.set' ?_ (by first | exact Nat.le_refl _ | exact Nat.le_succ _ | exact T7_0.out.size | exact T7_1.out.size | exact T7_2.out.size | exact Nat.le_succ_of_le T7_0.out.size | exact Nat.le_succ_of_le T7_1.out.size | exact Nat.le_succ_of_le T7_2.out.size) _))); done)) hB); clear hB s0; (try (refine absorb (a := Box2 w7_1 (w4.heap.size)) ?_ ?_; (focus ((repeat (first | (with_reducible exact Box2.new _ _ _ _ _) | (with_reducible exact Box2.new1 _ _ _ _ _ _) | (with_reducible refine Box2.below ?_ HB7_1.out) | (with_reducible refine Box2.below ?_ HB7_0.out) | (with_reducible refine Box2.alloc ?_ _) | (with_reducible refine Box2.drew ?_))); done)); intro zb7_1_0a; obtain ⟨zu7_1_0a, zv7_1_0a, zc7_1_0a, zd7_1_0a, ze7_1_0a, zf7_1_0a⟩ := zb7_1_0a.open; have zl7_1_0a := zb7_1_0a.lt; have ZB7_1_0a := Lib.hid zb7_1_0a; clear zb7_1_0a)); (try (refine absorb (a := Box2 w7_1 (w7_0.heap.size)) ?_ ?_; (focus ((repeat (first | (with_reducible exact Box2.new _ _ _ _ _) | (with_reducible exact Box2.new1 _ _ _ _ _ _) | (with_reducible refine Box2.below ?_ HB7_1.out) | (with_reducible refine Box2.below ?_ HB7_0.out) | (with_reducible refine Box2.alloc ?_ _) | (with_reducible refine Box2.drew ?_))); done)); intro zb7_1_1a; obtain ⟨zu7_1_1a, zv7_1_1a, zc7_1_1a, zd7_1_1a, ze7_1_1a, zf7_1_1a⟩ := zb7_1_1a.open; have zl7_1_1a := zb7_1_1a.lt; have ZB7_1_1a := Lib.hid zb7_1_1a; clear zb7_1_1a))))
        | (go_at_call 9; have s0 : m ≤ 1000 := (by omega); have s1 : k7_1 ≤ 1000 := (by omega); have s2 : m < 40 ∨ k7_1 < 40 := (by omega); ((with_reducible refine (mul_gf (.agg #[.bool gb, .slice ab m cb]) _ m k7_1 (q) (ord q 0) _ (Vb_4.out.up (by ((repeat (first | (with_reducible exact Below.refl _ _) | (with_reducible refine Below.up ?_ HB7_2.out) | (with_reducible refine Below.up ?_ HB7_1.out) | (with_reducible refine Below.up ?_ HB7_0.out) | (with_reducible refine Below.alloc' ?_ _) | (with_reducible refine Below.drew' ?_) | (with_reducible refine Below.set' ?_ (by first | exact Nat.le_refl _ | exact Nat.le_succ _ | exact T7_0.out.size | exact T7_1.out.size | exact T7_2.out.size | exact Nat.le_succ_of_le T7_0.out.size | exact Nat.le_succ_of_le T7_1.out.size | exact Nat.le_succ_of_le T7_2.out.size) _))); done))) (AI.below R7_1.out (by ((repeat (first | (with_reducible exact Below.refl _ _) | (with_reducible refine Below.up ?_ HB7_2.out) | (with_reducible refine Below.up ?_ HB7_1.out) | (with_reducible refine Below.up ?_ HB7_0.out) | (with_reducible refine Below.alloc' ?_ _) | (with_reducible refine Below.drew' ?_) | (with_reducible refine Below.set' ?_ (by first | exact Nat.le_refl _ | exact Nat.le_succ _ | exact T7_0.out.size | exact T7_1.out.size | exact T7_2.out.size | exact Nat.le_succ_of_le T7_0.out.size | exact Nat.le_succ_of_le T7_1.out.size | exact Nat.le_succ_of_le T7_2.out.size) _))); done))) s0 s1 s2).mono ?_); rintro e w7_2 ⟨g7_2, x7_2, y7_2, k7_2, rfl, hR, hk7_2, hB⟩; have R7_2 := Lib.hid hR; clear hR; have HB7_2 := Lib.hid hB; have T7_2 := Lib.hid (Below.up (u := w4) (by ((repeat (first | (with_reducible exact Below.refl _ _) | (with_reducible refine Below.up ?_ HB7_2.out) | (with_reducible refine Below.up ?_ HB7_1.out) | (with_reducible refine Below.up ?_ HB7_0.out) | (with_reducible refine Below.alloc' ?_ _) | (with_reducible refine Below.drew' ?_) | (with_reducible refine Below.set' ?_ (by first | exact Nat.le_refl _ | exact Nat.le_succ _ | exact T7_0.out.size | exact T7_1.out.size | exact T7_2.out.size | exact Nat.le_succ_of_le T7_0.out.size | exact Nat.le_succ_of_le T7_1.out.size | exact Nat.le_succ_of_le T7_2.out.size) _))); done)) hB); clear hB s0 s1 s2; (try (refine absorb (a := Box2 w7_2 (w4.heap.size)) ?_ ?_; (focus ((repeat (first | (with_reducible exact Box2.new _ _ _ _ _) | (with_reducible exact Box2.new1 _ _ _ _ _ _) | (with_reducible refine Box2.below ?_ HB7_2.out) | (with_reducible refine Box2.below ?_ HB7_1.out) | (with_reducible refine Box2.below ?_ HB7_0.out) | (with_reducible refine Box2.alloc ?_ _) | (with_reducible refine Box2.drew ?_))); done)); intro zb7_2_0a; obtain ⟨zu7_2_0a, zv7_2_0a, zc7_2_0a, zd7_2_0a, ze7_2_0a, zf7_2_0a⟩ := zb7_2_0a.open; have zl7_2_0a := zb7_2_0a.lt; have ZB7_2_0a := Lib.hid zb7_2_0a; clear zb7_2_0a)); (try (refine absorb (a := Box2 w7_2 (w7_0.heap.size)) ?_ ?_; (focus ((repeat (first | (with_reducible exact Box2.new _ _ _ _ _) | (with_reducible exact Box2.new1 _ _ _ _ _ _) | (with_reducible refine Box2.below ?_ HB7_2.out) | (with_reducible refine Box2.below ?_ HB7_1.out) | (with_reducible refine Box2.below ?_ HB7_0.out) | (with_reducible refine Box2.alloc ?_ _) | (with_reducible refine Box2.drew ?_))); done)); intro zb7_2_1a; obtain ⟨zu7_2_1a, zv7_2_1a, zc7_2_1a, zd7_2_1a, ze7_2_1a, zf7_2_1a⟩ := zb7_2_1a.open; have zl7_2_1a := zb7_2_1a.lt; have ZB7_2_1a := Lib.hid zb7_2_1a; clear zb7_2_1a)); (try (refine absorb (a := Box2 w7_2 (w7_1.heap.size)) ?_ ?_; (focus ((repeat (first | (with_reducible exact Box2.new _ _ _ _ _) | (with_reducible exact Box2.new1 _ _ _ _ _ _) | (with_reducible refine Box2.below ?_ HB7_2.out) | (with_reducible refine Box2.below ?_ HB7_1.out) | (with_reducible refine Box2.below ?_ HB7_0.out) | (with_reducible refine Box2.alloc ?_ _) | (with_reducible refine Box2.drew ?_))); done)); intro zb7_2_2a; obtain ⟨zu7_2_2a, zv7_2_2a, zc7_2_2a, zd7_2_2a, ze7_2_2a, zf7_2_2a⟩ := zb7_2_2a.open; have zl7_2_2a := zb7_2_2a.lt; have ZB7_2_2a := Lib.hid zb7_2_2a; clear zb7_2_2a)))))
      all_goals as_aux_lemma =>
        refine hK _ _ (Met.intro (hJ _ _ ?_))
        (repeat apply Exists.intro)
        refine ⟨?_, rfl⟩
        exact ⟨_, g7_2, x7_2, k7_2, y7_2, rfl, (by omega), Lib.hid (KEEP.out _ (by ((repeat (first | (with_reducible exact Below.refl _ _) | (with_reducible refine Below.up ?_ HB7_2.out) | (with_reducible refine Below.up ?_ HB7_1.out) | (with_reducible refine Below.up ?_ HB7_0.out) | (with_reducible refine Below.alloc' ?_ _) | (with_reducible refine Below.drew' ?_) | (with_reducible refine Below.set' ?_ (by first | exact Nat.le_refl _ | exact Nat.le_succ _ | exact T7_0.out.size | exact T7_1.out.size | exact T7_2.out.size | exact Nat.le_succ_of_le T7_0.out.size | exact Nat.le_succ_of_le T7_1.out.size | exact Nat.le_succ_of_le T7_2.out.size) _))); done)) _ _ _ _ _ (by first | (exact IV.new R7_2.out) | (exact IV.put ZB7_2_0a.out R7_2.out) | (exact IV.put ZB7_2_1a.out R7_2.out) | (exact IV.put ZB7_2_2a.out R7_2.out)))⟩
  case rest =>
    obtain ⟨bk11, g3, x3, k3, y3, rfl, hk7a, hF⟩ := hcut
    generalize wc = w5 at *
    obtain ⟨hB, ha, hb, hc, hq, hr, hs⟩ := hF.out
    have HW5 := Lib.hid hB
    have Va_5 := Lib.hid ha
    have Vb_5 := Lib.hid hb
    have Vc_5 := Lib.hid hc
    have Vq_5 := Lib.hid hq
    have Vr_5 := Lib.hid hr
    have Vs_5 := Lib.hid hs
    clear hF hB ha hb hc hq hr hs HW4 Va_4 Vb_4 Vc_4 Vq_4 Vr_4
    go_wp2_with fail
    go_cut [12] from 26 (fun s0 W => ∃ (bk12 : Nat) (g4 : Bool) (x4 : Option Addr) (k4 y4 : Nat), s0 = .pointer (some ⟨bk12, 0, none⟩) ∧ k4 ≤ k2 + 2 ∧ Hid (Below w.heap.size w W ∧ IV W w.heap.size ga aa n ca (p) ∧ IV W (w.heap.size + 1) gb ab m cb (q) ∧ IV W (w.heap.size + 1 + 1) gc ac l cc (r) ∧ IV W w2.heap.size g1 x1 k1 y1 (Q) ∧ IV W (w2.heap.size + 1) g2 x2 k2 y2 (R) ∧ IV W bk11 g3 x3 k3 y3 (q * ord q 0) ∧ IV W bk12 g4 x4 k4 y4 (R * ord q 0)))
    case first =>
      rename_i hJ hK
      as_aux_lemma =>
        have KEEP := Lib.hid (fun (W : World) (hB : Below w5.heap.size w5 W) (bk12 : Nat) (g4 : Bool) (x4 : Option Addr) (k4 y4 : Nat) (hv0 : IV W bk12 g4 x4 k4 y4 (R * ord q 0)) => (show Below w.heap.size w W ∧ IV W w.heap.size ga aa n ca (p) ∧ IV W (w.heap.size + 1) gb ab m cb (q) ∧ IV W (w.heap.size + 1 + 1) gc ac l cc (r) ∧ IV W w2.heap.size g1 x1 k1 y1 (Q) ∧ IV W (w2.heap.size + 1) g2 x2 k2 y2 (R) ∧ IV W bk11 g3 x3 k3 y3 (q * ord q 0) ∧ IV W bk12 g4 x4 k4 y4 (R * ord q 0) from ⟨Below.up HW5.out hB, Va_5.out.below hB, Vb_5.out.below hB, Vc_5.out.below hB, Vq_5.out.below hB, Vr_5.out.below hB, Vs_5.out.below hB, hv0⟩))
        have B8_ := Lib.hid (Below.refl w5.heap.size w5)
        have M8 := Lib.hid (show ∀ w', Below w5.heap.size w5 w' → w'.cell? ⟨(w.heap.size + 1), 0, none⟩ = some (.bool gb) ∧ w'.cell? ⟨(w.heap.size + 1), 1, none⟩ = some (.slice ab m cb) ∧ w'.cell? ⟨(w2.heap.size + 1), 0, none⟩ = some (.bool g2) ∧ w'.cell? ⟨(w2.heap.size + 1), 1, none⟩ = some (.slice x2 k2 y2) from fun w' h => ⟨(Vb_5.out.below h).1, (Vb_5.out.below h).2.1, (Vr_5.out.below h).1, (Vr_5.out.below h).2.1⟩)
        obtain ⟨ob0, ob1, ob2, _⟩ := Vb_5.out
        obtain ⟨or0, or1, or2, _⟩ := Vr_5.out
        have D8 := Lib.hid (Below.drew B8_.out)
        go_region_held3 (fun w' => w'.cell? ⟨(w.heap.size + 1), 0, none⟩ = some (.bool gb) ∧ w'.cell? ⟨(w.heap.size + 1), 1, none⟩ = some (.slice ab m cb) ∧ w'.cell? ⟨(w2.heap.size + 1), 0, none⟩ = some (.bool g2) ∧ w'.cell? ⟨(w2.heap.size + 1), 1, none⟩ = some (.slice x2 k2 y2))
          (exact M8.out _ (by ((repeat (first | (with_reducible exact Below.refl _ _) | (with_reducible refine Below.up ?_ HB8_2.out) | (with_reducible refine Below.up ?_ HB8_1.out) | (with_reducible refine Below.up ?_ HB8_0.out) | (with_reducible refine Below.alloc' ?_ _) | (with_reducible refine Below.drew' ?_) | (with_reducible refine Below.set' ?_ (by first | exact Nat.le_refl _ | exact Nat.le_succ _ | exact T8_0.out.size | exact T8_1.out.size | exact T8_2.out.size | exact Nat.le_succ_of_le T8_0.out.size | exact Nat.le_succ_of_le T8_1.out.size | exact Nat.le_succ_of_le T8_2.out.size) _))); done)))
          (first
          | (go_at_call 8; have s0 : m ≤ 1000000000 := (by omega); have s1 : ord q 0 = ord q 0 := rfl; ((with_reducible refine (sign_is (.agg #[.bool gb, .slice ab m cb]) m (q) (ord q 0) _ (Vb_5.out.up (by ((repeat (first | (with_reducible exact Below.refl _ _) | (with_reducible refine Below.up ?_ HB8_2.out) | (with_reducible refine Below.up ?_ HB8_1.out) | (with_reducible refine Below.up ?_ HB8_0.out) | (with_reducible refine Below.alloc' ?_ _) | (with_reducible refine Below.drew' ?_) | (with_reducible refine Below.set' ?_ (by first | exact Nat.le_refl _ | exact Nat.le_succ _ | exact T8_0.out.size | exact T8_1.out.size | exact T8_2.out.size | exact Nat.le_succ_of_le T8_0.out.size | exact Nat.le_succ_of_le T8_1.out.size | exact Nat.le_succ_of_le T8_2.out.size) _))); done))) s0 s1).mono ?_); rintro e w8_0 ⟨rfl, hB⟩; have HB8_0 := Lib.hid hB; have T8_0 := Lib.hid (Below.up (u := w5) (by ((repeat (first | (with_reducible exact Below.refl _ _) | (with_reducible refine Below.up ?_ HB8_2.out) | (with_reducible refine Below.up ?_ HB8_1.out) | (with_reducible refine Below.up ?_ HB8_0.out) | (with_reducible refine Below.alloc' ?_ _) | (with_reducible refine Below.drew' ?_) | (with_reducible refine Below.set' ?_ (by first | exact Nat.le_refl _ | exact Nat.le_succ _ | exact T8_0.out.size | exact T8_1.out.size | exact T8_2.out.size | exact Nat.le_succ_of_le T8_0.out.size | exact Nat.le_succ_of_le T8_1.out.size | exact Nat.le_succ_of_le T8_2.out.size) _))); done)) hB); clear hB s0 s1; (try (refine absorb (a := Box2 w8_0 (w5.heap.size)) ?_ ?_; (focus ((repeat (first | (with_reducible exact Box2.new _ _ _ _ _) | (with_reducible exact Box2.new1 _ _ _ _ _ _) | (with_reducible refine Box2.below ?_ HB8_0.out) | (with_reducible refine Box2.alloc ?_ _) | (with_reducible refine Box2.drew ?_))); done)); intro zb8_0_0a; obtain ⟨zu8_0_0a, zv8_0_0a, zc8_0_0a, zd8_0_0a, ze8_0_0a, zf8_0_0a⟩ := zb8_0_0a.open; have zl8_0_0a := zb8_0_0a.lt; have ZB8_0_0a := Lib.hid zb8_0_0a; clear zb8_0_0a))))
          | (go_at_call 10; have s0 : -9223372036854775808 ≤ ord q 0 ∧ ord q 0 ≤ 9223372036854775807 := ⟨(by have := ord_range q 0; omega), (by have := ord_range q 0; omega)⟩; ((with_reducible refine (of_gf (ord q 0) s0 _).mono ?_); rintro e w8_1 ⟨g8_1, x8_1, y8_1, k8_1, rfl, hR, hk8_1, hB⟩; have R8_1 := Lib.hid hR; clear hR; have HB8_1 := Lib.hid hB; have T8_1 := Lib.hid (Below.up (u := w5) (by ((repeat (first | (with_reducible exact Below.refl _ _) | (with_reducible refine Below.up ?_ HB8_2.out) | (with_reducible refine Below.up ?_ HB8_1.out) | (with_reducible refine Below.up ?_ HB8_0.out) | (with_reducible refine Below.alloc' ?_ _) | (with_reducible refine Below.drew' ?_) | (with_reducible refine Below.set' ?_ (by first | exact Nat.le_refl _ | exact Nat.le_succ _ | exact T8_0.out.size | exact T8_1.out.size | exact T8_2.out.size | exact Nat.le_succ_of_le T8_0.out.size | exact Nat.le_succ_of_le T8_1.out.size | exact Nat.le_succ_of_le T8_2.out.size) _))); done)) hB); clear hB s0; (try (refine absorb (a := Box2 w8_1 (w5.heap.size)) ?_ ?_; (focus ((repeat (first | (with_reducible exact Box2.new _ _ _ _ _) | (with_reducible exact Box2.new1 _ _ _ _ _ _) | (with_reducible refine Box2.below ?_ HB8_1.out) | (with_reducible refine Box2.below ?_ HB8_0.out) | (with_reducible refine Box2.alloc ?_ _) | (with_reducible refine Box2.drew ?_))); done)); intro zb8_1_0a; obtain ⟨zu8_1_0a, zv8_1_0a, zc8_1_0a, zd8_1_0a, ze8_1_0a, zf8_1_0a⟩ := zb8_1_0a.open; have zl8_1_0a := zb8_1_0a.lt; have ZB8_1_0a := Lib.hid zb8_1_0a; clear zb8_1_0a)); (try (refine absorb (a := Box2 w8_1 (w8_0.heap.size)) ?_ ?_; (focus ((repeat (first | (with_reducible exact Box2.new _ _ _ _ _) | (with_reducible exact Box2.new1 _ _ _ _ _ _) | (with_reducible refine Box2.below ?_ HB8_1.out) | (with_reducible refine Box2.below ?_ HB8_0.out) | (with_reducible refine Box2.alloc ?_ _) | (with_reducible refine Box2.drew ?_))); done)); intro zb8_1_1a; obtain ⟨zu8_1_1a, zv8_1_1a, zc8_1_1a, zd8_1_1a, ze8_1_1a, zf8_1_1a⟩ := zb8_1_1a.open; have zl8_1_1a := zb8_1_1a.lt; have ZB8_1_1a := Lib.hid zb8_1_1a; clear zb8_1_1a))))
          | (go_at_call 9; have s0 : k2 ≤ 1000 := (by omega); have s1 : k8_1 ≤ 1000 := (by omega); have s2 : k2 < 40 ∨ k8_1 < 40 := (by omega); ((with_reducible refine (mul_gf (.agg #[.bool g2, .slice x2 k2 y2]) _ k2 k8_1 (R) (ord q 0) _ (Vr_5.out.up (by ((repeat (first | (with_reducible exact Below.refl _ _) | (with_reducible refine Below.up ?_ HB8_2.out) | (with_reducible refine Below.up ?_ HB8_1.out) | (with_reducible refine Below.up ?_ HB8_0.out) | (with_reducible refine Below.alloc' ?_ _) | (with_reducible refine Below.drew' ?_) | (with_reducible refine Below.set' ?_ (by first | exact Nat.le_refl _ | exact Nat.le_succ _ | exact T8_0.out.size | exact T8_1.out.size | exact T8_2.out.size | exact Nat.le_succ_of_le T8_0.out.size | exact Nat.le_succ_of_le T8_1.out.size | exact Nat.le_succ_of_le T8_2.out.size) _))); done))) (AI.below R8_1.out (by ((repeat (first | (with_reducible exact Below.refl _ _) | (with_reducible refine Below.up ?_ HB8_2.out) | (with_reducible refine Below.up ?_ HB8_1.out) | (with_reducible refine Below.up ?_ HB8_0.out) | (with_reducible refine Below.alloc' ?_ _) | (with_reducible refine Below.drew' ?_) | (with_reducible refine Below.set' ?_ (by first | exact Nat.le_refl _ | exact Nat.le_succ _ | exact T8_0.out.size | exact T8_1.out.size | exact T8_2.out.size | exact Nat.le_succ_of_le T8_0.out.size | exact Nat.le_succ_of_le T8_1.out.size | exact Nat.le_succ_of_le T8_2.out.size) _))); done))) s0 s1 s2).mono ?_); rintro e w8_2 ⟨g8_2, x8_2, y8_2, k8_2, rfl, hR, hk8_2, hB⟩; have R8_2 := Lib.hid hR; clear hR; have HB8_2 := Lib.hid hB; have T8_2 := Lib.hid (Below.up (u := w5) (by ((repeat (first | (with_reducible exact Below.refl _ _) | (with_reducible refine Below.up ?_ HB8_2.out) | (with_reducible refine Below.up ?_ HB8_1.out) | (with_reducible refine Below.up ?_ HB8_0.out) | (with_reducible refine Below.alloc' ?_ _) | (with_reducible refine Below.drew' ?_) | (with_reducible refine Below.set' ?_ (by first | exact Nat.le_refl _ | exact Nat.le_succ _ | exact T8_0.out.size | exact T8_1.out.size | exact T8_2.out.size | exact Nat.le_succ_of_le T8_0.out.size | exact Nat.le_succ_of_le T8_1.out.size | exact Nat.le_succ_of_le T8_2.out.size) _))); done)) hB); clear hB s0 s1 s2; (try (refine absorb (a := Box2 w8_2 (w5.heap.size)) ?_ ?_; (focus ((repeat (first | (with_reducible exact Box2.new _ _ _ _ _) | (with_reducible exact Box2.new1 _ _ _ _ _ _) | (with_reducible refine Box2.below ?_ HB8_2.out) | (with_reducible refine Box2.below ?_ HB8_1.out) | (with_reducible refine Box2.below ?_ HB8_0.out) | (with_reducible refine Box2.alloc ?_ _) | (with_reducible refine Box2.drew ?_))); done)); intro zb8_2_0a; obtain ⟨zu8_2_0a, zv8_2_0a, zc8_2_0a, zd8_2_0a, ze8_2_0a, zf8_2_0a⟩ := zb8_2_0a.open; have zl8_2_0a := zb8_2_0a.lt; have ZB8_2_0a := Lib.hid zb8_2_0a; clear zb8_2_0a)); (try (refine absorb (a := Box2 w8_2 (w8_0.heap.size)) ?_ ?_; (focus ((repeat (first | (with_reducible exact Box2.new _ _ _ _ _) | (with_reducible exact Box2.new1 _ _ _ _ _ _) | (with_reducible refine Box2.below ?_ HB8_2.out) | (with_reducible refine Box2.below ?_ HB8_1.out) | (with_reducible refine Box2.below ?_ HB8_0.out) | (with_reducible refine Box2.alloc ?_ _) | (with_reducible refine Box2.drew ?_))); done)); intro zb8_2_1a; obtain ⟨zu8_2_1a, zv8_2_1a, zc8_2_1a, zd8_2_1a, ze8_2_1a, zf8_2_1a⟩ := zb8_2_1a.open; have zl8_2_1a := zb8_2_1a.lt; have ZB8_2_1a := Lib.hid zb8_2_1a; clear zb8_2_1a)); (try (refine absorb (a := Box2 w8_2 (w8_1.heap.size)) ?_ ?_; (focus ((repeat (first | (with_reducible exact Box2.new _ _ _ _ _) | (with_reducible exact Box2.new1 _ _ _ _ _ _) | (with_reducible refine Box2.below ?_ HB8_2.out) | (with_reducible refine Box2.below ?_ HB8_1.out) | (with_reducible refine Box2.below ?_ HB8_0.out) | (with_reducible refine Box2.alloc ?_ _) | (with_reducible refine Box2.drew ?_))); done)); intro zb8_2_2a; obtain ⟨zu8_2_2a, zv8_2_2a, zc8_2_2a, zd8_2_2a, ze8_2_2a, zf8_2_2a⟩ := zb8_2_2a.open; have zl8_2_2a := zb8_2_2a.lt; have ZB8_2_2a := Lib.hid zb8_2_2a; clear zb8_2_2a)))))
        all_goals as_aux_lemma =>
          refine hK _ _ (Met.intro (hJ _ _ ?_))
          (repeat apply Exists.intro)
          refine ⟨?_, rfl⟩
          exact ⟨_, g8_2, x8_2, k8_2, y8_2, rfl, (by omega), Lib.hid (KEEP.out _ (by ((repeat (first | (with_reducible exact Below.refl _ _) | (with_reducible refine Below.up ?_ HB8_2.out) | (with_reducible refine Below.up ?_ HB8_1.out) | (with_reducible refine Below.up ?_ HB8_0.out) | (with_reducible refine Below.alloc' ?_ _) | (with_reducible refine Below.drew' ?_) | (with_reducible refine Below.set' ?_ (by first | exact Nat.le_refl _ | exact Nat.le_succ _ | exact T8_0.out.size | exact T8_1.out.size | exact T8_2.out.size | exact Nat.le_succ_of_le T8_0.out.size | exact Nat.le_succ_of_le T8_1.out.size | exact Nat.le_succ_of_le T8_2.out.size) _))); done)) _ _ _ _ _ (by first | (exact IV.new R8_2.out) | (exact IV.put ZB8_2_0a.out R8_2.out) | (exact IV.put ZB8_2_1a.out R8_2.out) | (exact IV.put ZB8_2_2a.out R8_2.out)))⟩
    case rest =>
      obtain ⟨bk12, g4, x4, k4, y4, rfl, hk8a, hF⟩ := hcut
      generalize wc = w6 at *
      obtain ⟨hB, ha, hb, hc, hq, hr, hs, ht⟩ := hF.out
      have HW6 := Lib.hid hB
      have Va_6 := Lib.hid ha
      have Vb_6 := Lib.hid hb
      have Vc_6 := Lib.hid hc
      have Vq_6 := Lib.hid hq
      have Vr_6 := Lib.hid hr
      have Vs_6 := Lib.hid hs
      have Vt_6 := Lib.hid ht
      clear hF hB ha hb hc hq hr hs ht HW5 Va_5 Vb_5 Vc_5 Vq_5 Vr_5 Vs_5
      have hgs := sg_rest HDS.out HQ0.out
      have dge := ord_ge hgs.1 rfl
      have HLT := Lib.hid hgs.2
      clear hgs
      go_wp2_with fail
      go_cut [13] from 26 (fun s0 W => s0 = .bool true ∧ Hid (Below w.heap.size w W ∧ IV W w.heap.size ga aa n ca (p) ∧ IV W (w.heap.size + 1) gb ab m cb (q) ∧ IV W (w.heap.size + 1 + 1) gc ac l cc (r) ∧ IV W w2.heap.size g1 x1 k1 y1 (Q) ∧ IV W (w2.heap.size + 1) g2 x2 k2 y2 (R) ∧ IV W bk11 g3 x3 k3 y3 (q * ord q 0) ∧ IV W bk12 g4 x4 k4 y4 (R * ord q 0)))
      case first =>
        rename_i hJ hK
        as_aux_lemma =>
          have KEEP := Lib.hid (fun (W : World) (hB : Below w6.heap.size w6 W)   => (show Below w.heap.size w W ∧ IV W w.heap.size ga aa n ca (p) ∧ IV W (w.heap.size + 1) gb ab m cb (q) ∧ IV W (w.heap.size + 1 + 1) gc ac l cc (r) ∧ IV W w2.heap.size g1 x1 k1 y1 (Q) ∧ IV W (w2.heap.size + 1) g2 x2 k2 y2 (R) ∧ IV W bk11 g3 x3 k3 y3 (q * ord q 0) ∧ IV W bk12 g4 x4 k4 y4 (R * ord q 0) from ⟨Below.up HW6.out hB, Va_6.out.below hB, Vb_6.out.below hB, Vc_6.out.below hB, Vq_6.out.below hB, Vr_6.out.below hB, Vs_6.out.below hB, Vt_6.out.below hB⟩))
          have B9_ := Lib.hid (Below.refl w6.heap.size w6)
          have M9 := Lib.hid (show ∀ w', Below w6.heap.size w6 w' → w'.cell? ⟨w2.heap.size, 0, none⟩ = some (.bool g1) ∧ w'.cell? ⟨w2.heap.size, 1, none⟩ = some (.slice x1 k1 y1) ∧ w'.cell? ⟨(w.heap.size + 1), 0, none⟩ = some (.bool gb) ∧ w'.cell? ⟨(w.heap.size + 1), 1, none⟩ = some (.slice ab m cb) ∧ w'.cell? ⟨(w2.heap.size + 1), 0, none⟩ = some (.bool g2) ∧ w'.cell? ⟨(w2.heap.size + 1), 1, none⟩ = some (.slice x2 k2 y2) ∧ w'.cell? ⟨w.heap.size, 0, none⟩ = some (.bool ga) ∧ w'.cell? ⟨w.heap.size, 1, none⟩ = some (.slice aa n ca) ∧ w'.cell? ⟨bk12, 0, none⟩ = some (.bool g4) ∧ w'.cell? ⟨bk12, 1, none⟩ = some (.slice x4 k4 y4) ∧ w'.cell? ⟨bk11, 0, none⟩ = some (.bool g3) ∧ w'.cell? ⟨bk11, 1, none⟩ = some (.slice x3 k3 y3) from fun w' h => ⟨(Vq_6.out.below h).1, (Vq_6.out.below h).2.1, (Vb_6.out.below h).1, (Vb_6.out.below h).2.1, (Vr_6.out.below h).1, (Vr_6.out.below h).2.1, (Va_6.out.below h).1, (Va_6.out.below h).2.1, (Vt_6.out.below h).1, (Vt_6.out.below h).2.1, (Vs_6.out.below h).1, (Vs_6.out.below h).2.1⟩)
          obtain ⟨oq0, oq1, oq2, _⟩ := Vq_6.out
          obtain ⟨ob0, ob1, ob2, _⟩ := Vb_6.out
          obtain ⟨or0, or1, or2, _⟩ := Vr_6.out
          obtain ⟨oa0, oa1, oa2, _⟩ := Va_6.out
          obtain ⟨ot0, ot1, ot2, _⟩ := Vt_6.out
          obtain ⟨os0, os1, os2, _⟩ := Vs_6.out
          have D9 := Lib.hid (Below.drew B9_.out)
          go_region_held3 (fun w' => w'.cell? ⟨w2.heap.size, 0, none⟩ = some (.bool g1) ∧ w'.cell? ⟨w2.heap.size, 1, none⟩ = some (.slice x1 k1 y1) ∧ w'.cell? ⟨(w.heap.size + 1), 0, none⟩ = some (.bool gb) ∧ w'.cell? ⟨(w.heap.size + 1), 1, none⟩ = some (.slice ab m cb) ∧ w'.cell? ⟨(w2.heap.size + 1), 0, none⟩ = some (.bool g2) ∧ w'.cell? ⟨(w2.heap.size + 1), 1, none⟩ = some (.slice x2 k2 y2) ∧ w'.cell? ⟨w.heap.size, 0, none⟩ = some (.bool ga) ∧ w'.cell? ⟨w.heap.size, 1, none⟩ = some (.slice aa n ca) ∧ w'.cell? ⟨bk12, 0, none⟩ = some (.bool g4) ∧ w'.cell? ⟨bk12, 1, none⟩ = some (.slice x4 k4 y4) ∧ w'.cell? ⟨bk11, 0, none⟩ = some (.bool g3) ∧ w'.cell? ⟨bk11, 1, none⟩ = some (.slice x3 k3 y3))
            (exact M9.out _ (by ((repeat (first | (with_reducible exact Below.refl _ _) | (with_reducible refine Below.up ?_ HB9_4.out) | (with_reducible refine Below.up ?_ HB9_3.out) | (with_reducible refine Below.up ?_ HB9_2.out) | (with_reducible refine Below.up ?_ HB9_1.out) | (with_reducible refine Below.up ?_ HB9_0.out) | (with_reducible refine Below.alloc' ?_ _) | (with_reducible refine Below.drew' ?_) | (with_reducible refine Below.set' ?_ (by first | exact Nat.le_refl _ | exact Nat.le_succ _ | exact T9_0.out.size | exact T9_1.out.size | exact T9_2.out.size | exact T9_3.out.size | exact T9_4.out.size | exact Nat.le_succ_of_le T9_0.out.size | exact Nat.le_succ_of_le T9_1.out.size | exact Nat.le_succ_of_le T9_2.out.size | exact Nat.le_succ_of_le T9_3.out.size | exact Nat.le_succ_of_le T9_4.out.size) _))); done)))
            (first
            | (go_at_call 9; have s0 : k1 ≤ 1000 := (by omega); have s1 : m ≤ 1000 := (by omega); have s2 : k1 < 40 ∨ m < 40 := (by omega); ((with_reducible refine (mul_gf (.agg #[.bool g1, .slice x1 k1 y1]) (.agg #[.bool gb, .slice ab m cb]) k1 m (Q) (q) _ (Vq_6.out.up (by ((repeat (first | (with_reducible exact Below.refl _ _) | (with_reducible refine Below.up ?_ HB9_4.out) | (with_reducible refine Below.up ?_ HB9_3.out) | (with_reducible refine Below.up ?_ HB9_2.out) | (with_reducible refine Below.up ?_ HB9_1.out) | (with_reducible refine Below.up ?_ HB9_0.out) | (with_reducible refine Below.alloc' ?_ _) | (with_reducible refine Below.drew' ?_) | (with_reducible refine Below.set' ?_ (by first | exact Nat.le_refl _ | exact Nat.le_succ _ | exact T9_0.out.size | exact T9_1.out.size | exact T9_2.out.size | exact T9_3.out.size | exact T9_4.out.size | exact Nat.le_succ_of_le T9_0.out.size | exact Nat.le_succ_of_le T9_1.out.size | exact Nat.le_succ_of_le T9_2.out.size | exact Nat.le_succ_of_le T9_3.out.size | exact Nat.le_succ_of_le T9_4.out.size) _))); done))) (Vb_6.out.up (by ((repeat (first | (with_reducible exact Below.refl _ _) | (with_reducible refine Below.up ?_ HB9_4.out) | (with_reducible refine Below.up ?_ HB9_3.out) | (with_reducible refine Below.up ?_ HB9_2.out) | (with_reducible refine Below.up ?_ HB9_1.out) | (with_reducible refine Below.up ?_ HB9_0.out) | (with_reducible refine Below.alloc' ?_ _) | (with_reducible refine Below.drew' ?_) | (with_reducible refine Below.set' ?_ (by first | exact Nat.le_refl _ | exact Nat.le_succ _ | exact T9_0.out.size | exact T9_1.out.size | exact T9_2.out.size | exact T9_3.out.size | exact T9_4.out.size | exact Nat.le_succ_of_le T9_0.out.size | exact Nat.le_succ_of_le T9_1.out.size | exact Nat.le_succ_of_le T9_2.out.size | exact Nat.le_succ_of_le T9_3.out.size | exact Nat.le_succ_of_le T9_4.out.size) _))); done))) s0 s1 s2).mono ?_); rintro e w9_0 ⟨g9_0, x9_0, y9_0, k9_0, rfl, hR, hk9_0, hB⟩; have R9_0 := Lib.hid hR; clear hR; have HB9_0 := Lib.hid hB; have T9_0 := Lib.hid (Below.up (u := w6) (by ((repeat (first | (with_reducible exact Below.refl _ _) | (with_reducible refine Below.up ?_ HB9_4.out) | (with_reducible refine Below.up ?_ HB9_3.out) | (with_reducible refine Below.up ?_ HB9_2.out) | (with_reducible refine Below.up ?_ HB9_1.out) | (with_reducible refine Below.up ?_ HB9_0.out) | (with_reducible refine Below.alloc' ?_ _) | (with_reducible refine Below.drew' ?_) | (with_reducible refine Below.set' ?_ (by first | exact Nat.le_refl _ | exact Nat.le_succ _ | exact T9_0.out.size | exact T9_1.out.size | exact T9_2.out.size | exact T9_3.out.size | exact T9_4.out.size | exact Nat.le_succ_of_le T9_0.out.size | exact Nat.le_succ_of_le T9_1.out.size | exact Nat.le_succ_of_le T9_2.out.size | exact Nat.le_succ_of_le T9_3.out.size | exact Nat.le_succ_of_le T9_4.out.size) _))); done)) hB); clear hB s0 s1 s2))
            | (go_at_call 12; have s0 : k9_0 ≤ 1000 := (by omega); have s1 : k2 ≤ 1000 := (by omega); ((with_reducible refine (add_gf _ (.agg #[.bool g2, .slice x2 k2 y2]) k9_0 k2 ((Q) * (q)) (R) _ (AI.below R9_0.out (by ((repeat (first | (with_reducible exact Below.refl _ _) | (with_reducible refine Below.up ?_ HB9_4.out) | (with_reducible refine Below.up ?_ HB9_3.out) | (with_reducible refine Below.up ?_ HB9_2.out) | (with_reducible refine Below.up ?_ HB9_1.out) | (with_reducible refine Below.up ?_ HB9_0.out) | (with_reducible refine Below.alloc' ?_ _) | (with_reducible refine Below.drew' ?_) | (with_reducible refine Below.set' ?_ (by first | exact Nat.le_refl _ | exact Nat.le_succ _ | exact T9_0.out.size | exact T9_1.out.size | exact T9_2.out.size | exact T9_3.out.size | exact T9_4.out.size | exact Nat.le_succ_of_le T9_0.out.size | exact Nat.le_succ_of_le T9_1.out.size | exact Nat.le_succ_of_le T9_2.out.size | exact Nat.le_succ_of_le T9_3.out.size | exact Nat.le_succ_of_le T9_4.out.size) _))); done))) (Vr_6.out.up (by ((repeat (first | (with_reducible exact Below.refl _ _) | (with_reducible refine Below.up ?_ HB9_4.out) | (with_reducible refine Below.up ?_ HB9_3.out) | (with_reducible refine Below.up ?_ HB9_2.out) | (with_reducible refine Below.up ?_ HB9_1.out) | (with_reducible refine Below.up ?_ HB9_0.out) | (with_reducible refine Below.alloc' ?_ _) | (with_reducible refine Below.drew' ?_) | (with_reducible refine Below.set' ?_ (by first | exact Nat.le_refl _ | exact Nat.le_succ _ | exact T9_0.out.size | exact T9_1.out.size | exact T9_2.out.size | exact T9_3.out.size | exact T9_4.out.size | exact Nat.le_succ_of_le T9_0.out.size | exact Nat.le_succ_of_le T9_1.out.size | exact Nat.le_succ_of_le T9_2.out.size | exact Nat.le_succ_of_le T9_3.out.size | exact Nat.le_succ_of_le T9_4.out.size) _))); done))) s0 s1).mono ?_); rintro e w9_1 ⟨g9_1, x9_1, y9_1, k9_1, rfl, hR, hk9_1, hB⟩; have R9_1 := Lib.hid hR; clear hR; have HB9_1 := Lib.hid hB; have T9_1 := Lib.hid (Below.up (u := w6) (by ((repeat (first | (with_reducible exact Below.refl _ _) | (with_reducible refine Below.up ?_ HB9_4.out) | (with_reducible refine Below.up ?_ HB9_3.out) | (with_reducible refine Below.up ?_ HB9_2.out) | (with_reducible refine Below.up ?_ HB9_1.out) | (with_reducible refine Below.up ?_ HB9_0.out) | (with_reducible refine Below.alloc' ?_ _) | (with_reducible refine Below.drew' ?_) | (with_reducible refine Below.set' ?_ (by first | exact Nat.le_refl _ | exact Nat.le_succ _ | exact T9_0.out.size | exact T9_1.out.size | exact T9_2.out.size | exact T9_3.out.size | exact T9_4.out.size | exact Nat.le_succ_of_le T9_0.out.size | exact Nat.le_succ_of_le T9_1.out.size | exact Nat.le_succ_of_le T9_2.out.size | exact Nat.le_succ_of_le T9_3.out.size | exact Nat.le_succ_of_le T9_4.out.size) _))); done)) hB); clear hB s0 s1))
            | (go_at_call 11; have s0 : k9_1 ≤ 1000000000 := (by omega); have s1 : n ≤ 1000000000 := (by omega); have s2 : ((Q) * (q)) + (R) = p := HDS.out.1; ((with_reducible refine (equal_true _ (.agg #[.bool ga, .slice aa n ca]) k9_1 n (((Q) * (q)) + (R)) (p) _ (AI.below R9_1.out (by ((repeat (first | (with_reducible exact Below.refl _ _) | (with_reducible refine Below.up ?_ HB9_4.out) | (with_reducible refine Below.up ?_ HB9_3.out) | (with_reducible refine Below.up ?_ HB9_2.out) | (with_reducible refine Below.up ?_ HB9_1.out) | (with_reducible refine Below.up ?_ HB9_0.out) | (with_reducible refine Below.alloc' ?_ _) | (with_reducible refine Below.drew' ?_) | (with_reducible refine Below.set' ?_ (by first | exact Nat.le_refl _ | exact Nat.le_succ _ | exact T9_0.out.size | exact T9_1.out.size | exact T9_2.out.size | exact T9_3.out.size | exact T9_4.out.size | exact Nat.le_succ_of_le T9_0.out.size | exact Nat.le_succ_of_le T9_1.out.size | exact Nat.le_succ_of_le T9_2.out.size | exact Nat.le_succ_of_le T9_3.out.size | exact Nat.le_succ_of_le T9_4.out.size) _))); done))) (Va_6.out.up (by ((repeat (first | (with_reducible exact Below.refl _ _) | (with_reducible refine Below.up ?_ HB9_4.out) | (with_reducible refine Below.up ?_ HB9_3.out) | (with_reducible refine Below.up ?_ HB9_2.out) | (with_reducible refine Below.up ?_ HB9_1.out) | (with_reducible refine Below.up ?_ HB9_0.out) | (with_reducible refine Below.alloc' ?_ _) | (with_reducible refine Below.drew' ?_) | (with_reducible refine Below.set' ?_ (by first | exact Nat.le_refl _ | exact Nat.le_succ _ | exact T9_0.out.size | exact T9_1.out.size | exact T9_2.out.size | exact T9_3.out.size | exact T9_4.out.size | exact Nat.le_succ_of_le T9_0.out.size | exact Nat.le_succ_of_le T9_1.out.size | exact Nat.le_succ_of_le T9_2.out.size | exact Nat.le_succ_of_le T9_3.out.size | exact Nat.le_succ_of_le T9_4.out.size) _))); done))) s0 s1 s2).mono ?_); rintro e w9_2 ⟨rfl, hB⟩; have HB9_2 := Lib.hid hB; have T9_2 := Lib.hid (Below.up (u := w6) (by ((repeat (first | (with_reducible exact Below.refl _ _) | (with_reducible refine Below.up ?_ HB9_4.out) | (with_reducible refine Below.up ?_ HB9_3.out) | (with_reducible refine Below.up ?_ HB9_2.out) | (with_reducible refine Below.up ?_ HB9_1.out) | (with_reducible refine Below.up ?_ HB9_0.out) | (with_reducible refine Below.alloc' ?_ _) | (with_reducible refine Below.drew' ?_) | (with_reducible refine Below.set' ?_ (by first | exact Nat.le_refl _ | exact Nat.le_succ _ | exact T9_0.out.size | exact T9_1.out.size | exact T9_2.out.size | exact T9_3.out.size | exact T9_4.out.size | exact Nat.le_succ_of_le T9_0.out.size | exact Nat.le_succ_of_le T9_1.out.size | exact Nat.le_succ_of_le T9_2.out.size | exact Nat.le_succ_of_le T9_3.out.size | exact Nat.le_succ_of_le T9_4.out.size) _))); done)) hB); clear hB s0 s1 s2))
            | (go_at_call 8; have s0 : k4 ≤ 1000000000 := (by omega); have s1 : ord (R * ord q 0) 0 = ord (R * ord q 0) 0 := rfl; ((with_reducible refine (sign_is (.agg #[.bool g4, .slice x4 k4 y4]) k4 (R * ord q 0) (ord (R * ord q 0) 0) _ (Vt_6.out.up (by ((repeat (first | (with_reducible exact Below.refl _ _) | (with_reducible refine Below.up ?_ HB9_4.out) | (with_reducible refine Below.up ?_ HB9_3.out) | (with_reducible refine Below.up ?_ HB9_2.out) | (with_reducible refine Below.up ?_ HB9_1.out) | (with_reducible refine Below.up ?_ HB9_0.out) | (with_reducible refine Below.alloc' ?_ _) | (with_reducible refine Below.drew' ?_) | (with_reducible refine Below.set' ?_ (by first | exact Nat.le_refl _ | exact Nat.le_succ _ | exact T9_0.out.size | exact T9_1.out.size | exact T9_2.out.size | exact T9_3.out.size | exact T9_4.out.size | exact Nat.le_succ_of_le T9_0.out.size | exact Nat.le_succ_of_le T9_1.out.size | exact Nat.le_succ_of_le T9_2.out.size | exact Nat.le_succ_of_le T9_3.out.size | exact Nat.le_succ_of_le T9_4.out.size) _))); done))) s0 s1).mono ?_); rintro e w9_3 ⟨rfl, hB⟩; have HB9_3 := Lib.hid hB; have T9_3 := Lib.hid (Below.up (u := w6) (by ((repeat (first | (with_reducible exact Below.refl _ _) | (with_reducible refine Below.up ?_ HB9_4.out) | (with_reducible refine Below.up ?_ HB9_3.out) | (with_reducible refine Below.up ?_ HB9_2.out) | (with_reducible refine Below.up ?_ HB9_1.out) | (with_reducible refine Below.up ?_ HB9_0.out) | (with_reducible refine Below.alloc' ?_ _) | (with_reducible refine Below.drew' ?_) | (with_reducible refine Below.set' ?_ (by first | exact Nat.le_refl _ | exact Nat.le_succ _ | exact T9_0.out.size | exact T9_1.out.size | exact T9_2.out.size | exact T9_3.out.size | exact T9_4.out.size | exact Nat.le_succ_of_le T9_0.out.size | exact Nat.le_succ_of_le T9_1.out.size | exact Nat.le_succ_of_le T9_2.out.size | exact Nat.le_succ_of_le T9_3.out.size | exact Nat.le_succ_of_le T9_4.out.size) _))); done)) hB); clear hB s0 s1))
            | (go_at_call 13; have s0 : k4 ≤ 1000000000 := (by omega); have s1 : k3 ≤ 1000000000 := (by omega); have s2 : ord (R * ord q 0) (q * ord q 0) = -1 := ord_lt HLT.out; ((with_reducible refine (cmp_is (.agg #[.bool g4, .slice x4 k4 y4]) (.agg #[.bool g3, .slice x3 k3 y3]) k4 k3 (R * ord q 0) (q * ord q 0) (-1) _ (Vt_6.out.up (by ((repeat (first | (with_reducible exact Below.refl _ _) | (with_reducible refine Below.up ?_ HB9_4.out) | (with_reducible refine Below.up ?_ HB9_3.out) | (with_reducible refine Below.up ?_ HB9_2.out) | (with_reducible refine Below.up ?_ HB9_1.out) | (with_reducible refine Below.up ?_ HB9_0.out) | (with_reducible refine Below.alloc' ?_ _) | (with_reducible refine Below.drew' ?_) | (with_reducible refine Below.set' ?_ (by first | exact Nat.le_refl _ | exact Nat.le_succ _ | exact T9_0.out.size | exact T9_1.out.size | exact T9_2.out.size | exact T9_3.out.size | exact T9_4.out.size | exact Nat.le_succ_of_le T9_0.out.size | exact Nat.le_succ_of_le T9_1.out.size | exact Nat.le_succ_of_le T9_2.out.size | exact Nat.le_succ_of_le T9_3.out.size | exact Nat.le_succ_of_le T9_4.out.size) _))); done))) (Vs_6.out.up (by ((repeat (first | (with_reducible exact Below.refl _ _) | (with_reducible refine Below.up ?_ HB9_4.out) | (with_reducible refine Below.up ?_ HB9_3.out) | (with_reducible refine Below.up ?_ HB9_2.out) | (with_reducible refine Below.up ?_ HB9_1.out) | (with_reducible refine Below.up ?_ HB9_0.out) | (with_reducible refine Below.alloc' ?_ _) | (with_reducible refine Below.drew' ?_) | (with_reducible refine Below.set' ?_ (by first | exact Nat.le_refl _ | exact Nat.le_succ _ | exact T9_0.out.size | exact T9_1.out.size | exact T9_2.out.size | exact T9_3.out.size | exact T9_4.out.size | exact Nat.le_succ_of_le T9_0.out.size | exact Nat.le_succ_of_le T9_1.out.size | exact Nat.le_succ_of_le T9_2.out.size | exact Nat.le_succ_of_le T9_3.out.size | exact Nat.le_succ_of_le T9_4.out.size) _))); done))) s0 s1 s2).mono ?_); rintro e w9_4 ⟨rfl, hB⟩; have HB9_4 := Lib.hid hB; have T9_4 := Lib.hid (Below.up (u := w6) (by ((repeat (first | (with_reducible exact Below.refl _ _) | (with_reducible refine Below.up ?_ HB9_4.out) | (with_reducible refine Below.up ?_ HB9_3.out) | (with_reducible refine Below.up ?_ HB9_2.out) | (with_reducible refine Below.up ?_ HB9_1.out) | (with_reducible refine Below.up ?_ HB9_0.out) | (with_reducible refine Below.alloc' ?_ _) | (with_reducible refine Below.drew' ?_) | (with_reducible refine Below.set' ?_ (by first | exact Nat.le_refl _ | exact Nat.le_succ _ | exact T9_0.out.size | exact T9_1.out.size | exact T9_2.out.size | exact T9_3.out.size | exact T9_4.out.size | exact Nat.le_succ_of_le T9_0.out.size | exact Nat.le_succ_of_le T9_1.out.size | exact Nat.le_succ_of_le T9_2.out.size | exact Nat.le_succ_of_le T9_3.out.size | exact Nat.le_succ_of_le T9_4.out.size) _))); done)) hB); clear hB s0 s1 s2)))
          all_goals as_aux_lemma =>
            refine hK _ _ (Met.intro (hJ _ _ ?_))
            (repeat apply Exists.intro)
            refine ⟨?_, rfl⟩
            exact ⟨rfl, Lib.hid (KEEP.out _ (by ((repeat (first | (with_reducible exact Below.refl _ _) | (with_reducible refine Below.up ?_ HB9_4.out) | (with_reducible refine Below.up ?_ HB9_3.out) | (with_reducible refine Below.up ?_ HB9_2.out) | (with_reducible refine Below.up ?_ HB9_1.out) | (with_reducible refine Below.up ?_ HB9_0.out) | (with_reducible refine Below.alloc' ?_ _) | (with_reducible refine Below.drew' ?_) | (with_reducible refine Below.set' ?_ (by first | exact Nat.le_refl _ | exact Nat.le_succ _ | exact T9_0.out.size | exact T9_1.out.size | exact T9_2.out.size | exact T9_3.out.size | exact T9_4.out.size | exact Nat.le_succ_of_le T9_0.out.size | exact Nat.le_succ_of_le T9_1.out.size | exact Nat.le_succ_of_le T9_2.out.size | exact Nat.le_succ_of_le T9_3.out.size | exact Nat.le_succ_of_le T9_4.out.size) _))); done)))⟩
      case rest =>
        obtain ⟨rfl, hF⟩ := hcut
        generalize wc = w7 at *
        obtain ⟨hB, ha, hb, hc, hq, hr, hs, ht⟩ := hF.out
        have HW7 := Lib.hid hB
        have Va_7 := Lib.hid ha
        have Vb_7 := Lib.hid hb
        have Vc_7 := Lib.hid hc
        have Vq_7 := Lib.hid hq
        have Vr_7 := Lib.hid hr
        have Vs_7 := Lib.hid hs
        have Vt_7 := Lib.hid ht
        clear hF hB ha hb hc hq hr hs ht HW6 Va_6 Vb_6 Vc_6 Vq_6 Vr_6 Vs_6 Vt_6
        clear dge
        go_wp2_with fail
        clear Vq_7 Vr_7 Vs_7 Vt_7
        go_cut [14, 15] from 26 (fun s0 s1 W => ∃ (bk14 : Nat) (g5 : Bool) (x5 : Option Addr) (k5 y5 : Nat) (bk15 : Nat) (g6 : Bool) (x6 : Option Addr) (k6 y6 : Nat), s0 = .pointer (some ⟨bk14, 0, none⟩) ∧ s1 = .pointer (some ⟨bk15, 0, none⟩) ∧ k5 ≤ n + l ∧ k6 ≤ m + l ∧ Hid (Below w.heap.size w W ∧ IV W w.heap.size ga aa n ca (p) ∧ IV W (w.heap.size + 1) gb ab m cb (q) ∧ IV W (w.heap.size + 1 + 1) gc ac l cc (r) ∧ IV W bk14 g5 x5 k5 y5 (p * r) ∧ IV W bk15 g6 x6 k6 y6 (q * r)))
        case first =>
          rename_i hJ hK
          as_aux_lemma =>
            have KEEP := Lib.hid (fun (W : World) (hB : Below w7.heap.size w7 W) (bk14 : Nat) (g5 : Bool) (x5 : Option Addr) (k5 y5 : Nat) (bk15 : Nat) (g6 : Bool) (x6 : Option Addr) (k6 y6 : Nat) (hv0 : IV W bk14 g5 x5 k5 y5 (p * r)) (hv1 : IV W bk15 g6 x6 k6 y6 (q * r)) => (show Below w.heap.size w W ∧ IV W w.heap.size ga aa n ca (p) ∧ IV W (w.heap.size + 1) gb ab m cb (q) ∧ IV W (w.heap.size + 1 + 1) gc ac l cc (r) ∧ IV W bk14 g5 x5 k5 y5 (p * r) ∧ IV W bk15 g6 x6 k6 y6 (q * r) from ⟨Below.up HW7.out hB, Va_7.out.below hB, Vb_7.out.below hB, Vc_7.out.below hB, hv0, hv1⟩))
            have B10_ := Lib.hid (Below.refl w7.heap.size w7)
            have M10 := Lib.hid (show ∀ w', Below w7.heap.size w7 w' → w'.cell? ⟨w.heap.size, 0, none⟩ = some (.bool ga) ∧ w'.cell? ⟨w.heap.size, 1, none⟩ = some (.slice aa n ca) ∧ w'.cell? ⟨(w.heap.size + 1), 0, none⟩ = some (.bool gb) ∧ w'.cell? ⟨(w.heap.size + 1), 1, none⟩ = some (.slice ab m cb) ∧ w'.cell? ⟨(w.heap.size + 1 + 1), 0, none⟩ = some (.bool gc) ∧ w'.cell? ⟨(w.heap.size + 1 + 1), 1, none⟩ = some (.slice ac l cc) from fun w' h => ⟨(Va_7.out.below h).1, (Va_7.out.below h).2.1, (Vb_7.out.below h).1, (Vb_7.out.below h).2.1, (Vc_7.out.below h).1, (Vc_7.out.below h).2.1⟩)
            obtain ⟨oa0, oa1, oa2, _⟩ := Va_7.out
            obtain ⟨ob0, ob1, ob2, _⟩ := Vb_7.out
            obtain ⟨oc0, oc1, oc2, _⟩ := Vc_7.out
            have D10 := Lib.hid (Below.drew B10_.out)
            go_region_held3 (fun w' => w'.cell? ⟨w.heap.size, 0, none⟩ = some (.bool ga) ∧ w'.cell? ⟨w.heap.size, 1, none⟩ = some (.slice aa n ca) ∧ w'.cell? ⟨(w.heap.size + 1), 0, none⟩ = some (.bool gb) ∧ w'.cell? ⟨(w.heap.size + 1), 1, none⟩ = some (.slice ab m cb) ∧ w'.cell? ⟨(w.heap.size + 1 + 1), 0, none⟩ = some (.bool gc) ∧ w'.cell? ⟨(w.heap.size + 1 + 1), 1, none⟩ = some (.slice ac l cc))
              (exact M10.out _ (by ((repeat (first | (with_reducible exact Below.refl _ _) | (with_reducible refine Below.up ?_ HB10_1.out) | (with_reducible refine Below.up ?_ HB10_0.out) | (with_reducible refine Below.alloc' ?_ _) | (with_reducible refine Below.drew' ?_) | (with_reducible refine Below.set' ?_ (by first | exact Nat.le_refl _ | exact Nat.le_succ _ | exact T10_0.out.size | exact T10_1.out.size | exact Nat.le_succ_of_le T10_0.out.size | exact Nat.le_succ_of_le T10_1.out.size) _))); done)))
              (first
              | (go_at_call 9; have s0 : n ≤ 1000 := (by omega); have s1 : l ≤ 1000 := (by omega); have s2 : n < 40 ∨ l < 40 := (by omega); ((with_reducible refine (mul_gf (.agg #[.bool ga, .slice aa n ca]) (.agg #[.bool gc, .slice ac l cc]) n l (p) (r) _ (Va_7.out.up (by ((repeat (first | (with_reducible exact Below.refl _ _) | (with_reducible refine Below.up ?_ HB10_1.out) | (with_reducible refine Below.up ?_ HB10_0.out) | (with_reducible refine Below.alloc' ?_ _) | (with_reducible refine Below.drew' ?_) | (with_reducible refine Below.set' ?_ (by first | exact Nat.le_refl _ | exact Nat.le_succ _ | exact T10_0.out.size | exact T10_1.out.size | exact Nat.le_succ_of_le T10_0.out.size | exact Nat.le_succ_of_le T10_1.out.size) _))); done))) (Vc_7.out.up (by ((repeat (first | (with_reducible exact Below.refl _ _) | (with_reducible refine Below.up ?_ HB10_1.out) | (with_reducible refine Below.up ?_ HB10_0.out) | (with_reducible refine Below.alloc' ?_ _) | (with_reducible refine Below.drew' ?_) | (with_reducible refine Below.set' ?_ (by first | exact Nat.le_refl _ | exact Nat.le_succ _ | exact T10_0.out.size | exact T10_1.out.size | exact Nat.le_succ_of_le T10_0.out.size | exact Nat.le_succ_of_le T10_1.out.size) _))); done))) s0 s1 s2).mono ?_); rintro e w10_0 ⟨g10_0, x10_0, y10_0, k10_0, rfl, hR, hk10_0, hB⟩; have R10_0 := Lib.hid hR; clear hR; have HB10_0 := Lib.hid hB; have T10_0 := Lib.hid (Below.up (u := w7) (by ((repeat (first | (with_reducible exact Below.refl _ _) | (with_reducible refine Below.up ?_ HB10_1.out) | (with_reducible refine Below.up ?_ HB10_0.out) | (with_reducible refine Below.alloc' ?_ _) | (with_reducible refine Below.drew' ?_) | (with_reducible refine Below.set' ?_ (by first | exact Nat.le_refl _ | exact Nat.le_succ _ | exact T10_0.out.size | exact T10_1.out.size | exact Nat.le_succ_of_le T10_0.out.size | exact Nat.le_succ_of_le T10_1.out.size) _))); done)) hB); clear hB s0 s1 s2; (try (refine absorb (a := Box2 w10_0 (w7.heap.size)) ?_ ?_; (focus ((repeat (first | (with_reducible exact Box2.new _ _ _ _ _) | (with_reducible exact Box2.new1 _ _ _ _ _ _) | (with_reducible refine Box2.below ?_ HB10_0.out) | (with_reducible refine Box2.alloc ?_ _) | (with_reducible refine Box2.drew ?_))); done)); intro zb10_0_0a; obtain ⟨zu10_0_0a, zv10_0_0a, zc10_0_0a, zd10_0_0a, ze10_0_0a, zf10_0_0a⟩ := zb10_0_0a.open; have zl10_0_0a := zb10_0_0a.lt; have ZB10_0_0a := Lib.hid zb10_0_0a; clear zb10_0_0a)); (try (refine absorb (a := Box2 w10_0 (w7.heap.size + 1)) ?_ ?_; (focus ((repeat (first | (with_reducible exact Box2.new _ _ _ _ _) | (with_reducible exact Box2.new1 _ _ _ _ _ _) | (with_reducible refine Box2.below ?_ HB10_0.out) | (with_reducible refine Box2.alloc ?_ _) | (with_reducible refine Box2.drew ?_))); done)); intro zb10_0_0b; obtain ⟨zu10_0_0b, zv10_0_0b, zc10_0_0b, zd10_0_0b, ze10_0_0b, zf10_0_0b⟩ := zb10_0_0b.open; have zl10_0_0b := zb10_0_0b.lt; have ZB10_0_0b := Lib.hid zb10_0_0b; clear zb10_0_0b))))
              | (go_at_call 9; have s0 : m ≤ 1000 := (by omega); have s1 : l ≤ 1000 := (by omega); have s2 : m < 40 ∨ l < 40 := (by omega); ((with_reducible refine (mul_gf (.agg #[.bool gb, .slice ab m cb]) (.agg #[.bool gc, .slice ac l cc]) m l (q) (r) _ (Vb_7.out.up (by ((repeat (first | (with_reducible exact Below.refl _ _) | (with_reducible refine Below.up ?_ HB10_1.out) | (with_reducible refine Below.up ?_ HB10_0.out) | (with_reducible refine Below.alloc' ?_ _) | (with_reducible refine Below.drew' ?_) | (with_reducible refine Below.set' ?_ (by first | exact Nat.le_refl _ | exact Nat.le_succ _ | exact T10_0.out.size | exact T10_1.out.size | exact Nat.le_succ_of_le T10_0.out.size | exact Nat.le_succ_of_le T10_1.out.size) _))); done))) (Vc_7.out.up (by ((repeat (first | (with_reducible exact Below.refl _ _) | (with_reducible refine Below.up ?_ HB10_1.out) | (with_reducible refine Below.up ?_ HB10_0.out) | (with_reducible refine Below.alloc' ?_ _) | (with_reducible refine Below.drew' ?_) | (with_reducible refine Below.set' ?_ (by first | exact Nat.le_refl _ | exact Nat.le_succ _ | exact T10_0.out.size | exact T10_1.out.size | exact Nat.le_succ_of_le T10_0.out.size | exact Nat.le_succ_of_le T10_1.out.size) _))); done))) s0 s1 s2).mono ?_); rintro e w10_1 ⟨g10_1, x10_1, y10_1, k10_1, rfl, hR, hk10_1, hB⟩; have R10_1 := Lib.hid hR; clear hR; have HB10_1 := Lib.hid hB; have T10_1 := Lib.hid (Below.up (u := w7) (by ((repeat (first | (with_reducible exact Below.refl _ _) | (with_reducible refine Below.up ?_ HB10_1.out) | (with_reducible refine Below.up ?_ HB10_0.out) | (with_reducible refine Below.alloc' ?_ _) | (with_reducible refine Below.drew' ?_) | (with_reducible refine Below.set' ?_ (by first | exact Nat.le_refl _ | exact Nat.le_succ _ | exact T10_0.out.size | exact T10_1.out.size | exact Nat.le_succ_of_le T10_0.out.size | exact Nat.le_succ_of_le T10_1.out.size) _))); done)) hB); clear hB s0 s1 s2; (try (refine absorb (a := Box2 w10_1 (w7.heap.size)) ?_ ?_; (focus ((repeat (first | (with_reducible exact Box2.new _ _ _ _ _) | (with_reducible exact Box2.new1 _ _ _ _ _ _) | (with_reducible refine Box2.below ?_ HB10_1.out) | (with_reducible refine Box2.below ?_ HB10_0.out) | (with_reducible refine Box2.alloc ?_ _) | (with_reducible refine Box2.drew ?_))); done)); intro zb10_1_0a; obtain ⟨zu10_1_0a, zv10_1_0a, zc10_1_0a, zd10_1_0a, ze10_1_0a, zf10_1_0a⟩ := zb10_1_0a.open; have zl10_1_0a := zb10_1_0a.lt; have ZB10_1_0a := Lib.hid zb10_1_0a; clear zb10_1_0a)); (try (refine absorb (a := Box2 w10_1 (w7.heap.size + 1)) ?_ ?_; (focus ((repeat (first | (with_reducible exact Box2.new _ _ _ _ _) | (with_reducible exact Box2.new1 _ _ _ _ _ _) | (with_reducible refine Box2.below ?_ HB10_1.out) | (with_reducible refine Box2.below ?_ HB10_0.out) | (with_reducible refine Box2.alloc ?_ _) | (with_reducible refine Box2.drew ?_))); done)); intro zb10_1_0b; obtain ⟨zu10_1_0b, zv10_1_0b, zc10_1_0b, zd10_1_0b, ze10_1_0b, zf10_1_0b⟩ := zb10_1_0b.open; have zl10_1_0b := zb10_1_0b.lt; have ZB10_1_0b := Lib.hid zb10_1_0b; clear zb10_1_0b)); (try (refine absorb (a := Box2 w10_1 (w10_0.heap.size)) ?_ ?_; (focus ((repeat (first | (with_reducible exact Box2.new _ _ _ _ _) | (with_reducible exact Box2.new1 _ _ _ _ _ _) | (with_reducible refine Box2.below ?_ HB10_1.out) | (with_reducible refine Box2.below ?_ HB10_0.out) | (with_reducible refine Box2.alloc ?_ _) | (with_reducible refine Box2.drew ?_))); done)); intro zb10_1_1a; obtain ⟨zu10_1_1a, zv10_1_1a, zc10_1_1a, zd10_1_1a, ze10_1_1a, zf10_1_1a⟩ := zb10_1_1a.open; have zl10_1_1a := zb10_1_1a.lt; have ZB10_1_1a := Lib.hid zb10_1_1a; clear zb10_1_1a)); (try (refine absorb (a := Box2 w10_1 (w10_0.heap.size + 1)) ?_ ?_; (focus ((repeat (first | (with_reducible exact Box2.new _ _ _ _ _) | (with_reducible exact Box2.new1 _ _ _ _ _ _) | (with_reducible refine Box2.below ?_ HB10_1.out) | (with_reducible refine Box2.below ?_ HB10_0.out) | (with_reducible refine Box2.alloc ?_ _) | (with_reducible refine Box2.drew ?_))); done)); intro zb10_1_1b; obtain ⟨zu10_1_1b, zv10_1_1b, zc10_1_1b, zd10_1_1b, ze10_1_1b, zf10_1_1b⟩ := zb10_1_1b.open; have zl10_1_1b := zb10_1_1b.lt; have ZB10_1_1b := Lib.hid zb10_1_1b; clear zb10_1_1b)))))
            all_goals as_aux_lemma =>
              refine hK _ _ (Met.intro (hJ _ _ ?_))
              (repeat apply Exists.intro)
              refine ⟨?_, rfl⟩
              exact ⟨_, g10_0, x10_0, k10_0, y10_0, _, g10_1, x10_1, k10_1, y10_1, rfl, rfl, (by omega), (by omega), Lib.hid (KEEP.out _ (by ((repeat (first | (with_reducible exact Below.refl _ _) | (with_reducible refine Below.up ?_ HB10_1.out) | (with_reducible refine Below.up ?_ HB10_0.out) | (with_reducible refine Below.alloc' ?_ _) | (with_reducible refine Below.drew' ?_) | (with_reducible refine Below.set' ?_ (by first | exact Nat.le_refl _ | exact Nat.le_succ _ | exact T10_0.out.size | exact T10_1.out.size | exact Nat.le_succ_of_le T10_0.out.size | exact Nat.le_succ_of_le T10_1.out.size) _))); done)) _ _ _ _ _ _ _ _ _ _ (by ((repeat (first | (with_reducible exact (AI.below (w' := w10_1) R10_0.out (by ((repeat (first | (with_reducible exact Below.refl _ _) | (with_reducible refine Below.up ?_ HB10_1.out) | (with_reducible refine Below.up ?_ HB10_0.out) | (with_reducible refine Below.alloc' ?_ _) | (with_reducible refine Below.drew' ?_) | (with_reducible refine Below.set' ?_ (by first | exact Nat.le_refl _ | exact Nat.le_succ _ | exact T10_0.out.size | exact T10_1.out.size | exact Nat.le_succ_of_le T10_0.out.size | exact Nat.le_succ_of_le T10_1.out.size) _))); done)))) | (with_reducible exact R10_1.out) | (with_reducible exact ZB10_1_0a.out) | (with_reducible exact ZB10_1_0b.out) | (with_reducible exact ZB10_1_1a.out) | (with_reducible exact ZB10_1_1b.out) | (with_reducible refine IV.put ?_ ?_) | (with_reducible refine IV.new' ?_ (by simp)) | (with_reducible refine IV.keep' ?_ ?_ ?_) | (with_reducible refine IV.alloc ?_ _) | (with_reducible refine AI.alloc ?_ _) | (with_reducible refine AI.set ?_ ?_) | (with_reducible refine Box2.set0 ?_ _) | (with_reducible refine Box2.set1 ?_ _ _ _) | (with_reducible refine Box2.other' ?_ ?_) | (with_reducible refine Box2.alloc ?_ _) | omega)); done)) (by ((repeat (first | (with_reducible exact (AI.below (w' := w10_1) R10_0.out (by ((repeat (first | (with_reducible exact Below.refl _ _) | (with_reducible refine Below.up ?_ HB10_1.out) | (with_reducible refine Below.up ?_ HB10_0.out) | (with_reducible refine Below.alloc' ?_ _) | (with_reducible refine Below.drew' ?_) | (with_reducible refine Below.set' ?_ (by first | exact Nat.le_refl _ | exact Nat.le_succ _ | exact T10_0.out.size | exact T10_1.out.size | exact Nat.le_succ_of_le T10_0.out.size | exact Nat.le_succ_of_le T10_1.out.size) _))); done)))) | (with_reducible exact R10_1.out) | (with_reducible exact ZB10_1_0a.out) | (with_reducible exact ZB10_1_0b.out) | (with_reducible exact ZB10_1_1a.out) | (with_reducible exact ZB10_1_1b.out) | (with_reducible refine IV.put ?_ ?_) | (with_reducible refine IV.new' ?_ (by simp)) | (with_reducible refine IV.keep' ?_ ?_ ?_) | (with_reducible refine IV.alloc ?_ _) | (with_reducible refine AI.alloc ?_ _) | (with_reducible refine AI.set ?_ ?_) | (with_reducible refine Box2.set0 ?_ _) | (with_reducible refine Box2.set1 ?_ _ _ _) | (with_reducible refine Box2.other' ?_ ?_) | (with_reducible refine Box2.alloc ?_ _) | omega)); done)))⟩
        case rest =>
          obtain ⟨bk14, g5, x5, k5, y5, bk15, g6, x6, k6, y6, rfl, rfl, hk10a, hk10b, hF⟩ := hcut
          generalize wc = w8 at *
          obtain ⟨hB, ha, hb, hc, hx, hy⟩ := hF.out
          have HW8 := Lib.hid hB
          have Va_8 := Lib.hid ha
          have Vb_8 := Lib.hid hb
          have Vc_8 := Lib.hid hc
          have Vx_8 := Lib.hid hx
          have Vy_8 := Lib.hid hy
          clear hF hB ha hb hc hx hy HW7 Va_7 Vb_7 Vc_7
          clear Va_8 Vb_8
          as_aux_lemma =>
            obtain ⟨ox0, ox1, ox2, _⟩ := Vx_8.out
            obtain ⟨oy0, oy1, oy2, _⟩ := Vy_8.out
            go_wp2_with fail
            refine (gcd_gi _ _ k5 k6 (p * r) (q * r) _ (HT.out.up HW8.out) Vx_8.out.2.2.2 Vy_8.out.2.2.2 (by omega) (by omega)).mono ?_
            rintro e w9 ⟨g7, x7, y7, k7, rfl, hG, hk7, hB⟩
            have Vc_9 := Lib.hid (Vc_8.out.below hB)
            have Vx_9 := Lib.hid (Vx_8.out.below hB)
            have Vy_9 := Lib.hid (Vy_8.out.below hB)
            have HW9 := Lib.hid (Below.up HW8.out hB)
            clear HW8 Vc_8 Vx_8 Vy_8
            clear ox0 ox1 ox2 oy0 oy1 oy2
            have NG := Lib.hid hG
            clear hB hG
            obtain ⟨ox0, ox1, ox2, _⟩ := (Vx_9.out.below (w' := (w9.alloc (.cells #[.bool g7, .slice x7 k7 y7] 24))) (by repeat (first | exact Below.refl _ _ | exact Nat.le_refl _ | (apply Below.alloc) | (refine Below.setCell ?_ (by first | exact Nat.le_refl _ | (simp <;> omega)) _) | (simp <;> omega))))
            obtain ⟨og0, og1, og2, _⟩ := (IV.new NG.out)
            go_wp2_with fail
            refine calls_at (fun W => Below w.heap.size w W ∧ IV W (w.heap.size + 1 + 1) gc ac l cc (r) ∧ IV W bk14 g5 x5 k5 y5 (p * r) ∧ IV W bk15 g6 x6 k6 y6 (q * r) ∧ IV W w9.heap.size g7 x7 k7 y7 ((Int.gcd (p * r) (q * r) : Int))) ⟨Below.up HW9.out (by repeat (first | exact Below.refl _ _ | exact Nat.le_refl _ | (apply Below.alloc) | (refine Below.setCell ?_ (by first | exact Nat.le_refl _ | (simp <;> omega)) _) | (simp <;> omega))), Vc_9.out.below (by repeat (first | exact Below.refl _ _ | exact Nat.le_refl _ | (apply Below.alloc) | (refine Below.setCell ?_ (by first | exact Nat.le_refl _ | (simp <;> omega)) _) | (simp <;> omega))), Vx_9.out.below (by repeat (first | exact Below.refl _ _ | exact Nat.le_refl _ | (apply Below.alloc) | (refine Below.setCell ?_ (by first | exact Nat.le_refl _ | (simp <;> omega)) _) | (simp <;> omega))), Vy_9.out.below (by repeat (first | exact Below.refl _ _ | exact Nat.le_refl _ | (apply Below.alloc) | (refine Below.setCell ?_ (by first | exact Nat.le_refl _ | (simp <;> omega)) _) | (simp <;> omega))), IV.new NG.out⟩ ?_
            rintro w10 ⟨hB, hc, hx, hy, hg⟩
            have HW10 := Lib.hid hB
            have Vc_10 := Lib.hid hc
            have Vx_10 := Lib.hid hx
            have Vy_10 := Lib.hid hy
            have Vg_10 := Lib.hid hg
            clear hB hc hx hy hg HW9 Vc_9 Vx_9 Vy_9
            clear ox0 ox1 ox2 og0 og1 og2
            clear NG
            by_cases hr : r = 0
            · subst hr
              have hz : (Int.gcd (p * 0) (q * 0) : Int) = 0 := by simp
              refine (Div_zero _ _ k5 k7 _ _ Vx_10.out.2.2.2 (hz ▸ Vg_10.out.2.2.2) (by omega) (by omega)).mono ?_
              rintro e w11 ⟨rfl, hB⟩
              have Vc_11 := Lib.hid (Vc_10.out.below hB)
              have Vx_11 := Lib.hid (Vx_10.out.below hB)
              have Vy_11 := Lib.hid (Vy_10.out.below hB)
              have Vg_11 := Lib.hid (Vg_10.out.below hB)
              have HW11 := Lib.hid (Below.up HW10.out hB)
              clear HW10 Vc_10 Vx_10 Vy_10 Vg_10
              clear hB
              obtain ⟨oy0, oy1, oy2, _⟩ := (Vy_11.out.below (w' := ((w11.alloc (.cells #[.bool false, .slice none 0 0] 24)).alloc (.cells #[.bool false, .slice none 0 0] 24))) (by repeat (first | exact Below.refl _ _ | exact Nat.le_refl _ | (apply Below.alloc) | (refine Below.setCell ?_ (by first | exact Nat.le_refl _ | (simp <;> omega)) _) | (simp <;> omega))))
              obtain ⟨og0, og1, og2, _⟩ := (Vg_11.out.below (w' := ((w11.alloc (.cells #[.bool false, .slice none 0 0] 24)).alloc (.cells #[.bool false, .slice none 0 0] 24))) (by repeat (first | exact Below.refl _ _ | exact Nat.le_refl _ | (apply Below.alloc) | (refine Below.setCell ?_ (by first | exact Nat.le_refl _ | (simp <;> omega)) _) | (simp <;> omega))))
              go_wp2_with fail
              refine calls_at (fun W => Below w.heap.size w W ∧ IV W (w.heap.size + 1 + 1) gc ac l cc (0) ∧ IV W bk14 g5 x5 k5 y5 (p * 0) ∧ IV W bk15 g6 x6 k6 y6 (q * 0) ∧ IV W w9.heap.size g7 x7 k7 y7 ((Int.gcd (p * 0) (q * 0) : Int))) ⟨Below.up HW11.out (by repeat (first | exact Below.refl _ _ | exact Nat.le_refl _ | (apply Below.alloc) | (refine Below.setCell ?_ (by first | exact Nat.le_refl _ | (simp <;> omega)) _) | (simp <;> omega))), Vc_11.out.below (by repeat (first | exact Below.refl _ _ | exact Nat.le_refl _ | (apply Below.alloc) | (refine Below.setCell ?_ (by first | exact Nat.le_refl _ | (simp <;> omega)) _) | (simp <;> omega))), Vx_11.out.below (by repeat (first | exact Below.refl _ _ | exact Nat.le_refl _ | (apply Below.alloc) | (refine Below.setCell ?_ (by first | exact Nat.le_refl _ | (simp <;> omega)) _) | (simp <;> omega))), Vy_11.out.below (by repeat (first | exact Below.refl _ _ | exact Nat.le_refl _ | (apply Below.alloc) | (refine Below.setCell ?_ (by first | exact Nat.le_refl _ | (simp <;> omega)) _) | (simp <;> omega))), Vg_11.out.below (by repeat (first | exact Below.refl _ _ | exact Nat.le_refl _ | (apply Below.alloc) | (refine Below.setCell ?_ (by first | exact Nat.le_refl _ | (simp <;> omega)) _) | (simp <;> omega)))⟩ ?_
              rintro w12 ⟨hB, hc, hx, hy, hg⟩
              have HW12 := Lib.hid hB
              have Vc_12 := Lib.hid hc
              have Vx_12 := Lib.hid hx
              have Vy_12 := Lib.hid hy
              have Vg_12 := Lib.hid hg
              clear hB hc hx hy hg HW11 Vc_11 Vx_11 Vy_11 Vg_11
              clear oy0 oy1 oy2 og0 og1 og2
              refine (Div_zero _ _ k6 k7 _ _ Vy_12.out.2.2.2 (hz ▸ Vg_12.out.2.2.2) (by omega) (by omega)).mono ?_
              rintro e w13 ⟨rfl, hB⟩
              have Vc_13 := Lib.hid (Vc_12.out.below hB)
              have Vx_13 := Lib.hid (Vx_12.out.below hB)
              have Vy_13 := Lib.hid (Vy_12.out.below hB)
              have Vg_13 := Lib.hid (Vg_12.out.below hB)
              have HW13 := Lib.hid (Below.up HW12.out hB)
              clear HW12 Vc_12 Vx_12 Vy_12 Vg_12
              clear hB
              obtain ⟨oc0, oc1, oc2, _⟩ := (Vc_13.out.below (w' := ((w13.alloc (.cells #[.bool false, .slice none 0 0] 24)).alloc (.cells #[.bool false, .slice none 0 0] 24))) (by repeat (first | exact Below.refl _ _ | exact Nat.le_refl _ | (apply Below.alloc) | (refine Below.setCell ?_ (by first | exact Nat.le_refl _ | (simp <;> omega)) _) | (simp <;> omega))))
              go_wp2_with fail
              refine calls_at (fun W => Below w.heap.size w W ∧ IV W (w.heap.size + 1 + 1) gc ac l cc (0) ∧ IV W bk14 g5 x5 k5 y5 (p * 0) ∧ IV W bk15 g6 x6 k6 y6 (q * 0) ∧ IV W w9.heap.size g7 x7 k7 y7 ((Int.gcd (p * 0) (q * 0) : Int))) ⟨Below.up HW13.out (by repeat (first | exact Below.refl _ _ | exact Nat.le_refl _ | (apply Below.alloc) | (refine Below.setCell ?_ (by first | exact Nat.le_refl _ | (simp <;> omega)) _) | (simp <;> omega))), Vc_13.out.below (by repeat (first | exact Below.refl _ _ | exact Nat.le_refl _ | (apply Below.alloc) | (refine Below.setCell ?_ (by first | exact Nat.le_refl _ | (simp <;> omega)) _) | (simp <;> omega))), Vx_13.out.below (by repeat (first | exact Below.refl _ _ | exact Nat.le_refl _ | (apply Below.alloc) | (refine Below.setCell ?_ (by first | exact Nat.le_refl _ | (simp <;> omega)) _) | (simp <;> omega))), Vy_13.out.below (by repeat (first | exact Below.refl _ _ | exact Nat.le_refl _ | (apply Below.alloc) | (refine Below.setCell ?_ (by first | exact Nat.le_refl _ | (simp <;> omega)) _) | (simp <;> omega))), Vg_13.out.below (by repeat (first | exact Below.refl _ _ | exact Nat.le_refl _ | (apply Below.alloc) | (refine Below.setCell ?_ (by first | exact Nat.le_refl _ | (simp <;> omega)) _) | (simp <;> omega)))⟩ ?_
              rintro w14 ⟨hB, hc, hx, hy, hg⟩
              have HW14 := Lib.hid hB
              have Vc_14 := Lib.hid hc
              have Vx_14 := Lib.hid hx
              have Vy_14 := Lib.hid hy
              have Vg_14 := Lib.hid hg
              clear hB hc hx hy hg HW13 Vc_13 Vx_13 Vy_13 Vg_13
              clear oc0 oc1 oc2
              refine (sign_is _ l 0 0 _ Vc_14.out.2.2.2 (by omega) rfl).mono ?_
              rintro e w15 ⟨rfl, hB⟩
              have Vc_15 := Lib.hid (Vc_14.out.below hB)
              have Vx_15 := Lib.hid (Vx_14.out.below hB)
              have Vy_15 := Lib.hid (Vy_14.out.below hB)
              have Vg_15 := Lib.hid (Vg_14.out.below hB)
              have HW15 := Lib.hid (Below.up HW14.out hB)
              clear HW14 Vc_14 Vx_14 Vy_14 Vg_14
              clear hB
              obtain ⟨og0, og1, og2, _⟩ := Vg_15.out
              go_wp2_with fail
              refine (sign_is _ k7 _ 0 _ Vg_15.out.2.2.2 (by omega) (ord_eq hz)).mono ?_
              rintro e w16 ⟨rfl, hB⟩
              have HW16 := Lib.hid (Below.up HW15.out hB)
              clear hB
              go_wp2_with fail
              go_ret
              exact ⟨rfl, HW16.out⟩
            · have HR0 := Lib.hid hr
              have dr : (ord r 0 == 0) = false := by
                rcases Int.lt_or_lt_of_ne hr with g | g
                · rw [ord_lt g]; rfl
                · rw [ord_gt g]; rfl
              have hg0 : 0 < (Int.gcd (p * r) (q * r) : Int) := gcd_pos HQ0.out hr
              have HG0 := Lib.hid hg0
              clear hr hg0
              refine (div_gi _ _ k5 k7 (p * r) ((Int.gcd (p * r) (q * r) : Int)) _ Vx_10.out.2.2.2 Vg_10.out.2.2.2 (by omega) (by omega) (by have := HG0.out; omega)).mono ?_
              rintro e w11 ⟨g8, x8, y8, g9, x9, y9, k8, k9, Q1, R1, rfl, hQ, hR, hDV, hk8, hk9, hB⟩
              have Vc_11 := Lib.hid (Vc_10.out.below hB)
              have Vx_11 := Lib.hid (Vx_10.out.below hB)
              have Vy_11 := Lib.hid (Vy_10.out.below hB)
              have Vg_11 := Lib.hid (Vg_10.out.below hB)
              have HW11 := Lib.hid (Below.up HW10.out hB)
              clear HW10 Vc_10 Vx_10 Vy_10 Vg_10
              have NQ := Lib.hid hQ
              have NR := Lib.hid hR
              have HDV := Lib.hid hDV
              clear hB hQ hR hDV
              have HO1 := Lib.hid (dvs_zero HDV.out (Int.gcd_dvd_left ..) (by have := HG0.out; omega))
              clear HDV
              obtain ⟨oy0, oy1, oy2, _⟩ := (Vy_11.out.below (w' := ((w11.alloc (.cells #[.bool g8, .slice x8 k8 y8] 24)).alloc (.cells #[.bool g9, .slice x9 k9 y9] 24))) (by repeat (first | exact Below.refl _ _ | exact Nat.le_refl _ | (apply Below.alloc) | (refine Below.setCell ?_ (by first | exact Nat.le_refl _ | (simp <;> omega)) _) | (simp <;> omega))))
              obtain ⟨og0, og1, og2, _⟩ := (Vg_11.out.below (w' := ((w11.alloc (.cells #[.bool g8, .slice x8 k8 y8] 24)).alloc (.cells #[.bool g9, .slice x9 k9 y9] 24))) (by repeat (first | exact Below.refl _ _ | exact Nat.le_refl _ | (apply Below.alloc) | (refine Below.setCell ?_ (by first | exact Nat.le_refl _ | (simp <;> omega)) _) | (simp <;> omega))))
              go_wp2_with fail
              refine calls_at (fun W => Below w.heap.size w W ∧ IV W (w.heap.size + 1 + 1) gc ac l cc (r) ∧ IV W bk14 g5 x5 k5 y5 (p * r) ∧ IV W bk15 g6 x6 k6 y6 (q * r) ∧ IV W w9.heap.size g7 x7 k7 y7 ((Int.gcd (p * r) (q * r) : Int)) ∧ IV W (w11.heap.size + 1) g9 x9 k9 y9 (R1)) ⟨Below.up HW11.out (by repeat (first | exact Below.refl _ _ | exact Nat.le_refl _ | (apply Below.alloc) | (refine Below.setCell ?_ (by first | exact Nat.le_refl _ | (simp <;> omega)) _) | (simp <;> omega))), Vc_11.out.below (by repeat (first | exact Below.refl _ _ | exact Nat.le_refl _ | (apply Below.alloc) | (refine Below.setCell ?_ (by first | exact Nat.le_refl _ | (simp <;> omega)) _) | (simp <;> omega))), Vx_11.out.below (by repeat (first | exact Below.refl _ _ | exact Nat.le_refl _ | (apply Below.alloc) | (refine Below.setCell ?_ (by first | exact Nat.le_refl _ | (simp <;> omega)) _) | (simp <;> omega))), Vy_11.out.below (by repeat (first | exact Below.refl _ _ | exact Nat.le_refl _ | (apply Below.alloc) | (refine Below.setCell ?_ (by first | exact Nat.le_refl _ | (simp <;> omega)) _) | (simp <;> omega))), Vg_11.out.below (by repeat (first | exact Below.refl _ _ | exact Nat.le_refl _ | (apply Below.alloc) | (refine Below.setCell ?_ (by first | exact Nat.le_refl _ | (simp <;> omega)) _) | (simp <;> omega))), IV.new' (NR.out.below ((Below.refl _ _).alloc (Nat.le_refl _) _)) (by simp)⟩ ?_
              rintro w12 ⟨hB, hc, hx, hy, hg, ho⟩
              have HW12 := Lib.hid hB
              have Vc_12 := Lib.hid hc
              have Vx_12 := Lib.hid hx
              have Vy_12 := Lib.hid hy
              have Vg_12 := Lib.hid hg
              have Vo_12 := Lib.hid ho
              clear hB hc hx hy hg ho HW11 Vc_11 Vx_11 Vy_11 Vg_11
              clear oy0 oy1 oy2 og0 og1 og2
              clear NQ NR
              refine (div_gi _ _ k6 k7 (q * r) ((Int.gcd (p * r) (q * r) : Int)) _ Vy_12.out.2.2.2 Vg_12.out.2.2.2 (by omega) (by omega) (by have := HG0.out; omega)).mono ?_
              rintro e w13 ⟨g10, x10, y10, g11, x11, y11, k10, k11, Q2, R2, rfl, hQ, hR, hDV, hk10, hk11, hB⟩
              have Vc_13 := Lib.hid (Vc_12.out.below hB)
              have Vx_13 := Lib.hid (Vx_12.out.below hB)
              have Vy_13 := Lib.hid (Vy_12.out.below hB)
              have Vg_13 := Lib.hid (Vg_12.out.below hB)
              have Vo_13 := Lib.hid (Vo_12.out.below hB)
              have HW13 := Lib.hid (Below.up HW12.out hB)
              clear HW12 Vc_12 Vx_12 Vy_12 Vg_12 Vo_12
              have NQ := Lib.hid hQ
              have NR := Lib.hid hR
              have HDV := Lib.hid hDV
              clear hB hQ hR hDV
              have HO2 := Lib.hid (dvs_zero HDV.out (Int.gcd_dvd_right ..) (by have := HG0.out; omega))
              clear HDV
              obtain ⟨oc0, oc1, oc2, _⟩ := (Vc_13.out.below (w' := ((w13.alloc (.cells #[.bool g10, .slice x10 k10 y10] 24)).alloc (.cells #[.bool g11, .slice x11 k11 y11] 24))) (by repeat (first | exact Below.refl _ _ | exact Nat.le_refl _ | (apply Below.alloc) | (refine Below.setCell ?_ (by first | exact Nat.le_refl _ | (simp <;> omega)) _) | (simp <;> omega))))
              go_wp2_with fail
              refine calls_at (fun W => Below w.heap.size w W ∧ IV W (w.heap.size + 1 + 1) gc ac l cc (r) ∧ IV W bk14 g5 x5 k5 y5 (p * r) ∧ IV W bk15 g6 x6 k6 y6 (q * r) ∧ IV W w9.heap.size g7 x7 k7 y7 ((Int.gcd (p * r) (q * r) : Int)) ∧ IV W (w11.heap.size + 1) g9 x9 k9 y9 (R1) ∧ IV W (w13.heap.size + 1) g11 x11 k11 y11 (R2)) ⟨Below.up HW13.out (by repeat (first | exact Below.refl _ _ | exact Nat.le_refl _ | (apply Below.alloc) | (refine Below.setCell ?_ (by first | exact Nat.le_refl _ | (simp <;> omega)) _) | (simp <;> omega))), Vc_13.out.below (by repeat (first | exact Below.refl _ _ | exact Nat.le_refl _ | (apply Below.alloc) | (refine Below.setCell ?_ (by first | exact Nat.le_refl _ | (simp <;> omega)) _) | (simp <;> omega))), Vx_13.out.below (by repeat (first | exact Below.refl _ _ | exact Nat.le_refl _ | (apply Below.alloc) | (refine Below.setCell ?_ (by first | exact Nat.le_refl _ | (simp <;> omega)) _) | (simp <;> omega))), Vy_13.out.below (by repeat (first | exact Below.refl _ _ | exact Nat.le_refl _ | (apply Below.alloc) | (refine Below.setCell ?_ (by first | exact Nat.le_refl _ | (simp <;> omega)) _) | (simp <;> omega))), Vg_13.out.below (by repeat (first | exact Below.refl _ _ | exact Nat.le_refl _ | (apply Below.alloc) | (refine Below.setCell ?_ (by first | exact Nat.le_refl _ | (simp <;> omega)) _) | (simp <;> omega))), Vo_13.out.below (by repeat (first | exact Below.refl _ _ | exact Nat.le_refl _ | (apply Below.alloc) | (refine Below.setCell ?_ (by first | exact Nat.le_refl _ | (simp <;> omega)) _) | (simp <;> omega))), IV.new' (NR.out.below ((Below.refl _ _).alloc (Nat.le_refl _) _)) (by simp)⟩ ?_
              rintro w14 ⟨hB, hc, hx, hy, hg, ho, hu⟩
              have HW14 := Lib.hid hB
              have Vc_14 := Lib.hid hc
              have Vx_14 := Lib.hid hx
              have Vy_14 := Lib.hid hy
              have Vg_14 := Lib.hid hg
              have Vo_14 := Lib.hid ho
              have Vu_14 := Lib.hid hu
              clear hB hc hx hy hg ho hu HW13 Vc_13 Vx_13 Vy_13 Vg_13 Vo_13
              clear oc0 oc1 oc2
              clear NQ NR
              refine (sign_is _ l r (ord r 0) _ Vc_14.out.2.2.2 (by omega) rfl).mono ?_
              rintro e w15 ⟨rfl, hB⟩
              have Vc_15 := Lib.hid (Vc_14.out.below hB)
              have Vx_15 := Lib.hid (Vx_14.out.below hB)
              have Vy_15 := Lib.hid (Vy_14.out.below hB)
              have Vg_15 := Lib.hid (Vg_14.out.below hB)
              have Vo_15 := Lib.hid (Vo_14.out.below hB)
              have Vu_15 := Lib.hid (Vu_14.out.below hB)
              have HW15 := Lib.hid (Below.up HW14.out hB)
              clear HW14 Vc_14 Vx_14 Vy_14 Vg_14 Vo_14 Vu_14
              clear hB
              obtain ⟨og0, og1, og2, _⟩ := Vg_15.out
              obtain ⟨oc0, oc1, oc2, _⟩ := Vc_15.out
              go_wp2_with fail
              refine (div_gi _ _ k7 l ((Int.gcd (p * r) (q * r) : Int)) (r) _ Vg_15.out.2.2.2 Vc_15.out.2.2.2 (by omega) (by omega) HR0.out).mono ?_
              rintro e w16 ⟨g12, x12, y12, g13, x13, y13, k12, k13, Q3, R3, rfl, hQ, hR, hDV, hk12, hk13, hB⟩
              have Vc_16 := Lib.hid (Vc_15.out.below hB)
              have Vx_16 := Lib.hid (Vx_15.out.below hB)
              have Vy_16 := Lib.hid (Vy_15.out.below hB)
              have Vg_16 := Lib.hid (Vg_15.out.below hB)
              have Vo_16 := Lib.hid (Vo_15.out.below hB)
              have Vu_16 := Lib.hid (Vu_15.out.below hB)
              have HW16 := Lib.hid (Below.up HW15.out hB)
              clear HW15 Vc_15 Vx_15 Vy_15 Vg_15 Vo_15 Vu_15
              have NQ := Lib.hid hQ
              have NR := Lib.hid hR
              have HDV := Lib.hid hDV
              clear hB hQ hR hDV
              clear og0 og1 og2 oc0 oc1 oc2
              have HO3 := Lib.hid (dvs_zero HDV.out (dvd_gcd p q r) HR0.out)
              clear HDV
              obtain ⟨og0, og1, og2, _⟩ := (Vg_16.out.below (w' := ((w16.alloc (.cells #[.bool g12, .slice x12 k12 y12] 24)).alloc (.cells #[.bool g13, .slice x13 k13 y13] 24))) (by repeat (first | exact Below.refl _ _ | exact Nat.le_refl _ | (apply Below.alloc) | (refine Below.setCell ?_ (by first | exact Nat.le_refl _ | (simp <;> omega)) _) | (simp <;> omega))))
              go_wp2_with fail
              refine calls_at (fun W => Below w.heap.size w W ∧ IV W (w.heap.size + 1 + 1) gc ac l cc (r) ∧ IV W bk14 g5 x5 k5 y5 (p * r) ∧ IV W bk15 g6 x6 k6 y6 (q * r) ∧ IV W w9.heap.size g7 x7 k7 y7 ((Int.gcd (p * r) (q * r) : Int)) ∧ IV W (w11.heap.size + 1) g9 x9 k9 y9 (R1) ∧ IV W (w13.heap.size + 1) g11 x11 k11 y11 (R2) ∧ IV W (w16.heap.size + 1) g13 x13 k13 y13 (R3)) ⟨Below.up HW16.out (by repeat (first | exact Below.refl _ _ | exact Nat.le_refl _ | (apply Below.alloc) | (refine Below.setCell ?_ (by first | exact Nat.le_refl _ | (simp <;> omega)) _) | (simp <;> omega))), Vc_16.out.below (by repeat (first | exact Below.refl _ _ | exact Nat.le_refl _ | (apply Below.alloc) | (refine Below.setCell ?_ (by first | exact Nat.le_refl _ | (simp <;> omega)) _) | (simp <;> omega))), Vx_16.out.below (by repeat (first | exact Below.refl _ _ | exact Nat.le_refl _ | (apply Below.alloc) | (refine Below.setCell ?_ (by first | exact Nat.le_refl _ | (simp <;> omega)) _) | (simp <;> omega))), Vy_16.out.below (by repeat (first | exact Below.refl _ _ | exact Nat.le_refl _ | (apply Below.alloc) | (refine Below.setCell ?_ (by first | exact Nat.le_refl _ | (simp <;> omega)) _) | (simp <;> omega))), Vg_16.out.below (by repeat (first | exact Below.refl _ _ | exact Nat.le_refl _ | (apply Below.alloc) | (refine Below.setCell ?_ (by first | exact Nat.le_refl _ | (simp <;> omega)) _) | (simp <;> omega))), Vo_16.out.below (by repeat (first | exact Below.refl _ _ | exact Nat.le_refl _ | (apply Below.alloc) | (refine Below.setCell ?_ (by first | exact Nat.le_refl _ | (simp <;> omega)) _) | (simp <;> omega))), Vu_16.out.below (by repeat (first | exact Below.refl _ _ | exact Nat.le_refl _ | (apply Below.alloc) | (refine Below.setCell ?_ (by first | exact Nat.le_refl _ | (simp <;> omega)) _) | (simp <;> omega))), IV.new' (NR.out.below ((Below.refl _ _).alloc (Nat.le_refl _) _)) (by simp)⟩ ?_
              rintro w17 ⟨hB, hc, hx, hy, hg, ho, hu, hv⟩
              have HW17 := Lib.hid hB
              have Vc_17 := Lib.hid hc
              have Vx_17 := Lib.hid hx
              have Vy_17 := Lib.hid hy
              have Vg_17 := Lib.hid hg
              have Vo_17 := Lib.hid ho
              have Vu_17 := Lib.hid hu
              have Vv_17 := Lib.hid hv
              clear hB hc hx hy hg ho hu hv HW16 Vc_16 Vx_16 Vy_16 Vg_16 Vo_16 Vu_16
              clear og0 og1 og2
              clear NQ NR
              refine (sign_is _ k7 _ 1 _ Vg_17.out.2.2.2 (by omega) (ord_gt HG0.out)).mono ?_
              rintro e w18 ⟨rfl, hB⟩
              have Vc_18 := Lib.hid (Vc_17.out.below hB)
              have Vx_18 := Lib.hid (Vx_17.out.below hB)
              have Vy_18 := Lib.hid (Vy_17.out.below hB)
              have Vg_18 := Lib.hid (Vg_17.out.below hB)
              have Vo_18 := Lib.hid (Vo_17.out.below hB)
              have Vu_18 := Lib.hid (Vu_17.out.below hB)
              have Vv_18 := Lib.hid (Vv_17.out.below hB)
              have HW18 := Lib.hid (Below.up HW17.out hB)
              clear HW17 Vc_17 Vx_17 Vy_17 Vg_17 Vo_17 Vu_17 Vv_17
              clear hB
              obtain ⟨oo0, oo1, oo2, _⟩ := Vo_18.out
              go_wp2_with fail
              clear oo0 oo1 oo2
              refine (sign_is _ k9 _ 0 _ Vo_18.out.2.2.2 (by omega) (ord_eq HO1.out)).mono ?_
              rintro e w19 ⟨rfl, hB⟩
              have Vc_19 := Lib.hid (Vc_18.out.below hB)
              have Vx_19 := Lib.hid (Vx_18.out.below hB)
              have Vy_19 := Lib.hid (Vy_18.out.below hB)
              have Vg_19 := Lib.hid (Vg_18.out.below hB)
              have Vo_19 := Lib.hid (Vo_18.out.below hB)
              have Vu_19 := Lib.hid (Vu_18.out.below hB)
              have Vv_19 := Lib.hid (Vv_18.out.below hB)
              have HW19 := Lib.hid (Below.up HW18.out hB)
              clear HW18 Vc_18 Vx_18 Vy_18 Vg_18 Vo_18 Vu_18 Vv_18
              clear hB
              obtain ⟨ou0, ou1, ou2, _⟩ := Vu_19.out
              go_wp2_with fail
              clear ou0 ou1 ou2
              refine (sign_is _ k11 _ 0 _ Vu_19.out.2.2.2 (by omega) (ord_eq HO2.out)).mono ?_
              rintro e w20 ⟨rfl, hB⟩
              have Vc_20 := Lib.hid (Vc_19.out.below hB)
              have Vx_20 := Lib.hid (Vx_19.out.below hB)
              have Vy_20 := Lib.hid (Vy_19.out.below hB)
              have Vg_20 := Lib.hid (Vg_19.out.below hB)
              have Vo_20 := Lib.hid (Vo_19.out.below hB)
              have Vu_20 := Lib.hid (Vu_19.out.below hB)
              have Vv_20 := Lib.hid (Vv_19.out.below hB)
              have HW20 := Lib.hid (Below.up HW19.out hB)
              clear HW19 Vc_19 Vx_19 Vy_19 Vg_19 Vo_19 Vu_19 Vv_19
              clear hB
              obtain ⟨ov0, ov1, ov2, _⟩ := Vv_20.out
              go_wp2_with fail
              clear ov0 ov1 ov2
              refine (sign_is _ k13 _ 0 _ Vv_20.out.2.2.2 (by omega) (ord_eq HO3.out)).mono ?_
              rintro e w21 ⟨rfl, hB⟩
              have Vc_21 := Lib.hid (Vc_20.out.below hB)
              have Vx_21 := Lib.hid (Vx_20.out.below hB)
              have Vy_21 := Lib.hid (Vy_20.out.below hB)
              have Vg_21 := Lib.hid (Vg_20.out.below hB)
              have Vo_21 := Lib.hid (Vo_20.out.below hB)
              have Vu_21 := Lib.hid (Vu_20.out.below hB)
              have Vv_21 := Lib.hid (Vv_20.out.below hB)
              have HW21 := Lib.hid (Below.up HW20.out hB)
              clear HW20 Vc_20 Vx_20 Vy_20 Vg_20 Vo_20 Vu_20 Vv_20
              clear hB
              go_wp2_with fail
              go_ret
              exact ⟨rfl, HW21.out⟩
end Go.Proofs.YtpmidkhdcabieaaDoor
