/- Plus, Minus, Quotient, Signum, same, of ratios of any length; the values of ratios. -/
import Derived.Test.YtpkjpepnjlcgoaaDoorEzO
set_option linter.unusedVariables false
set_option linter.unusedSimpArgs false
namespace Go.Proofs.YtpkjpepnjlcgoaaDoor
open Go.RowKit

theorem combined_Add (u v : Value) (n m n2 m2 : Nat) (p q p2 q2 : Int) (w : World) (hT : Tab w) (hu : AR w u n m p q) (hv : AR w v n2 m2 p2 q2) (hn : n ≤ 300) (hm : m ≤ 300) (hn2 : n2 ≤ 300) (hm2 : m2 ≤ 300) (h1 : n < 40 ∨ m2 < 38) (h2 : n2 < 40 ∨ m < 38) (h3 : m < 40 ∨ m2 < 40) :
    Calls Tryd.prog 47 #[u, v, .func (.func 49) #[] #[]] w (QP w (tP p q * tQ q2 + tP p2 q2 * tQ q) (tQ q * tQ q2) (max (n + max m2 2) (n2 + max m 2) + 1) (max m 2 + max m2 2)) := by
  obtain ⟨gr, ar, cr, gs, as', cs, rfl⟩ := hu.form
  obtain ⟨gr2, ar2, cr2, gs2, as2, cs2, rfl⟩ := hv.form
  by_cases he : tQ q = tQ q2
  · exact Add_same gr gs gr2 gs2 ar as' ar2 as2 n m n2 m2 cr cs cr2 cs2 p q p2 q2 w hT hu hv hn hm hn2 hm2 h1 h2 h3 he
  · exact Add_part gr gs gr2 gs2 ar as' ar2 as2 n m n2 m2 cr cs cr2 cs2 p q p2 q2 w hT hu hv hn hm hn2 hm2 h1 h2 h3 he
set_option maxRecDepth 100000 in
set_option maxHeartbeats 1600000 in
theorem Plus_any (u v : Value) (n m n2 m2 : Nat) (p q p2 q2 : Int) (w : World) (hT : Tab w) (hu : AR w u n m p q) (hv : AR w v n2 m2 p2 q2) (hn : n ≤ 300) (hm : m ≤ 300) (hn2 : n2 ≤ 300) (hm2 : m2 ≤ 300) (h1 : n < 40 ∨ m2 < 38) (h2 : n2 < 40 ∨ m < 38) (h3 : m < 40 ∨ m2 < 40) :
    Calls Tryd.prog 22 #[u, v] w (QP w (tP p q * tQ q2 + tP p2 q2 * tQ q) (tQ q * tQ q2) (max (n + max m2 2) (n2 + max m 2) + 1) (max m 2 + max m2 2)) := by
  obtain ⟨gr, ar, cr, gs, as', cs, rfl⟩ := hu.form
  obtain ⟨gr2, ar2, cr2, gs2, as2, cs2, rfl⟩ := hv.form
  have HU := Lib.hid hu
  have HV := Lib.hid hv
  have HT := Lib.hid hT
  clear hu hv hT
  go_enter Tryd.func22, Tryd.ntmps22
  go_wp2_with fail
  refine (combined_Add _ _ n m n2 m2 p q p2 q2 _ (HT.out.up (by repeat (first | exact Below.refl _ _ | exact Nat.le_refl _ | (apply Below.alloc) | (refine Below.setCell ?_ (by first | exact Nat.le_refl _ | (simp <;> omega)) _) | (simp <;> omega)))) (HU.out.below (by repeat (first | exact Below.refl _ _ | exact Nat.le_refl _ | (apply Below.alloc) | (refine Below.setCell ?_ (by first | exact Nat.le_refl _ | (simp <;> omega)) _) | (simp <;> omega)))) (HV.out.below (by repeat (first | exact Below.refl _ _ | exact Nat.le_refl _ | (apply Below.alloc) | (refine Below.setCell ?_ (by first | exact Nat.le_refl _ | (simp <;> omega)) _) | (simp <;> omega)))) hn hm hn2 hm2 h1 h2 h3).mono ?_
  rintro e w1 ⟨r, k, j, P, Q, rfl, hR, hQ, hF, hk, hj, hB⟩
  obtain ⟨g, a, c, g', a', c', rfl⟩ := hR.form
  obtain ⟨hcc, hff⟩ := bcell hB
  have c0 : w1.cell? ⟨w.heap.size + 1 + 1, 0, none⟩ = some (.bool false) := by rw [hcc _ _ (by simp <;> omega)]; simp [go_sem]
  have c1 : w1.cell? ⟨w.heap.size + 1 + 1, 1, none⟩ = some (.slice none 0 0) := by rw [hcc _ _ (by simp <;> omega)]; simp [go_sem]
  have c2 : w1.cell? ⟨w.heap.size + 1 + 1, 2, none⟩ = some (.bool false) := by rw [hcc _ _ (by simp <;> omega)]; simp [go_sem]
  have c3 : w1.cell? ⟨w.heap.size + 1 + 1, 3, none⟩ = some (.slice none 0 0) := by rw [hcc _ _ (by simp <;> omega)]; simp [go_sem]
  have f0 : w1.frozen? ⟨w.heap.size + 1 + 1, 0, none⟩ = false := by rw [hff _ _ (by simp <;> omega)]; simp [go_sem]
  have f1 : w1.frozen? ⟨w.heap.size + 1 + 1, 1, none⟩ = false := by rw [hff _ _ (by simp <;> omega)]; simp [go_sem]
  have f2 : w1.frozen? ⟨w.heap.size + 1 + 1, 2, none⟩ = false := by rw [hff _ _ (by simp <;> omega)]; simp [go_sem]
  have f3 : w1.frozen? ⟨w.heap.size + 1 + 1, 3, none⟩ = false := by rw [hff _ _ (by simp <;> omega)]; simp [go_sem]
  have HR := Lib.hid hR
  have HF := Lib.hid hF
  have HB := Lib.hid hB
  clear hcc hff hR hF hB
  go_wp2_with fail
  obtain ⟨e1, e2⟩ := fin_RR (w := w) (t := w.heap.size + 1 + 1) HR.out (by simp) (by omega) (by simp <;> omega) (Below.up (u := w) (by repeat (first | exact Below.refl _ _ | exact Nat.le_refl _ | (apply Below.alloc) | (refine Below.setCell ?_ (by first | exact Nat.le_refl _ | (simp <;> omega)) _) | (simp <;> omega))) HB.out) (.bool g) (.slice a k c) (.bool g') (.slice a' j c')
  exact bodyPost_ret (v := .agg #[.bool g, .slice a k c, .bool g', .slice a' j c']) (by simp [results, Tryd.results22, go_sem, c0, c1, c2, c3]) rfl ⟨_, k, j, P, Q, rfl, e1, hQ, HF.out, hk, hj, e2⟩

theorem combined_Sub (u v : Value) (n m n2 m2 : Nat) (p q p2 q2 : Int) (w : World) (hT : Tab w) (hu : AR w u n m p q) (hv : AR w v n2 m2 p2 q2) (hn : n ≤ 300) (hm : m ≤ 300) (hn2 : n2 ≤ 300) (hm2 : m2 ≤ 300) (h1 : n < 40 ∨ m2 < 38) (h2 : n2 < 40 ∨ m < 38) (h3 : m < 40 ∨ m2 < 40) :
    Calls Tryd.prog 47 #[u, v, .func (.func 48) #[] #[]] w (QP w (tP p q * tQ q2 - tP p2 q2 * tQ q) (tQ q * tQ q2) (max (n + max m2 2) (n2 + max m 2) + 1) (max m 2 + max m2 2)) := by
  obtain ⟨gr, ar, cr, gs, as', cs, rfl⟩ := hu.form
  obtain ⟨gr2, ar2, cr2, gs2, as2, cs2, rfl⟩ := hv.form
  by_cases he : tQ q = tQ q2
  · exact Sub_same gr gs gr2 gs2 ar as' ar2 as2 n m n2 m2 cr cs cr2 cs2 p q p2 q2 w hT hu hv hn hm hn2 hm2 h1 h2 h3 he
  · exact Sub_part gr gs gr2 gs2 ar as' ar2 as2 n m n2 m2 cr cs cr2 cs2 p q p2 q2 w hT hu hv hn hm hn2 hm2 h1 h2 h3 he
set_option maxRecDepth 100000 in
set_option maxHeartbeats 1600000 in
theorem Minus_any (u v : Value) (n m n2 m2 : Nat) (p q p2 q2 : Int) (w : World) (hT : Tab w) (hu : AR w u n m p q) (hv : AR w v n2 m2 p2 q2) (hn : n ≤ 300) (hm : m ≤ 300) (hn2 : n2 ≤ 300) (hm2 : m2 ≤ 300) (h1 : n < 40 ∨ m2 < 38) (h2 : n2 < 40 ∨ m < 38) (h3 : m < 40 ∨ m2 < 40) :
    Calls Tryd.prog 21 #[u, v] w (QP w (tP p q * tQ q2 - tP p2 q2 * tQ q) (tQ q * tQ q2) (max (n + max m2 2) (n2 + max m 2) + 1) (max m 2 + max m2 2)) := by
  obtain ⟨gr, ar, cr, gs, as', cs, rfl⟩ := hu.form
  obtain ⟨gr2, ar2, cr2, gs2, as2, cs2, rfl⟩ := hv.form
  have HU := Lib.hid hu
  have HV := Lib.hid hv
  have HT := Lib.hid hT
  clear hu hv hT
  go_enter Tryd.func21, Tryd.ntmps21
  go_wp2_with fail
  refine (combined_Sub _ _ n m n2 m2 p q p2 q2 _ (HT.out.up (by repeat (first | exact Below.refl _ _ | exact Nat.le_refl _ | (apply Below.alloc) | (refine Below.setCell ?_ (by first | exact Nat.le_refl _ | (simp <;> omega)) _) | (simp <;> omega)))) (HU.out.below (by repeat (first | exact Below.refl _ _ | exact Nat.le_refl _ | (apply Below.alloc) | (refine Below.setCell ?_ (by first | exact Nat.le_refl _ | (simp <;> omega)) _) | (simp <;> omega)))) (HV.out.below (by repeat (first | exact Below.refl _ _ | exact Nat.le_refl _ | (apply Below.alloc) | (refine Below.setCell ?_ (by first | exact Nat.le_refl _ | (simp <;> omega)) _) | (simp <;> omega)))) hn hm hn2 hm2 h1 h2 h3).mono ?_
  rintro e w1 ⟨r, k, j, P, Q, rfl, hR, hQ, hF, hk, hj, hB⟩
  obtain ⟨g, a, c, g', a', c', rfl⟩ := hR.form
  obtain ⟨hcc, hff⟩ := bcell hB
  have c0 : w1.cell? ⟨w.heap.size + 1 + 1, 0, none⟩ = some (.bool false) := by rw [hcc _ _ (by simp <;> omega)]; simp [go_sem]
  have c1 : w1.cell? ⟨w.heap.size + 1 + 1, 1, none⟩ = some (.slice none 0 0) := by rw [hcc _ _ (by simp <;> omega)]; simp [go_sem]
  have c2 : w1.cell? ⟨w.heap.size + 1 + 1, 2, none⟩ = some (.bool false) := by rw [hcc _ _ (by simp <;> omega)]; simp [go_sem]
  have c3 : w1.cell? ⟨w.heap.size + 1 + 1, 3, none⟩ = some (.slice none 0 0) := by rw [hcc _ _ (by simp <;> omega)]; simp [go_sem]
  have f0 : w1.frozen? ⟨w.heap.size + 1 + 1, 0, none⟩ = false := by rw [hff _ _ (by simp <;> omega)]; simp [go_sem]
  have f1 : w1.frozen? ⟨w.heap.size + 1 + 1, 1, none⟩ = false := by rw [hff _ _ (by simp <;> omega)]; simp [go_sem]
  have f2 : w1.frozen? ⟨w.heap.size + 1 + 1, 2, none⟩ = false := by rw [hff _ _ (by simp <;> omega)]; simp [go_sem]
  have f3 : w1.frozen? ⟨w.heap.size + 1 + 1, 3, none⟩ = false := by rw [hff _ _ (by simp <;> omega)]; simp [go_sem]
  have HR := Lib.hid hR
  have HF := Lib.hid hF
  have HB := Lib.hid hB
  clear hcc hff hR hF hB
  go_wp2_with fail
  obtain ⟨e1, e2⟩ := fin_RR (w := w) (t := w.heap.size + 1 + 1) HR.out (by simp) (by omega) (by simp <;> omega) (Below.up (u := w) (by repeat (first | exact Below.refl _ _ | exact Nat.le_refl _ | (apply Below.alloc) | (refine Below.setCell ?_ (by first | exact Nat.le_refl _ | (simp <;> omega)) _) | (simp <;> omega))) HB.out) (.bool g) (.slice a k c) (.bool g') (.slice a' j c')
  exact bodyPost_ret (v := .agg #[.bool g, .slice a k c, .bool g', .slice a' j c']) (by simp [results, Tryd.results21, go_sem, c0, c1, c2, c3]) rfl ⟨_, k, j, P, Q, rfl, e1, hQ, HF.out, hk, hj, e2⟩

theorem Times_any (u v : Value) (n m n2 m2 : Nat) (p q p2 q2 : Int) (w : World) (hT : Tab w) (hu : AR w u n m p q) (hv : AR w v n2 m2 p2 q2) (hn : n ≤ 300) (hm : m ≤ 300) (hn2 : n2 ≤ 300) (hm2 : m2 ≤ 300) (h1 : n < 40 ∨ n2 < 40) (h2 : m < 40 ∨ m2 < 40) :
    Calls Tryd.prog 27 #[u, v] w (QP w ((tP p q) * (tP p2 q2)) ((tQ q) * (tQ q2)) (n + n2) (max m 2 + max m2 2)) := by
  obtain ⟨gr, ar, cr, gs, as', cs, rfl⟩ := hu.form
  obtain ⟨gr2, ar2, cr2, gs2, as2, cs2, rfl⟩ := hv.form
  exact Times_cells gr gs gr2 gs2 ar as' ar2 as2 n m n2 m2 cr cs cr2 cs2 p q p2 q2 w hT hu hv hn hm hn2 hm2 h1 h2
theorem Compare_any (u v : Value) (n m n2 m2 : Nat) (p q p2 q2 : Int) (w : World) (hu : AR w u n m p q) (hv : AR w v n2 m2 p2 q2) (hn : n ≤ 300) (hm : m ≤ 300) (hn2 : n2 ≤ 300) (hm2 : m2 ≤ 300) (h1 : n < 40 ∨ (m2 < 38)) (h2 : n2 < 40 ∨ m < 38) :
    Calls Tryd.prog 23 #[u, v] w fun e w' => e = .returned (.int .i64 (ord ((tP p q) * (tQ q2)) ((tP p2 q2) * (tQ q)))) ∧ Below w.heap.size w w' := by
  obtain ⟨gr, ar, cr, gs, as', cs, rfl⟩ := hu.form
  obtain ⟨gr2, ar2, cr2, gs2, as2, cs2, rfl⟩ := hv.form
  exact Compare_cells gr gs gr2 gs2 ar as' ar2 as2 n m n2 m2 cr cs cr2 cs2 p q p2 q2 w hu hv hn hm hn2 hm2 h1 h2

/-! ### Values -/
/-- A ratio of the value X / Y. -/
def VR (w : World) (v : Value) (n m : Nat) (X Y : Int) : Prop := ∃ p q, AR w v n m p q ∧ 0 < Y ∧ tP p q * Y = X * tQ q
theorem AR.vr {w : World} {v : Value} {n m : Nat} {p q : Int} (h : AR w v n m p q) : VR w v n m (tP p q) (tQ q) := ⟨p, q, h, tQ_pos q, rfl⟩
theorem VR.below {w w' : World} {v : Value} {n m : Nat} {X Y : Int} (h : VR w v n m X Y) (k : Below w.heap.size w w') : VR w' v n m X Y := by
  obtain ⟨p, q, h1, h2, h3⟩ := h
  exact ⟨p, q, h1.below k, h2, h3⟩
theorem VR.form {w : World} {v : Value} {n m : Nat} {X Y : Int} (h : VR w v n m X Y) : ∃ g a c g' a' c', v = .agg #[.bool g, .slice a n c, .bool g', .slice a' m c'] := by
  obtain ⟨p, q, h1, h2, h3⟩ := h
  exact h1.form
theorem tP_of {P Q : Int} (h : 0 < Q) : tP P Q = P := by unfold tP; rw [if_neg (by omega), if_neg (by omega)]
theorem tQ_of {Q : Int} (h : 0 < Q) : tQ Q = Q := by unfold tQ; rw [if_neg (by omega), if_neg (by omega)]
/-- A ratio of the value X / Y is returned. -/
def Vi (w : World) (X Y : Int) (n m : Nat) (e : Ending) (w' : World) : Prop := ∃ r k j, e = .returned r ∧ VR w' r k j X Y ∧ k ≤ n ∧ j ≤ m ∧ Below w.heap.size w w'
theorem cancel_pos {a b c : Int} (hc : 0 < c) (h : a * c = b * c) : a = b := Int.eq_of_mul_eq_mul_right (by omega) h
theorem QP.vi {w : World} {x y X Y : Int} {n m : Nat} {e : Ending} {w' : World} (h : QP w x y n m e w') (hy : 0 < y) (hY : 0 < Y) (hxy : x * Y = X * y) : Vi w X Y n m e w' := by
  obtain ⟨r, k, j, P, Q, h1, h2, h3, h4, h5, h6, h7⟩ := h
  refine ⟨r, k, j, h1, ⟨P, Q, h2.ar, hY, ?_⟩, h5, h6, h7⟩
  rw [tP_of h3, tQ_of h3]
  apply cancel_pos hy
  have e1 : P * Y * y = P * y * Y := by grind
  have e2 : X * Q * y = X * y * Q := by grind
  rw [e1, e2, h4, ← hxy]
  grind
theorem plus_vr (u v : Value) (n m n2 m2 : Nat) (X Y X2 Y2 : Int) (w : World) (hT : Tab w) (hu : VR w u n m X Y) (hv : VR w v n2 m2 X2 Y2) (hn : n ≤ 39) (hm : m ≤ 37) (hn2 : n2 ≤ 39) (hm2 : m2 ≤ 37) :
    Calls Tryd.prog 22 #[u, v] w (Vi w (X * Y2 + X2 * Y) (Y * Y2) (max (n + max m2 2) (n2 + max m 2) + 1) (max m 2 + max m2 2)) := by
  obtain ⟨p, q, h1, h2, h3⟩ := hu
  obtain ⟨p2, q2, g1, g2, g3⟩ := hv
  refine (Plus_any u v n m n2 m2 p q p2 q2 w hT h1 g1 (by omega) (by omega) (by omega) (by omega) (by omega) (by omega) (by omega)).mono fun e w' h => h.vi (Int.mul_pos (tQ_pos q) (tQ_pos q2)) (Int.mul_pos h2 g2) ?_
  have e1 : (tP p q * tQ q2 + tP p2 q2 * tQ q) * (Y * Y2) = (tP p q * Y) * (tQ q2 * Y2) + (tP p2 q2 * Y2) * (tQ q * Y) := by grind
  rw [e1, h3, g3]; grind
theorem minus_vr (u v : Value) (n m n2 m2 : Nat) (X Y X2 Y2 : Int) (w : World) (hT : Tab w) (hu : VR w u n m X Y) (hv : VR w v n2 m2 X2 Y2) (hn : n ≤ 39) (hm : m ≤ 37) (hn2 : n2 ≤ 39) (hm2 : m2 ≤ 37) :
    Calls Tryd.prog 21 #[u, v] w (Vi w (X * Y2 - X2 * Y) (Y * Y2) (max (n + max m2 2) (n2 + max m 2) + 1) (max m 2 + max m2 2)) := by
  obtain ⟨p, q, h1, h2, h3⟩ := hu
  obtain ⟨p2, q2, g1, g2, g3⟩ := hv
  refine (Minus_any u v n m n2 m2 p q p2 q2 w hT h1 g1 (by omega) (by omega) (by omega) (by omega) (by omega) (by omega) (by omega)).mono fun e w' h => h.vi (Int.mul_pos (tQ_pos q) (tQ_pos q2)) (Int.mul_pos h2 g2) ?_
  have e1 : (tP p q * tQ q2 - tP p2 q2 * tQ q) * (Y * Y2) = (tP p q * Y) * (tQ q2 * Y2) - (tP p2 q2 * Y2) * (tQ q * Y) := by grind
  rw [e1, h3, g3]; grind
theorem times_vr (u v : Value) (n m n2 m2 : Nat) (X Y X2 Y2 : Int) (w : World) (hT : Tab w) (hu : VR w u n m X Y) (hv : VR w v n2 m2 X2 Y2) (hn : n ≤ 300) (hm : m ≤ 300) (hn2 : n2 ≤ 39) (hm2 : m2 ≤ 39) :
    Calls Tryd.prog 27 #[u, v] w (Vi w (X * X2) (Y * Y2) (n + n2) (max m 2 + max m2 2)) := by
  obtain ⟨p, q, h1, h2, h3⟩ := hu
  obtain ⟨p2, q2, g1, g2, g3⟩ := hv
  refine (Times_any u v n m n2 m2 p q p2 q2 w hT h1 g1 (by omega) (by omega) (by omega) (by omega) (by omega) (by omega)).mono fun e w' h => h.vi (Int.mul_pos (tQ_pos q) (tQ_pos q2)) (Int.mul_pos h2 g2) ?_
  have e1 : tP p q * tP p2 q2 * (Y * Y2) = (tP p q * Y) * (tP p2 q2 * Y2) := by grind
  rw [e1, h3, g3]; grind
theorem ord_scale {a b c d s t : Int} (hs : 0 < s) (ht : 0 < t) (h1 : a * s = c * t) (h2 : b * s = d * t) : ord a b = ord c d := by
  rcases Int.lt_trichotomy a b with g | g | g
  · have k := Int.mul_lt_mul_of_pos_right g hs
    rw [h1, h2] at k
    rw [ord_lt g, ord_lt (Int.lt_of_mul_lt_mul_right k (by omega))]
  · subst g
    rw [h1] at h2
    rw [ord_eq rfl, ord_eq (cancel_pos ht h2)]
  · have k := Int.mul_lt_mul_of_pos_right g hs
    rw [h1, h2] at k
    rw [ord_gt g, ord_gt (Int.lt_of_mul_lt_mul_right k (by omega))]
theorem compare_vr (u v : Value) (n m n2 m2 : Nat) (X Y X2 Y2 o : Int) (w : World) (hu : VR w u n m X Y) (hv : VR w v n2 m2 X2 Y2) (hn : n ≤ 300) (hm : m ≤ 37) (hn2 : n2 ≤ 300) (hm2 : m2 ≤ 37) (ho : ord (X * Y2) (X2 * Y) = o) :
    Calls Tryd.prog 23 #[u, v] w fun e w' => e = .returned (.int .i64 o) ∧ Below w.heap.size w w' := by
  obtain ⟨p, q, h1, h2, h3⟩ := hu
  obtain ⟨p2, q2, g1, g2, g3⟩ := hv
  subst ho
  have e := ord_scale (a := tP p q * tQ q2) (b := tP p2 q2 * tQ q) (c := X * Y2) (d := X2 * Y) (Int.mul_pos h2 g2) (Int.mul_pos (tQ_pos q) (tQ_pos q2))
    (by have e1 : tP p q * tQ q2 * (Y * Y2) = (tP p q * Y) * (tQ q2 * Y2) := by grind
        rw [e1, h3]; grind)
    (by have e1 : tP p2 q2 * tQ q * (Y * Y2) = (tP p2 q2 * Y2) * (tQ q * Y) := by grind
        rw [e1, g3]; grind)
  rw [← e]
  exact Compare_any u v n m n2 m2 p q p2 q2 w h1 g1 (by omega) (by omega) (by omega) (by omega) (by omega) (by omega)
set_option maxHeartbeats 800000 in
theorem same_vr (u v : Value) (n m n2 m2 : Nat) (X Y X2 Y2 : Int) (w : World) (hu : VR w u n m X Y) (hv : VR w v n2 m2 X2 Y2) (hn : n ≤ 300) (hm : m ≤ 37) (hn2 : n2 ≤ 300) (hm2 : m2 ≤ 37) (he : X * Y2 = X2 * Y) :
    Calls Tryd.prog 14 #[u, v] w fun e w' => e = .returned (.bool true) ∧ Below w.heap.size w w' := by
  obtain ⟨g, a, c, g', a', c', rfl⟩ := hu.form
  obtain ⟨h, b, d, h', b', d', rfl⟩ := hv.form
  have HU := Lib.hid hu
  have HV := Lib.hid hv
  have HO := Lib.hid (ord_eq he)
  clear hu hv he
  go_enter Tryd.func14, Tryd.ntmps14
  go_wp2_with fail
  refine (compare_vr _ _ n m n2 m2 X Y X2 Y2 0 _ (HU.out.below (by repeat (first | exact Below.refl _ _ | exact Nat.le_refl _ | (apply Below.alloc) | (refine Below.setCell ?_ (by first | exact Nat.le_refl _ | (simp <;> omega)) _) | (simp <;> omega)))) (HV.out.below (by repeat (first | exact Below.refl _ _ | exact Nat.le_refl _ | (apply Below.alloc) | (refine Below.setCell ?_ (by first | exact Nat.le_refl _ | (simp <;> omega)) _) | (simp <;> omega)))) hn hm hn2 hm2 HO.out).mono ?_
  rintro e w1 ⟨rfl, hB⟩
  have HB := Lib.hid (Below.up (u := w) (by repeat (first | exact Below.refl _ _ | exact Nat.le_refl _ | (apply Below.alloc) | (refine Below.setCell ?_ (by first | exact Nat.le_refl _ | (simp <;> omega)) _) | (simp <;> omega))) hB)
  clear hB
  go_wp2_with fail
  go_ret
  exact ⟨rfl, HB.out⟩
end Go.Proofs.YtpkjpepnjlcgoaaDoor
