/- Times, of ratios of any length. -/
import Derived.Test.YtpkjpepnjlcgoaaDoorEzM
set_option linter.unusedVariables false
set_option linter.unusedSimpArgs false
namespace Go.Proofs.YtpkjpepnjlcgoaaDoor
open Go.RowKit

/-- A variable of a struct of four fields, of whatever it holds. -/
def Box4 (w : World) (b : Nat) : Prop := ∃ g a n c g' a' n' c', w.heap[b]? = some (.cells #[.bool g, .slice a n c, .bool g', .slice a' n' c'] 26 (0, 0))
theorem Box4.lt {w : World} {b : Nat} (h : Box4 w b) : b < w.heap.size := by
  obtain ⟨g, a, n, c, g', a', n', c', e⟩ := h
  exact (Array.getElem?_eq_some_iff.1 e).1
theorem Box4.below {w w' : World} {b : Nat} (h : Box4 w b) (k : Below w.heap.size w w') : Box4 w' b := by
  have hl := h.lt
  obtain ⟨g, a, n, c, g', a', n', c', e⟩ := h
  exact ⟨g, a, n, c, g', a', n', c', (k.block b hl).trans e⟩
theorem Box4.new' {w : World} {b : Nat} (hb : w.heap.size = b) {g : Bool} {a : Option Addr} {n c : Nat} {g' : Bool} {a' : Option Addr} {n' c' : Nat} : Box4 (w.alloc (.cells #[.bool g, .slice a n c, .bool g', .slice a' n' c'] 26)) b := by
  subst hb
  exact ⟨g, a, n, c, g', a', n', c', World.alloc_heap_new w _⟩
theorem Box4.open {w : World} {b : Nat} (h : Box4 w b) : ∃ u0 u1 u2 u3, w.cell? ⟨b, 0, none⟩ = some u0 ∧ w.cell? ⟨b, 1, none⟩ = some u1 ∧ w.cell? ⟨b, 2, none⟩ = some u2 ∧ w.cell? ⟨b, 3, none⟩ = some u3 ∧
    w.frozen? ⟨b, 0, none⟩ = false ∧ w.frozen? ⟨b, 1, none⟩ = false ∧ w.frozen? ⟨b, 2, none⟩ = false ∧ w.frozen? ⟨b, 3, none⟩ = false := by
  obtain ⟨g, a, n, c, g', a', n', c', e⟩ := h
  exact ⟨.bool g, .slice a n c, .bool g', .slice a' n' c', by unfold World.cell?; rw [e]; rfl, by unfold World.cell?; rw [e]; rfl, by unfold World.cell?; rw [e]; rfl, by unfold World.cell?; rw [e]; rfl,
    by simp [World.frozen?, e], by simp [World.frozen?, e], by simp [World.frozen?, e], by simp [World.frozen?, e]⟩
/-- The library's table, in any world that follows. -/
def TB (w : World) : Prop := Tab w
theorem TB.of {w w' : World} (h : Tab w) (k : Below w.heap.size w w') : TB w' := h.up k
theorem TB.below {w w' : World} (h : TB w) (k : Below w.heap.size w w') : TB w' := Tab.up h k
theorem TB.tab {w w' : World} (h : TB w) (k : Below w.heap.size w w') : Tab w' := Tab.up h k

/-- A ratio of the value X / Y is returned. -/
def QP (w : World) (X Y : Int) (n m : Nat) (e : Ending) (w' : World) : Prop :=
  ∃ r k j P Q, e = .returned r ∧ RR w' w.heap.size r k j P Q ∧ 0 < Q ∧ P * Y = X * Q ∧ k ≤ n ∧ j ≤ m ∧ Below w.heap.size w w'
theorem low_gi (u v : Value) (n m : Nat) (p q : Int) (w : World) (hT : Tab w) (hu : AI w u n p) (hv : AI w v m q) (hn : n ≤ 1000) (hm : m ≤ 1000) (hq : 0 < q) :
    Calls Tryd.prog 42 #[u, v] w fun e w' => ∃ g a c g' a' c' k j P Q, e = .returned (.agg #[.bool g, .slice a k c, .bool g', .slice a' j c']) ∧
      RR w' w.heap.size (.agg #[.bool g, .slice a k c, .bool g', .slice a' j c']) k j P Q ∧ (0 < Q ∧ P * q = p * Q) ∧ k ≤ n ∧ j ≤ m ∧ Below w.heap.size w w' := by
  refine (lowest_any (common_any 1000 (by omega)) (divide_any 1000 (by omega)) u v n m p q w hT hu hv hn hm (by omega) hq).mono ?_
  rintro e w' ⟨r, k, j, rfl, h1, h2, h3, h4⟩
  obtain ⟨g, a, c, g', a', c', rfl⟩ := h1.form
  refine ⟨g, a, c, g', a', c', k, j, _, _, rfl, h1, ?_, h2, h3, h4⟩
  have hg : 0 < (Int.gcd p q : Int) := by have := Int.gcd_pos_of_ne_zero_right p (show q ≠ 0 by omega); omega
  obtain ⟨s, hs⟩ := Int.gcd_dvd_left (a := p) (b := q)
  obtain ⟨t, ht⟩ := Int.gcd_dvd_right (a := p) (b := q)
  generalize (Int.gcd p q : Int) = G at *
  have e1 : p / G = s := by rw [hs]; exact Int.mul_ediv_cancel_left s (by omega)
  have e2 : q / G = t := by rw [ht]; exact Int.mul_ediv_cancel_left t (by omega)
  rw [e1, e2]
  refine ⟨?_, by rw [hs, ht]; grind⟩
  rw [ht] at hq
  exact Int.pos_of_mul_pos_right hq (by omega)

set_option maxRecDepth 100000 in
set_option maxHeartbeats 6400000 in
theorem Times_cells (gr gs gr2 gs2 : Bool) (ar as' ar2 as2 : Option Addr) (n m n2 m2 cr cs cr2 cs2 : Nat) (p q p2 q2 : Int) (w : World) (hT : Tab w) (hu : AR w (.agg #[.bool gr, .slice ar n cr, .bool gs, .slice as' m cs]) n m p q) (hv : AR w (.agg #[.bool gr2, .slice ar2 n2 cr2, .bool gs2, .slice as2 m2 cs2]) n2 m2 p2 q2) (hn : n ≤ 300) (hm : m ≤ 300) (hn2 : n2 ≤ 300) (hm2 : m2 ≤ 300) (h1 : n < 40 ∨ n2 < 40) (h2 : m < 40 ∨ m2 < 40) :
    Calls Tryd.prog 27 #[.agg #[.bool gr, .slice ar n cr, .bool gs, .slice as' m cs], .agg #[.bool gr2, .slice ar2 n2 cr2, .bool gs2, .slice as2 m2 cs2]] w (QP w ((tP p q) * (tP p2 q2)) ((tQ q) * (tQ q2)) (n + n2) (max m 2 + max m2 2)) := by
  have HW0 := Lib.hid (show Below w.heap.size w (((w.alloc (.cells #[.bool gr, .slice ar n cr, .bool gs, .slice as' m cs] 26)).alloc (.cells #[.bool gr2, .slice ar2 n2 cr2, .bool gs2, .slice as2 m2 cs2] 26)).alloc (.cells #[.bool false, .slice none 0 0, .bool false, .slice none 0 0] 26)) from (by repeat (first | exact Below.refl _ _ | exact Nat.le_refl _ | (apply Below.alloc) | (refine Below.setCell ?_ (by first | exact Nat.le_refl _ | (simp <;> omega)) _) | (simp <;> omega))))
  have Vr_0 := Lib.hid (show RV (((w.alloc (.cells #[.bool gr, .slice ar n cr, .bool gs, .slice as' m cs] 26)).alloc (.cells #[.bool gr2, .slice ar2 n2 cr2, .bool gs2, .slice as2 m2 cs2] 26)).alloc (.cells #[.bool false, .slice none 0 0, .bool false, .slice none 0 0] 26)) w.heap.size gr ar n cr gs as' m cs p q from (RV.new hu).below (by repeat (first | exact Below.refl _ _ | exact Nat.le_refl _ | (apply Below.alloc) | (refine Below.setCell ?_ (by first | exact Nat.le_refl _ | (simp <;> omega)) _) | (simp <;> omega))))
  have Vs_0 := Lib.hid (show RV (((w.alloc (.cells #[.bool gr, .slice ar n cr, .bool gs, .slice as' m cs] 26)).alloc (.cells #[.bool gr2, .slice ar2 n2 cr2, .bool gs2, .slice as2 m2 cs2] 26)).alloc (.cells #[.bool false, .slice none 0 0, .bool false, .slice none 0 0] 26)) (w.heap.size + 1) gr2 ar2 n2 cr2 gs2 as2 m2 cs2 p2 q2 from (RV.new' (hv.below ((Below.refl _ _).alloc (Nat.le_refl _) _)) (by simp)).below (by repeat (first | exact Below.refl _ _ | exact Nat.le_refl _ | (apply Below.alloc) | (refine Below.setCell ?_ (by first | exact Nat.le_refl _ | (simp <;> omega)) _) | (simp <;> omega))))
  have VX_0 := Lib.hid (Box4.new' (w := (w.alloc (.cells #[.bool gr, .slice ar n cr, .bool gs, .slice as' m cs] 26)).alloc (.cells #[.bool gr2, .slice ar2 n2 cr2, .bool gs2, .slice as2 m2 cs2] 26)) (b := w.heap.size + 1 + 1) (by simp) (g := false) (a := none) (n := 0) (c := 0) (g' := false) (a' := none) (n' := 0) (c' := 0))
  have VT_0 := Lib.hid (TB.of hT HW0.out)
  clear hT
  clear hu hv
  go_enter Tryd.func27, Tryd.ntmps27
  go_wp2_with fail
  refine calls_at (fun W => Below w.heap.size w W ∧ RV W w.heap.size gr ar n cr gs as' m cs (p) (q) ∧ RV W (w.heap.size + 1) gr2 ar2 n2 cr2 gs2 as2 m2 cs2 (p2) (q2) ∧ Box4 W (w.heap.size + 1 + 1) ∧ TB W) ⟨HW0.out, Vr_0.out, Vs_0.out, VX_0.out, VT_0.out⟩ ?_
  rintro w1 ⟨hB, hr, hs, hx, ht⟩
  clear HW0 Vr_0 Vs_0 VX_0 VT_0
  have HW1 := Lib.hid hB
  have Vr_1 := Lib.hid hr
  have Vs_1 := Lib.hid hs
  have VX_1 := Lib.hid hx
  have VT_1 := Lib.hid ht
  clear hB hr hs hx ht
  refine (terms_gi _ n m p q _ Vr_1.out.2.2.2.2.2 (by omega) (by omega)).mono ?_
  rintro e w2 ⟨g1, x1, y1, g2, x2, y2, k1, k2, rfl, hP, hQ, hk1, hk2, hB⟩
  have Vr_2 := Lib.hid (Vr_1.out.below hB)
  have Vs_2 := Lib.hid (Vs_1.out.below hB)
  have VX_2 := Lib.hid (VX_1.out.below hB)
  have VT_2 := Lib.hid (VT_1.out.below hB)
  have HW2 := Lib.hid (Below.up HW1.out hB)
  have NP := Lib.hid hP
  have NQ := Lib.hid hQ
  clear hP hQ hB HW1 Vr_1 Vs_1 VX_1 VT_1
  have hx2 := VX_2.out.lt
  obtain ⟨os0, os1, os2, os3, os4, _⟩ := (Vs_2.out.below (w' := ((w2.alloc (.cells #[.bool g1, .slice x1 k1 y1] 24)).alloc (.cells #[.bool g2, .slice x2 k2 y2] 24))) (by repeat (first | exact Below.refl _ _ | exact Nat.le_refl _ | (apply Below.alloc) | (refine Below.setCell ?_ (by first | exact Nat.le_refl _ | (simp <;> omega)) _) | (simp <;> omega))))
  go_wp2_with fail
  refine calls_at (fun W => Below w.heap.size w W ∧ RV W w.heap.size gr ar n cr gs as' m cs (p) (q) ∧ RV W (w.heap.size + 1) gr2 ar2 n2 cr2 gs2 as2 m2 cs2 (p2) (q2) ∧ Box4 W (w.heap.size + 1 + 1) ∧ TB W ∧ IV W w2.heap.size g1 x1 k1 y1 (tP p q) ∧ IV W (w2.heap.size + 1) g2 x2 k2 y2 (tQ q)) ⟨Below.up HW2.out (by repeat (first | exact Below.refl _ _ | exact Nat.le_refl _ | (apply Below.alloc) | (refine Below.setCell ?_ (by first | exact Nat.le_refl _ | (simp <;> omega)) _) | (simp <;> omega))), Vr_2.out.below (by repeat (first | exact Below.refl _ _ | exact Nat.le_refl _ | (apply Below.alloc) | (refine Below.setCell ?_ (by first | exact Nat.le_refl _ | (simp <;> omega)) _) | (simp <;> omega))), Vs_2.out.below (by repeat (first | exact Below.refl _ _ | exact Nat.le_refl _ | (apply Below.alloc) | (refine Below.setCell ?_ (by first | exact Nat.le_refl _ | (simp <;> omega)) _) | (simp <;> omega))), VX_2.out.below (by repeat (first | exact Below.refl _ _ | exact Nat.le_refl _ | (apply Below.alloc) | (refine Below.setCell ?_ (by first | exact Nat.le_refl _ | (simp <;> omega)) _) | (simp <;> omega))), VT_2.out.below (by repeat (first | exact Below.refl _ _ | exact Nat.le_refl _ | (apply Below.alloc) | (refine Below.setCell ?_ (by first | exact Nat.le_refl _ | (simp <;> omega)) _) | (simp <;> omega))), (IV.new NP.out).below (by repeat (first | exact Below.refl _ _ | exact Nat.le_refl _ | (apply Below.alloc) | (refine Below.setCell ?_ (by first | exact Nat.le_refl _ | (simp <;> omega)) _) | (simp <;> omega))), IV.new' (NQ.out.below ((Below.refl _ _).alloc (Nat.le_refl _) _)) (by simp)⟩ ?_
  rintro w3 ⟨hB, hr, hs, hX, hT, hi, hj⟩
  have HW3 := Lib.hid hB
  have Vr_3 := Lib.hid hr
  have Vs_3 := Lib.hid hs
  have VX_3 := Lib.hid hX
  have VT_3 := Lib.hid hT
  have Vi_3 := Lib.hid hi
  have Vj_3 := Lib.hid hj
  clear hB hr hs hX hT hi hj HW2 Vr_2 Vs_2 VX_2 VT_2
  clear os0 os1 os2 os3 os4
  clear NP NQ
  refine (terms_gi _ n2 m2 p2 q2 _ Vs_3.out.2.2.2.2.2 (by omega) (by omega)).mono ?_
  rintro e w4 ⟨g3, x3, y3, g4, x4, y4, k3, k4, rfl, hP, hQ, hk3, hk4, hB⟩
  clear Vr_3 Vs_3
  have VX_4 := Lib.hid (VX_3.out.below hB)
  have VT_4 := Lib.hid (VT_3.out.below hB)
  have Vi_4 := Lib.hid (Vi_3.out.below hB)
  have Vj_4 := Lib.hid (Vj_3.out.below hB)
  have HW4 := Lib.hid (Below.up HW3.out hB)
  have NP := Lib.hid hP
  have NQ := Lib.hid hQ
  clear hP hQ hB HW3 VX_3 VT_3 Vi_3 Vj_3
  have hx4 := VX_4.out.lt
  go_wp2_with fail
  refine wp_at (fun W => Below w.heap.size w W ∧ Box4 W (w.heap.size + 1 + 1) ∧ TB W ∧ IV W w2.heap.size g1 x1 k1 y1 (tP p q) ∧ IV W (w2.heap.size + 1) g2 x2 k2 y2 (tQ q) ∧ IV W w4.heap.size g3 x3 k3 y3 (tP p2 q2) ∧ IV W (w4.heap.size + 1) g4 x4 k4 y4 (tQ q2)) ⟨Below.up HW4.out (by repeat (first | exact Below.refl _ _ | exact Nat.le_refl _ | (apply Below.alloc) | (refine Below.setCell ?_ (by first | exact Nat.le_refl _ | (simp <;> omega)) _) | (simp <;> omega))), VX_4.out.below (by repeat (first | exact Below.refl _ _ | exact Nat.le_refl _ | (apply Below.alloc) | (refine Below.setCell ?_ (by first | exact Nat.le_refl _ | (simp <;> omega)) _) | (simp <;> omega))), VT_4.out.below (by repeat (first | exact Below.refl _ _ | exact Nat.le_refl _ | (apply Below.alloc) | (refine Below.setCell ?_ (by first | exact Nat.le_refl _ | (simp <;> omega)) _) | (simp <;> omega))), Vi_4.out.below (by repeat (first | exact Below.refl _ _ | exact Nat.le_refl _ | (apply Below.alloc) | (refine Below.setCell ?_ (by first | exact Nat.le_refl _ | (simp <;> omega)) _) | (simp <;> omega))), Vj_4.out.below (by repeat (first | exact Below.refl _ _ | exact Nat.le_refl _ | (apply Below.alloc) | (refine Below.setCell ?_ (by first | exact Nat.le_refl _ | (simp <;> omega)) _) | (simp <;> omega))), (IV.new NP.out).below (by repeat (first | exact Below.refl _ _ | exact Nat.le_refl _ | (apply Below.alloc) | (refine Below.setCell ?_ (by first | exact Nat.le_refl _ | (simp <;> omega)) _) | (simp <;> omega))), IV.new' (NQ.out.below ((Below.refl _ _).alloc (Nat.le_refl _) _)) (by simp)⟩ ?_
  rintro w5 ⟨hB, hX, hT, hi, hj, hk, hl⟩
  have HW5 := Lib.hid hB
  have VX_5 := Lib.hid hX
  have VT_5 := Lib.hid hT
  have Vi_5 := Lib.hid hi
  have Vj_5 := Lib.hid hj
  have Vk_5 := Lib.hid hk
  have Vl_5 := Lib.hid hl
  clear hB hX hT hi hj hk hl HW4 VX_4 VT_4 Vi_4 Vj_4
  clear NP NQ
  have B3_ := Lib.hid (Below.refl w5.heap.size w5)
  have M3 := Lib.hid (show ∀ w', Below w5.heap.size w5 w' → w'.cell? ⟨w2.heap.size, 0, none⟩ = some (.bool g1) ∧ w'.cell? ⟨w2.heap.size, 1, none⟩ = some (.slice x1 k1 y1) ∧ w'.cell? ⟨w4.heap.size, 0, none⟩ = some (.bool g3) ∧ w'.cell? ⟨w4.heap.size, 1, none⟩ = some (.slice x3 k3 y3) ∧ w'.cell? ⟨(w2.heap.size + 1), 0, none⟩ = some (.bool g2) ∧ w'.cell? ⟨(w2.heap.size + 1), 1, none⟩ = some (.slice x2 k2 y2) ∧ w'.cell? ⟨(w4.heap.size + 1), 0, none⟩ = some (.bool g4) ∧ w'.cell? ⟨(w4.heap.size + 1), 1, none⟩ = some (.slice x4 k4 y4) from fun w' h => ⟨(Vi_5.out.below h).1, (Vi_5.out.below h).2.1, (Vk_5.out.below h).1, (Vk_5.out.below h).2.1, (Vj_5.out.below h).1, (Vj_5.out.below h).2.1, (Vl_5.out.below h).1, (Vl_5.out.below h).2.1⟩)
  obtain ⟨oi0, oi1, oi2, _⟩ := Vi_5.out
  obtain ⟨ok0, ok1, ok2, _⟩ := Vk_5.out
  obtain ⟨oj0, oj1, oj2, _⟩ := Vj_5.out
  obtain ⟨ol0, ol1, ol2, _⟩ := Vl_5.out
  have D3 := Lib.hid (Below.drew B3_.out)
  have MS3 := Lib.hid (show ∀ (w' : World) (i : Nat) (u : Value), (w'.cell? ⟨w2.heap.size, 0, none⟩ = some (.bool g1) ∧ w'.cell? ⟨w2.heap.size, 1, none⟩ = some (.slice x1 k1 y1) ∧ w'.cell? ⟨w4.heap.size, 0, none⟩ = some (.bool g3) ∧ w'.cell? ⟨w4.heap.size, 1, none⟩ = some (.slice x3 k3 y3) ∧ w'.cell? ⟨(w2.heap.size + 1), 0, none⟩ = some (.bool g2) ∧ w'.cell? ⟨(w2.heap.size + 1), 1, none⟩ = some (.slice x2 k2 y2) ∧ w'.cell? ⟨(w4.heap.size + 1), 0, none⟩ = some (.bool g4) ∧ w'.cell? ⟨(w4.heap.size + 1), 1, none⟩ = some (.slice x4 k4 y4)) → (fun w' => w'.cell? ⟨w2.heap.size, 0, none⟩ = some (.bool g1) ∧ w'.cell? ⟨w2.heap.size, 1, none⟩ = some (.slice x1 k1 y1) ∧ w'.cell? ⟨w4.heap.size, 0, none⟩ = some (.bool g3) ∧ w'.cell? ⟨w4.heap.size, 1, none⟩ = some (.slice x3 k3 y3) ∧ w'.cell? ⟨(w2.heap.size + 1), 0, none⟩ = some (.bool g2) ∧ w'.cell? ⟨(w2.heap.size + 1), 1, none⟩ = some (.slice x2 k2 y2) ∧ w'.cell? ⟨(w4.heap.size + 1), 0, none⟩ = some (.bool g4) ∧ w'.cell? ⟨(w4.heap.size + 1), 1, none⟩ = some (.slice x4 k4 y4)) (w'.setCell ⟨w.heap.size + 1 + 1, i, none⟩ u) from fun w' i u h => by
    have K : ∀ b o, w.heap.size + 1 + 1 < b → (w'.setCell ⟨w.heap.size + 1 + 1, i, none⟩ u).cell? ⟨b, o, none⟩ = w'.cell? ⟨b, o, none⟩ := fun b o hb => World.cell?_of_block (Below.heap_setCell _ _ _ _ (by show b ≠ w.heap.size + 1 + 1; omega))
    obtain ⟨q0, q1, q2, q3, q4, q5, q6, q7⟩ := h
    exact ⟨(K _ _ (by omega)).trans q0, (K _ _ (by omega)).trans q1, (K _ _ (by omega)).trans q2, (K _ _ (by omega)).trans q3, (K _ _ (by omega)).trans q4, (K _ _ (by omega)).trans q5, (K _ _ (by omega)).trans q6, (K _ _ (by omega)).trans q7⟩)
  go_region_held3 (fun w' => w'.cell? ⟨w2.heap.size, 0, none⟩ = some (.bool g1) ∧ w'.cell? ⟨w2.heap.size, 1, none⟩ = some (.slice x1 k1 y1) ∧ w'.cell? ⟨w4.heap.size, 0, none⟩ = some (.bool g3) ∧ w'.cell? ⟨w4.heap.size, 1, none⟩ = some (.slice x3 k3 y3) ∧ w'.cell? ⟨(w2.heap.size + 1), 0, none⟩ = some (.bool g2) ∧ w'.cell? ⟨(w2.heap.size + 1), 1, none⟩ = some (.slice x2 k2 y2) ∧ w'.cell? ⟨(w4.heap.size + 1), 0, none⟩ = some (.bool g4) ∧ w'.cell? ⟨(w4.heap.size + 1), 1, none⟩ = some (.slice x4 k4 y4))
    (((repeat (refine MS3.out _ _ _ ?_)); refine M3.out _ ?_; (repeat (first | (with_reducible exact Below.refl _ _) | (with_reducible refine Below.up ?_ HB3_2.out) | (with_reducible refine Below.up ?_ HB3_1.out) | (with_reducible refine Below.up ?_ HB3_0.out) | (with_reducible refine Below.alloc' ?_ _) | (with_reducible refine Below.drew' ?_) | (with_reducible refine Below.set' ?_ (by first | exact Nat.le_refl _ | exact Nat.le_succ _ | exact T3_0.out.size | exact T3_1.out.size | exact T3_2.out.size | exact Nat.le_succ_of_le T3_0.out.size | exact Nat.le_succ_of_le T3_1.out.size | exact Nat.le_succ_of_le T3_2.out.size) _))); done))
    (first
    | (go_at_call 10; have s0 : k1 ≤ 1000 := (by omega); have s1 : k3 ≤ 1000 := (by omega); have s2 : k1 < 40 ∨ k3 < 40 := (by omega); ((with_reducible refine (mul_gf (.agg #[.bool g1, .slice x1 k1 y1]) (.agg #[.bool g3, .slice x3 k3 y3]) k1 k3 (tP p q) (tP p2 q2) _ (Vi_5.out.up (by ((repeat (first | (with_reducible exact Below.refl _ _) | (with_reducible refine Below.up ?_ HB3_2.out) | (with_reducible refine Below.up ?_ HB3_1.out) | (with_reducible refine Below.up ?_ HB3_0.out) | (with_reducible refine Below.alloc' ?_ _) | (with_reducible refine Below.drew' ?_) | (with_reducible refine Below.set' ?_ (by first | exact Nat.le_refl _ | exact Nat.le_succ _ | exact T3_0.out.size | exact T3_1.out.size | exact T3_2.out.size | exact Nat.le_succ_of_le T3_0.out.size | exact Nat.le_succ_of_le T3_1.out.size | exact Nat.le_succ_of_le T3_2.out.size) _))); done))) (Vk_5.out.up (by ((repeat (first | (with_reducible exact Below.refl _ _) | (with_reducible refine Below.up ?_ HB3_2.out) | (with_reducible refine Below.up ?_ HB3_1.out) | (with_reducible refine Below.up ?_ HB3_0.out) | (with_reducible refine Below.alloc' ?_ _) | (with_reducible refine Below.drew' ?_) | (with_reducible refine Below.set' ?_ (by first | exact Nat.le_refl _ | exact Nat.le_succ _ | exact T3_0.out.size | exact T3_1.out.size | exact T3_2.out.size | exact Nat.le_succ_of_le T3_0.out.size | exact Nat.le_succ_of_le T3_1.out.size | exact Nat.le_succ_of_le T3_2.out.size) _))); done))) s0 s1 s2).mono ?_); rintro e w3_0 ⟨g3_0, x3_0, y3_0, k3_0, rfl, hR, hk3_0, hB⟩; have R3_0 := Lib.hid hR; clear hR; have HB3_0 := Lib.hid hB; have T3_0 := Lib.hid (Below.up (u := w5) (by ((repeat (first | (with_reducible exact Below.refl _ _) | (with_reducible refine Below.up ?_ HB3_2.out) | (with_reducible refine Below.up ?_ HB3_1.out) | (with_reducible refine Below.up ?_ HB3_0.out) | (with_reducible refine Below.alloc' ?_ _) | (with_reducible refine Below.drew' ?_) | (with_reducible refine Below.set' ?_ (by first | exact Nat.le_refl _ | exact Nat.le_succ _ | exact T3_0.out.size | exact T3_1.out.size | exact T3_2.out.size | exact Nat.le_succ_of_le T3_0.out.size | exact Nat.le_succ_of_le T3_1.out.size | exact Nat.le_succ_of_le T3_2.out.size) _))); done)) hB); clear hB s0 s1 s2))
    | (go_at_call 10; have s0 : k2 ≤ 1000 := (by omega); have s1 : k4 ≤ 1000 := (by omega); have s2 : k2 < 40 ∨ k4 < 40 := (by omega); ((with_reducible refine (mul_gf (.agg #[.bool g2, .slice x2 k2 y2]) (.agg #[.bool g4, .slice x4 k4 y4]) k2 k4 (tQ q) (tQ q2) _ (Vj_5.out.up (by ((repeat (first | (with_reducible exact Below.refl _ _) | (with_reducible refine Below.up ?_ HB3_2.out) | (with_reducible refine Below.up ?_ HB3_1.out) | (with_reducible refine Below.up ?_ HB3_0.out) | (with_reducible refine Below.alloc' ?_ _) | (with_reducible refine Below.drew' ?_) | (with_reducible refine Below.set' ?_ (by first | exact Nat.le_refl _ | exact Nat.le_succ _ | exact T3_0.out.size | exact T3_1.out.size | exact T3_2.out.size | exact Nat.le_succ_of_le T3_0.out.size | exact Nat.le_succ_of_le T3_1.out.size | exact Nat.le_succ_of_le T3_2.out.size) _))); done))) (Vl_5.out.up (by ((repeat (first | (with_reducible exact Below.refl _ _) | (with_reducible refine Below.up ?_ HB3_2.out) | (with_reducible refine Below.up ?_ HB3_1.out) | (with_reducible refine Below.up ?_ HB3_0.out) | (with_reducible refine Below.alloc' ?_ _) | (with_reducible refine Below.drew' ?_) | (with_reducible refine Below.set' ?_ (by first | exact Nat.le_refl _ | exact Nat.le_succ _ | exact T3_0.out.size | exact T3_1.out.size | exact T3_2.out.size | exact Nat.le_succ_of_le T3_0.out.size | exact Nat.le_succ_of_le T3_1.out.size | exact Nat.le_succ_of_le T3_2.out.size) _))); done))) s0 s1 s2).mono ?_); rintro e w3_1 ⟨g3_1, x3_1, y3_1, k3_1, rfl, hR, hk3_1, hB⟩; have R3_1 := Lib.hid hR; clear hR; have HB3_1 := Lib.hid hB; have T3_1 := Lib.hid (Below.up (u := w5) (by ((repeat (first | (with_reducible exact Below.refl _ _) | (with_reducible refine Below.up ?_ HB3_2.out) | (with_reducible refine Below.up ?_ HB3_1.out) | (with_reducible refine Below.up ?_ HB3_0.out) | (with_reducible refine Below.alloc' ?_ _) | (with_reducible refine Below.drew' ?_) | (with_reducible refine Below.set' ?_ (by first | exact Nat.le_refl _ | exact Nat.le_succ _ | exact T3_0.out.size | exact T3_1.out.size | exact T3_2.out.size | exact Nat.le_succ_of_le T3_0.out.size | exact Nat.le_succ_of_le T3_1.out.size | exact Nat.le_succ_of_le T3_2.out.size) _))); done)) hB); clear hB s0 s1 s2))
    | (go_at_call 42; have s0 : k3_0 ≤ 1000 := (by omega); have s1 : k3_1 ≤ 1000 := (by omega); have s2 : 0 < (tQ q) * (tQ q2) := (Int.mul_pos (tQ_pos q) (tQ_pos q2)); ((with_reducible refine (low_gi _ _ k3_0 k3_1 ((tP p q) * (tP p2 q2)) ((tQ q) * (tQ q2)) _ (VT_5.out.tab (by ((repeat (first | (with_reducible exact Below.refl _ _) | (with_reducible refine Below.up ?_ HB3_2.out) | (with_reducible refine Below.up ?_ HB3_1.out) | (with_reducible refine Below.up ?_ HB3_0.out) | (with_reducible refine Below.alloc' ?_ _) | (with_reducible refine Below.drew' ?_) | (with_reducible refine Below.set' ?_ (by first | exact Nat.le_refl _ | exact Nat.le_succ _ | exact T3_0.out.size | exact T3_1.out.size | exact T3_2.out.size | exact Nat.le_succ_of_le T3_0.out.size | exact Nat.le_succ_of_le T3_1.out.size | exact Nat.le_succ_of_le T3_2.out.size) _))); done))) (AI.below R3_0.out (by ((repeat (first | (with_reducible exact Below.refl _ _) | (with_reducible refine Below.up ?_ HB3_2.out) | (with_reducible refine Below.up ?_ HB3_1.out) | (with_reducible refine Below.up ?_ HB3_0.out) | (with_reducible refine Below.alloc' ?_ _) | (with_reducible refine Below.drew' ?_) | (with_reducible refine Below.set' ?_ (by first | exact Nat.le_refl _ | exact Nat.le_succ _ | exact T3_0.out.size | exact T3_1.out.size | exact T3_2.out.size | exact Nat.le_succ_of_le T3_0.out.size | exact Nat.le_succ_of_le T3_1.out.size | exact Nat.le_succ_of_le T3_2.out.size) _))); done))) (AI.below R3_1.out (by ((repeat (first | (with_reducible exact Below.refl _ _) | (with_reducible refine Below.up ?_ HB3_2.out) | (with_reducible refine Below.up ?_ HB3_1.out) | (with_reducible refine Below.up ?_ HB3_0.out) | (with_reducible refine Below.alloc' ?_ _) | (with_reducible refine Below.drew' ?_) | (with_reducible refine Below.set' ?_ (by first | exact Nat.le_refl _ | exact Nat.le_succ _ | exact T3_0.out.size | exact T3_1.out.size | exact T3_2.out.size | exact Nat.le_succ_of_le T3_0.out.size | exact Nat.le_succ_of_le T3_1.out.size | exact Nat.le_succ_of_le T3_2.out.size) _))); done))) s0 s1 s2).mono ?_); rintro e w3_2 ⟨g3_2, x3_2, y3_2, u3_2, v3_2, z3_2, k3_2, j3_2, P3_2, Q3_2, rfl, hR, hF, hk3_2, hj3_2, hB⟩; have R3_2 := Lib.hid hR; have F3_2 := Lib.hid hF; clear hR hF; have HB3_2 := Lib.hid hB; have T3_2 := Lib.hid (Below.up (u := w5) (by ((repeat (first | (with_reducible exact Below.refl _ _) | (with_reducible refine Below.up ?_ HB3_2.out) | (with_reducible refine Below.up ?_ HB3_1.out) | (with_reducible refine Below.up ?_ HB3_0.out) | (with_reducible refine Below.alloc' ?_ _) | (with_reducible refine Below.drew' ?_) | (with_reducible refine Below.set' ?_ (by first | exact Nat.le_refl _ | exact Nat.le_succ _ | exact T3_0.out.size | exact T3_1.out.size | exact T3_2.out.size | exact Nat.le_succ_of_le T3_0.out.size | exact Nat.le_succ_of_le T3_1.out.size | exact Nat.le_succ_of_le T3_2.out.size) _))); done)) hB); clear hB s0 s1 s2; obtain ⟨zu0, zu1, zu2, zu3, zc0, zc1, zc2, zc3, zf0, zf1, zf2, zf3⟩ := (VX_5.out.below (w' := w3_2) (by ((repeat (first | (with_reducible exact Below.refl _ _) | (with_reducible refine Below.up ?_ HB3_2.out) | (with_reducible refine Below.up ?_ HB3_1.out) | (with_reducible refine Below.up ?_ HB3_0.out) | (with_reducible refine Below.alloc' ?_ _) | (with_reducible refine Below.drew' ?_) | (with_reducible refine Below.set' ?_ (by first | exact Nat.le_refl _ | exact Nat.le_succ _ | exact T3_0.out.size | exact T3_1.out.size | exact T3_2.out.size | exact Nat.le_succ_of_le T3_0.out.size | exact Nat.le_succ_of_le T3_1.out.size | exact Nat.le_succ_of_le T3_2.out.size) _))); done))).open)))
  all_goals
    go_wp2_with fail
    have hb1 : w.heap.size ≤ w3_1.heap.size := Nat.le_trans HW5.out.size (show Below w5.heap.size w5 w3_1 from (by ((repeat (first | (with_reducible exact Below.refl _ _) | (with_reducible refine Below.up ?_ HB3_2.out) | (with_reducible refine Below.up ?_ HB3_1.out) | (with_reducible refine Below.up ?_ HB3_0.out) | (with_reducible refine Below.alloc' ?_ _) | (with_reducible refine Below.drew' ?_) | (with_reducible refine Below.set' ?_ (by first | exact Nat.le_refl _ | exact Nat.le_succ _ | exact T3_0.out.size | exact T3_1.out.size | exact T3_2.out.size | exact Nat.le_succ_of_le T3_0.out.size | exact Nat.le_succ_of_le T3_1.out.size | exact Nat.le_succ_of_le T3_2.out.size) _))); done))).size
    have hb2 : w.heap.size + 1 + 1 < w3_1.heap.size := Nat.lt_of_lt_of_le VX_5.out.lt (show Below w5.heap.size w5 w3_1 from (by ((repeat (first | (with_reducible exact Below.refl _ _) | (with_reducible refine Below.up ?_ HB3_2.out) | (with_reducible refine Below.up ?_ HB3_1.out) | (with_reducible refine Below.up ?_ HB3_0.out) | (with_reducible refine Below.alloc' ?_ _) | (with_reducible refine Below.drew' ?_) | (with_reducible refine Below.set' ?_ (by first | exact Nat.le_refl _ | exact Nat.le_succ _ | exact T3_0.out.size | exact T3_1.out.size | exact T3_2.out.size | exact Nat.le_succ_of_le T3_0.out.size | exact Nat.le_succ_of_le T3_1.out.size | exact Nat.le_succ_of_le T3_2.out.size) _))); done))).size
    obtain ⟨f1, f2⟩ := fin_RR (w := w) (t := w.heap.size + 1 + 1) R3_2.out hb2 (by omega) hb1 (Below.up HW5.out (by ((repeat (first | (with_reducible exact Below.refl _ _) | (with_reducible refine Below.up ?_ HB3_2.out) | (with_reducible refine Below.up ?_ HB3_1.out) | (with_reducible refine Below.up ?_ HB3_0.out) | (with_reducible refine Below.alloc' ?_ _) | (with_reducible refine Below.drew' ?_) | (with_reducible refine Below.set' ?_ (by first | exact Nat.le_refl _ | exact Nat.le_succ _ | exact T3_0.out.size | exact T3_1.out.size | exact T3_2.out.size | exact Nat.le_succ_of_le T3_0.out.size | exact Nat.le_succ_of_le T3_1.out.size | exact Nat.le_succ_of_le T3_2.out.size) _))); done))) (.bool g3_2) (.slice x3_2 k3_2 y3_2) (.bool u3_2) (.slice v3_2 j3_2 z3_2)
    exact bodyPost_ret (v := .agg #[.bool g3_2, .slice x3_2 k3_2 y3_2, .bool u3_2, .slice v3_2 j3_2 z3_2]) (by simp [results, Tryd.results27, go_sem, zc0, zc1, zc2, zc3]) rfl ⟨_, k3_2, j3_2, P3_2, Q3_2, rfl, f1, F3_2.out.1, F3_2.out.2, by omega, by omega, f2⟩

end Go.Proofs.YtpkjpepnjlcgoaaDoor
