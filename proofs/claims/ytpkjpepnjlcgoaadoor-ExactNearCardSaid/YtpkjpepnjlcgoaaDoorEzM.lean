/- Ratios that lie in variables; Compare, of ratios of any length. -/
import Derived.Test.YtpkjpepnjlcgoaaDoorEzI
set_option linter.unusedVariables false
set_option linter.unusedSimpArgs false
namespace Go.Proofs.YtpkjpepnjlcgoaaDoor
open Go.RowKit

/-- A ratio in a variable. -/
def RV (w : World) (b : Nat) (g : Bool) (a : Option Addr) (n c : Nat) (g' : Bool) (a' : Option Addr) (n' c' : Nat) (p q : Int) : Prop :=
  w.cell? ⟨b, 0, none⟩ = some (.bool g) ∧ w.cell? ⟨b, 1, none⟩ = some (.slice a n c) ∧ w.cell? ⟨b, 2, none⟩ = some (.bool g') ∧ w.cell? ⟨b, 3, none⟩ = some (.slice a' n' c') ∧ b < w.heap.size ∧
    AR w (.agg #[.bool g, .slice a n c, .bool g', .slice a' n' c']) n n' p q
theorem RV.below {w w' : World} {b : Nat} {g : Bool} {a : Option Addr} {n c : Nat} {g' : Bool} {a' : Option Addr} {n' c' : Nat} {p q : Int} (h : RV w b g a n c g' a' n' c' p q) (k : Below w.heap.size w w') : RV w' b g a n c g' a' n' c' p q :=
  ⟨(k.cell (p := ⟨b, 0, none⟩) h.2.2.2.2.1).trans h.1, (k.cell (p := ⟨b, 1, none⟩) h.2.2.2.2.1).trans h.2.1, (k.cell (p := ⟨b, 2, none⟩) h.2.2.2.2.1).trans h.2.2.1, (k.cell (p := ⟨b, 3, none⟩) h.2.2.2.2.1).trans h.2.2.2.1, Nat.lt_of_lt_of_le h.2.2.2.2.1 k.size, h.2.2.2.2.2.below k⟩
theorem RV.up {w w' : World} {b : Nat} {g : Bool} {a : Option Addr} {n c : Nat} {g' : Bool} {a' : Option Addr} {n' c' : Nat} {p q : Int} (h : RV w b g a n c g' a' n' c' p q) (k : Below w.heap.size w w') : AR w' (.agg #[.bool g, .slice a n c, .bool g', .slice a' n' c']) n n' p q := h.2.2.2.2.2.below k
theorem RV.new {w : World} {g : Bool} {a : Option Addr} {n c : Nat} {g' : Bool} {a' : Option Addr} {n' c' : Nat} {p q : Int} (h : AR w (.agg #[.bool g, .slice a n c, .bool g', .slice a' n' c']) n n' p q) :
    RV (w.alloc (.cells #[.bool g, .slice a n c, .bool g', .slice a' n' c'] 26)) w.heap.size g a n c g' a' n' c' p q := by
  have e := World.alloc_heap_new w (.cells #[.bool g, .slice a n c, .bool g', .slice a' n' c'] 26)
  exact ⟨by unfold World.cell?; rw [e]; rfl, by unfold World.cell?; rw [e]; rfl, by unfold World.cell?; rw [e]; rfl, by unfold World.cell?; rw [e]; rfl, by simp, h.below ((Below.refl _ _).alloc (Nat.le_refl _) _)⟩
theorem RV.new' {w : World} {b : Nat} {g : Bool} {a : Option Addr} {n c : Nat} {g' : Bool} {a' : Option Addr} {n' c' : Nat} {p q : Int} (h : AR w (.agg #[.bool g, .slice a n c, .bool g', .slice a' n' c']) n n' p q) (hb : w.heap.size = b) :
    RV (w.alloc (.cells #[.bool g, .slice a n c, .bool g', .slice a' n' c'] 26)) b g a n c g' a' n' c' p q := hb ▸ RV.new h
theorem Below.alloc2 (w : World) (o o2 : Obj) : Below w.heap.size w ((w.alloc o).alloc o2) := Below.alloc' (Below.alloc' (Below.refl _ _) o) o2

/-- terms, its results opened. -/
theorem terms_gi (u : Value) (n m : Nat) (p q : Int) (w : World) (hu : AR w u n m p q) (hn : n ≤ 1000) (hm : m ≤ 1000) :
    Calls Tryd.prog 36 #[u] w fun e w' => ∃ g a c g2 a2 c2 k j, e = .returned (.tuple #[.agg #[.bool g, .slice a k c], .agg #[.bool g2, .slice a2 j c2]]) ∧ AI w' (.agg #[.bool g, .slice a k c]) k (tP p q) ∧ AI w' (.agg #[.bool g2, .slice a2 j c2]) j (tQ q) ∧ k ≤ n ∧ j ≤ max m 2 ∧ Below w.heap.size w w' := by
  refine (terms_any u n m p q w hu (by omega) (by omega)).mono ?_
  rintro e w' ⟨r, s, k, j, rfl, h1, h2, h3, h4, h5⟩
  obtain ⟨g, a, c, rfl⟩ := h1.form
  obtain ⟨g2, a2, c2, rfl⟩ := h2.form
  exact ⟨g, a, c, g2, a2, c2, k, j, rfl, h1, h2, h3, h4, h5⟩

set_option maxRecDepth 100000 in
set_option maxHeartbeats 6400000 in
theorem Compare_cells (gr gs gr2 gs2 : Bool) (ar as' ar2 as2 : Option Addr) (n m n2 m2 cr cs cr2 cs2 : Nat) (p q p2 q2 : Int) (w : World) (hu : AR w (.agg #[.bool gr, .slice ar n cr, .bool gs, .slice as' m cs]) n m p q) (hv : AR w (.agg #[.bool gr2, .slice ar2 n2 cr2, .bool gs2, .slice as2 m2 cs2]) n2 m2 p2 q2) (hn : n ≤ 300) (hm : m ≤ 300) (hn2 : n2 ≤ 300) (hm2 : m2 ≤ 300) (h1 : n < 40 ∨ (m2 < 38)) (h2 : n2 < 40 ∨ m < 38) :
    Calls Tryd.prog 23 #[.agg #[.bool gr, .slice ar n cr, .bool gs, .slice as' m cs], .agg #[.bool gr2, .slice ar2 n2 cr2, .bool gs2, .slice as2 m2 cs2]] w fun e w' => e = .returned (.int .i64 (ord ((tP p q) * (tQ q2)) ((tP p2 q2) * (tQ q)))) ∧ Below w.heap.size w w' := by
  have HW0 := Lib.hid (show Below w.heap.size w ((w.alloc (.cells #[.bool gr, .slice ar n cr, .bool gs, .slice as' m cs] 26)).alloc (.cells #[.bool gr2, .slice ar2 n2 cr2, .bool gs2, .slice as2 m2 cs2] 26)) from (by repeat (first | exact Below.refl _ _ | exact Nat.le_refl _ | (apply Below.alloc) | (refine Below.setCell ?_ (by first | exact Nat.le_refl _ | (simp <;> omega)) _) | (simp <;> omega))))
  have Vr_0 := Lib.hid (show RV ((w.alloc (.cells #[.bool gr, .slice ar n cr, .bool gs, .slice as' m cs] 26)).alloc (.cells #[.bool gr2, .slice ar2 n2 cr2, .bool gs2, .slice as2 m2 cs2] 26)) w.heap.size gr ar n cr gs as' m cs p q from (RV.new hu).below (by repeat (first | exact Below.refl _ _ | exact Nat.le_refl _ | (apply Below.alloc) | (refine Below.setCell ?_ (by first | exact Nat.le_refl _ | (simp <;> omega)) _) | (simp <;> omega))))
  have Vs_0 := Lib.hid (show RV ((w.alloc (.cells #[.bool gr, .slice ar n cr, .bool gs, .slice as' m cs] 26)).alloc (.cells #[.bool gr2, .slice ar2 n2 cr2, .bool gs2, .slice as2 m2 cs2] 26)) (w.heap.size + 1) gr2 ar2 n2 cr2 gs2 as2 m2 cs2 p2 q2 from RV.new' (hv.below ((Below.refl _ _).alloc (Nat.le_refl _) _)) (by simp))
  clear hu hv
  go_enter Tryd.func23, Tryd.ntmps23
  go_wp2_with fail
  have HW1 := HW0
  have Vr_1 := Vr_0
  have Vs_1 := Vs_0
  clear HW0 Vr_0 Vs_0
  refine calls_at (fun W => Below w.heap.size w W ∧ RV W w.heap.size gr ar n cr gs as' m cs p q ∧ RV W (w.heap.size + 1) gr2 ar2 n2 cr2 gs2 as2 m2 cs2 p2 q2) ⟨HW1.out, Vr_1.out, Vs_1.out⟩ ?_
  rintro w1 ⟨hB, hr, hs⟩
  clear HW1 Vr_1 Vs_1
  have HW1 := Lib.hid hB
  have Vr_1 := Lib.hid hr
  have Vs_1 := Lib.hid hs
  clear hB hr hs
  refine (terms_gi _ n m p q _ Vr_1.out.2.2.2.2.2 (by omega) (by omega)).mono ?_
  rintro e w2 ⟨g1, x1, y1, g2, x2, y2, k1, k2, rfl, hP, hQ, hk1, hk2, hB⟩
  have Vr_2 := Lib.hid (Vr_1.out.below hB)
  have Vs_2 := Lib.hid (Vs_1.out.below hB)
  have HW2 := Lib.hid (Below.up HW1.out hB)
  have NP := Lib.hid hP
  have NQ := Lib.hid hQ
  clear hP hQ hB HW1 Vr_1 Vs_1
  obtain ⟨os0, os1, os2, os3, os4, _⟩ := (Vs_2.out.below (w' := ((w2.alloc (.cells #[.bool g1, .slice x1 k1 y1] 24)).alloc (.cells #[.bool g2, .slice x2 k2 y2] 24))) (by repeat (first | exact Below.refl _ _ | exact Nat.le_refl _ | (apply Below.alloc) | (refine Below.setCell ?_ (by first | exact Nat.le_refl _ | (simp <;> omega)) _) | (simp <;> omega))))
  go_wp2_with fail
  refine calls_at (fun W => Below w.heap.size w W ∧ RV W w.heap.size gr ar n cr gs as' m cs (p) (q) ∧ RV W (w.heap.size + 1) gr2 ar2 n2 cr2 gs2 as2 m2 cs2 (p2) (q2) ∧ IV W w2.heap.size g1 x1 k1 y1 (tP p q) ∧ IV W (w2.heap.size + 1) g2 x2 k2 y2 (tQ q)) ⟨Below.up HW2.out (by repeat (first | exact Below.refl _ _ | exact Nat.le_refl _ | (apply Below.alloc) | (refine Below.setCell ?_ (by first | exact Nat.le_refl _ | (simp <;> omega)) _) | (simp <;> omega))), Vr_2.out.below (by repeat (first | exact Below.refl _ _ | exact Nat.le_refl _ | (apply Below.alloc) | (refine Below.setCell ?_ (by first | exact Nat.le_refl _ | (simp <;> omega)) _) | (simp <;> omega))), Vs_2.out.below (by repeat (first | exact Below.refl _ _ | exact Nat.le_refl _ | (apply Below.alloc) | (refine Below.setCell ?_ (by first | exact Nat.le_refl _ | (simp <;> omega)) _) | (simp <;> omega))), (IV.new NP.out).below (by repeat (first | exact Below.refl _ _ | exact Nat.le_refl _ | (apply Below.alloc) | (refine Below.setCell ?_ (by first | exact Nat.le_refl _ | (simp <;> omega)) _) | (simp <;> omega))), IV.new' (NQ.out.below ((Below.refl _ _).alloc (Nat.le_refl _) _)) (by simp)⟩ ?_
  rintro w3 ⟨hB, hr, hs, hi, hj⟩
  have HW3 := Lib.hid hB
  have Vr_3 := Lib.hid hr
  have Vs_3 := Lib.hid hs
  have Vi_3 := Lib.hid hi
  have Vj_3 := Lib.hid hj
  clear hB hr hs hi hj HW2 Vr_2 Vs_2
  clear os0 os1 os2 os3 os4
  clear NP NQ
  refine (terms_gi _ n2 m2 p2 q2 _ Vs_3.out.2.2.2.2.2 (by omega) (by omega)).mono ?_
  rintro e w4 ⟨g3, x3, y3, g4, x4, y4, k3, k4, rfl, hP, hQ, hk3, hk4, hB⟩
  clear Vr_3 Vs_3
  have Vi_4 := Lib.hid (Vi_3.out.below hB)
  have Vj_4 := Lib.hid (Vj_3.out.below hB)
  have HW4 := Lib.hid (Below.up HW3.out hB)
  have NP := Lib.hid hP
  have NQ := Lib.hid hQ
  clear hP hQ hB HW3 Vi_3 Vj_3
  go_wp2_with fail
  refine wp_at (fun W => Below w.heap.size w W ∧ IV W w2.heap.size g1 x1 k1 y1 (tP p q) ∧ IV W (w2.heap.size + 1) g2 x2 k2 y2 (tQ q) ∧ IV W w4.heap.size g3 x3 k3 y3 (tP p2 q2) ∧ IV W (w4.heap.size + 1) g4 x4 k4 y4 (tQ q2)) ⟨Below.up HW4.out (by repeat (first | exact Below.refl _ _ | exact Nat.le_refl _ | (apply Below.alloc) | (refine Below.setCell ?_ (by first | exact Nat.le_refl _ | (simp <;> omega)) _) | (simp <;> omega))), Vi_4.out.below (by repeat (first | exact Below.refl _ _ | exact Nat.le_refl _ | (apply Below.alloc) | (refine Below.setCell ?_ (by first | exact Nat.le_refl _ | (simp <;> omega)) _) | (simp <;> omega))), Vj_4.out.below (by repeat (first | exact Below.refl _ _ | exact Nat.le_refl _ | (apply Below.alloc) | (refine Below.setCell ?_ (by first | exact Nat.le_refl _ | (simp <;> omega)) _) | (simp <;> omega))), (IV.new NP.out).below (by repeat (first | exact Below.refl _ _ | exact Nat.le_refl _ | (apply Below.alloc) | (refine Below.setCell ?_ (by first | exact Nat.le_refl _ | (simp <;> omega)) _) | (simp <;> omega))), IV.new' (NQ.out.below ((Below.refl _ _).alloc (Nat.le_refl _) _)) (by simp)⟩ ?_
  rintro w5 ⟨hB, hi, hj, hk, hl⟩
  have HW5 := Lib.hid hB
  have Vi_5 := Lib.hid hi
  have Vj_5 := Lib.hid hj
  have Vk_5 := Lib.hid hk
  have Vl_5 := Lib.hid hl
  clear hB hi hj hk hl HW4 Vi_4 Vj_4
  clear NP NQ
  have B3_ := Lib.hid (Below.refl w5.heap.size w5)
  have M3 := Lib.hid (show ∀ w', Below w5.heap.size w5 w' → w'.cell? ⟨w2.heap.size, 0, none⟩ = some (.bool g1) ∧ w'.cell? ⟨w2.heap.size, 1, none⟩ = some (.slice x1 k1 y1) ∧ w'.cell? ⟨(w4.heap.size + 1), 0, none⟩ = some (.bool g4) ∧ w'.cell? ⟨(w4.heap.size + 1), 1, none⟩ = some (.slice x4 k4 y4) ∧ w'.cell? ⟨w4.heap.size, 0, none⟩ = some (.bool g3) ∧ w'.cell? ⟨w4.heap.size, 1, none⟩ = some (.slice x3 k3 y3) ∧ w'.cell? ⟨(w2.heap.size + 1), 0, none⟩ = some (.bool g2) ∧ w'.cell? ⟨(w2.heap.size + 1), 1, none⟩ = some (.slice x2 k2 y2) from fun w' h => ⟨(Vi_5.out.below h).1, (Vi_5.out.below h).2.1, (Vl_5.out.below h).1, (Vl_5.out.below h).2.1, (Vk_5.out.below h).1, (Vk_5.out.below h).2.1, (Vj_5.out.below h).1, (Vj_5.out.below h).2.1⟩)
  obtain ⟨oi0, oi1, oi2, _⟩ := Vi_5.out
  obtain ⟨ol0, ol1, ol2, _⟩ := Vl_5.out
  obtain ⟨ok0, ok1, ok2, _⟩ := Vk_5.out
  obtain ⟨oj0, oj1, oj2, _⟩ := Vj_5.out
  have D3 := Lib.hid (Below.drew B3_.out)
  go_region_held3 (fun w' => w'.cell? ⟨w2.heap.size, 0, none⟩ = some (.bool g1) ∧ w'.cell? ⟨w2.heap.size, 1, none⟩ = some (.slice x1 k1 y1) ∧ w'.cell? ⟨(w4.heap.size + 1), 0, none⟩ = some (.bool g4) ∧ w'.cell? ⟨(w4.heap.size + 1), 1, none⟩ = some (.slice x4 k4 y4) ∧ w'.cell? ⟨w4.heap.size, 0, none⟩ = some (.bool g3) ∧ w'.cell? ⟨w4.heap.size, 1, none⟩ = some (.slice x3 k3 y3) ∧ w'.cell? ⟨(w2.heap.size + 1), 0, none⟩ = some (.bool g2) ∧ w'.cell? ⟨(w2.heap.size + 1), 1, none⟩ = some (.slice x2 k2 y2))
    (first | (with_reducible exact M3.out _ D3.out) | (with_reducible exact M3.out _ T3_0.out) | (with_reducible exact M3.out _ T3_1.out) | (with_reducible exact M3.out _ T3_2.out))
    (first
    | (go_at_call 10; have s0 : k1 ≤ 1000 := (by omega); have s1 : k4 ≤ 1000 := (by omega); have s2 : k1 < 40 ∨ k4 < 40 := (by omega); ((with_reducible refine (mul_gf (.agg #[.bool g1, .slice x1 k1 y1]) (.agg #[.bool g4, .slice x4 k4 y4]) k1 k4 (tP p q) (tQ q2) _ (Vi_5.out.up D3.out) (Vl_5.out.up D3.out) s0 s1 s2).mono ?_); rintro e w3_0 ⟨g3_0, x3_0, y3_0, k3_0, rfl, hR, hk3_0, hB⟩; have R3_0 := Lib.hid hR; clear hR; have HB3_0 := Lib.hid hB; have T3_0 := Lib.hid (Below.up D3.out hB); clear hB s0 s1 s2))
    | (go_at_call 10; have s0 : k3 ≤ 1000 := (by omega); have s1 : k2 ≤ 1000 := (by omega); have s2 : k3 < 40 ∨ k2 < 40 := (by omega); ((with_reducible refine (mul_gf (.agg #[.bool g3, .slice x3 k3 y3]) (.agg #[.bool g2, .slice x2 k2 y2]) k3 k2 (tP p2 q2) (tQ q) _ (Vk_5.out.up T3_0.out) (Vj_5.out.up T3_0.out) s0 s1 s2).mono ?_); rintro e w3_1 ⟨g3_1, x3_1, y3_1, k3_1, rfl, hR, hk3_1, hB⟩; have R3_1 := Lib.hid hR; clear hR; have HB3_1 := Lib.hid hB; have T3_1 := Lib.hid (Below.up T3_0.out hB); clear hB s0 s1 s2))
    | (go_at_call 29; have s0 : k3_0 ≤ 1000000000 := (by omega); have s1 : k3_1 ≤ 1000000000 := (by omega); have s2 : ord ((tP p q) * (tQ q2)) ((tP p2 q2) * (tQ q)) = ord ((tP p q) * (tQ q2)) ((tP p2 q2) * (tQ q)) := rfl; ((with_reducible refine (cmp_is _ _ k3_0 k3_1 ((tP p q) * (tQ q2)) ((tP p2 q2) * (tQ q)) (ord ((tP p q) * (tQ q2)) ((tP p2 q2) * (tQ q))) _ (R3_0.out.below HB3_1.out) R3_1.out s0 s1 s2).mono ?_); rintro e w3_2 ⟨rfl, hB⟩; have HB3_2 := Lib.hid hB; have T3_2 := Lib.hid (Below.up T3_1.out hB); clear hB s0 s1 s2)))
  go_wp2_with fail
  go_ret
  exact ⟨rfl, Below.up HW5.out (Below.up (Below.up (Below.drew (Below.refl _ _)) HB3_0.out) (Below.up HB3_1.out HB3_2.out))⟩

end Go.Proofs.YtpkjpepnjlcgoaaDoor
