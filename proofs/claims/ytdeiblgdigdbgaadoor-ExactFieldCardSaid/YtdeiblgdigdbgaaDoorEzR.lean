/- Quotient, of ratios of any length. -/
import Derived.Test.YtdeiblgdigdbgaaDoorEzQ
set_option linter.unusedVariables false
set_option linter.unusedSimpArgs false
namespace Go.Proofs.YtdeiblgdigdbgaaDoor
open Go.RowKit

theorem signum_vr (u : Value) (n m : Nat) (X Y o : Int) (w : World) (hu : VR w u n m X Y) (hn : n ≤ 1000000) (hm : m ≤ 1000000) (ho : ord X 0 = o) :
    Calls Tryd.prog 15 #[u] w fun e w' => e = .returned (.int .i64 o) ∧ Below w.heap.size w w' := by
  obtain ⟨p, q, h1, h2, h3⟩ := hu
  have e := ord_scale (a := tP p q) (b := 0) (c := X) (d := 0) h2 (tQ_pos q) h3 (by simp)
  rw [← ho, ← e]
  exact Signum_any u n m p q w h1 hn hm

set_option maxRecDepth 100000 in
set_option maxHeartbeats 1600000 in
theorem Quotient_cells (gr gs gr2 gs2 : Bool) (ar as' ar2 as2 : Option Addr) (n m n2 m2 cr cs cr2 cs2 : Nat) (p q p2 q2 : Int) (w : World) (hT : Tab w) (hu : AR w (.agg #[.bool gr, .slice ar n cr, .bool gs, .slice as' m cs]) n m p q) (hv : AR w (.agg #[.bool gr2, .slice ar2 n2 cr2, .bool gs2, .slice as2 m2 cs2]) n2 m2 p2 q2) (hn : n ≤ 300) (hm : m ≤ 300) (hn2 : n2 ≤ 38) (hm2 : m2 ≤ 38) (hp2 : p2 ≠ 0) (hq2 : q2 ≠ 0) :
    Calls Tryd.prog 14 #[.agg #[.bool gr, .slice ar n cr, .bool gs, .slice as' m cs], .agg #[.bool gr2, .slice ar2 n2 cr2, .bool gs2, .slice as2 m2 cs2]] w fun e w' => ∃ g a c g' a' c' k j P Q, e = .returned (.tuple #[.agg #[.bool g, .slice a k c, .bool g', .slice a' j c'], .int .i64 0]) ∧
      AR w' (.agg #[.bool g, .slice a k c, .bool g', .slice a' j c']) k j P Q ∧ (0 < Q ∧ P * (tQ q * (tP p2 q2 * ord (tP p2 q2) 0)) = tP p q * ord (tP p2 q2) 0 * tQ q2 * Q) ∧ k ≤ n + m2 ∧ j ≤ max m 2 + max n2 2 ∧ Below w.heap.size w w' := by
  have hp0 : tP p2 q2 ≠ 0 := by
    unfold tP
    rw [if_neg hq2]
    split <;> omega
  have ds : (ord (tP p2 q2) 0 == 0) = false := by
    rcases Int.lt_or_lt_of_ne hp0 with g | g
    · rw [ord_lt g]; rfl
    · rw [ord_gt g]; rfl
  obtain ⟨c0, c1, c2, c3, ev, hp, hq⟩ := hv
  simp only [Value.agg.injEq, Array.mk.injEq, List.cons.injEq, and_true] at ev
  obtain ⟨rfl, rfl, rfl, rfl⟩ := ev
  have HU := Lib.hid hu
  have HV := Lib.hid (show AR w (.agg #[.bool gr2, .slice ar2 n2 cr2, .bool gs2, .slice as2 m2 cs2]) n2 m2 p2 q2 from ⟨_, _, _, _, rfl, hp, hq⟩)
  have HI := Lib.hid (show AR w (.agg #[.bool gs2, .slice as2 m2 cs2, .bool gr2, .slice ar2 n2 cr2]) m2 n2 q2 p2 from ⟨_, _, _, _, rfl, hq, hp⟩)
  have HT := Lib.hid hT
  have HQF := Lib.hid (quot_frac (X := tP p q) (Y := tQ q) hp2 hq2)
  clear hu hp hq hT hp0
  go_enter Tryd.func14, Tryd.ntmps14
  go_wp2_with fail
  refine (Signum_any _ n2 m2 p2 q2 _ (HV.out.below (by repeat (first | exact Below.refl _ _ | exact Nat.le_refl _ | (apply Below.alloc) | (refine Below.setCell ?_ (by first | exact Nat.le_refl _ | (simp <;> omega)) _) | (simp <;> omega)))) (by omega) (by omega)).mono ?_
  rintro e w1 ⟨rfl, hB⟩
  obtain ⟨hcc, hff⟩ := bcell hB
  have a0 : w1.cell? ⟨w.heap.size, 0, none⟩ = some (.bool gr) := by rw [hcc _ _ (by simp <;> omega)]; simp [go_sem]
  have a1 : w1.cell? ⟨w.heap.size, 1, none⟩ = some (.slice ar n cr) := by rw [hcc _ _ (by simp <;> omega)]; simp [go_sem]
  have a2 : w1.cell? ⟨w.heap.size, 2, none⟩ = some (.bool gs) := by rw [hcc _ _ (by simp <;> omega)]; simp [go_sem]
  have a3 : w1.cell? ⟨w.heap.size, 3, none⟩ = some (.slice as' m cs) := by rw [hcc _ _ (by simp <;> omega)]; simp [go_sem]
  have b0 : w1.cell? ⟨w.heap.size + 1, 0, none⟩ = some (.bool gr2) := by rw [hcc _ _ (by simp <;> omega)]; simp [go_sem]
  have b1 : w1.cell? ⟨w.heap.size + 1, 1, none⟩ = some (.slice ar2 n2 cr2) := by rw [hcc _ _ (by simp <;> omega)]; simp [go_sem]
  have b2 : w1.cell? ⟨w.heap.size + 1, 2, none⟩ = some (.bool gs2) := by rw [hcc _ _ (by simp <;> omega)]; simp [go_sem]
  have b3 : w1.cell? ⟨w.heap.size + 1, 3, none⟩ = some (.slice as2 m2 cs2) := by rw [hcc _ _ (by simp <;> omega)]; simp [go_sem]
  have XB := Lib.hid ((Box4.new' (w := (w.alloc (.cells #[.bool gr, .slice ar n cr, .bool gs, .slice as' m cs] 26)).alloc (.cells #[.bool gr2, .slice ar2 n2 cr2, .bool gs2, .slice as2 m2 cs2] 26)) (b := w.heap.size + 1 + 1) (by simp) (g := false) (a := none) (n := 0) (c := 0) (g' := false) (a' := none) (n' := 0) (c' := 0)).below hB)
  have BW := Lib.hid (Below.up (u := w) (by repeat (first | exact Below.refl _ _ | exact Nat.le_refl _ | (apply Below.alloc) | (refine Below.setCell ?_ (by first | exact Nat.le_refl _ | (simp <;> omega)) _) | (simp <;> omega))) hB)
  clear hcc hff hB
  go_wp2_with fail
  refine (Times_any _ _ n m m2 n2 p q q2 p2 _ (HT.out.up BW.out) (HU.out.below BW.out) (HI.out.below BW.out) (by omega) (by omega) (by omega) (by omega) (by omega) (by omega)).mono ?_
  rintro e w2 ⟨r, k, j, P, Q, rfl, hR, hQ, hF, hk, hj, hB⟩
  obtain ⟨g, a, c, g', a', c', rfl⟩ := hR.form
  obtain ⟨z0, z1, z2, z3, c0, c1, c2, c3, f0, f1, f2, f3⟩ := (XB.out.below hB).open
  have hx := XB.out.lt
  have HX := Lib.hid hx
  have HR := Lib.hid hR
  have HB := Lib.hid hB
  have HF := Lib.hid (show P * (tQ q * (tP p2 q2 * ord (tP p2 q2) 0)) = tP p q * ord (tP p2 q2) 0 * tQ q2 * Q by
    apply cancel_pos (Int.mul_pos (tQ_pos q) (tQ_pos p2))
    have e0 := HQF.out.2 (tQ q)
    have e1 : P * (tQ q * (tP p2 q2 * ord (tP p2 q2) 0)) * (tQ q * tQ p2) = P * (tQ q * tQ p2) * (tQ q * (tP p2 q2 * ord (tP p2 q2) 0)) := by grind
    have e2 : tP p q * ord (tP p2 q2) 0 * tQ q2 * Q * (tQ q * tQ p2) = Q * (tP p q * ord (tP p2 q2) 0 * tQ q2 * (tQ q * tQ p2)) := by grind
    rw [e1, e2, hF, ← e0]
    grind)
  clear hR hB hF
  go_wp2_with fail
  obtain ⟨e1, e2⟩ := fin_RR (w := w) (t := w.heap.size + 1 + 1) HR.out HX.out (by omega) BW.out.size (Below.up BW.out HB.out) (.bool g) (.slice a k c) (.bool g') (.slice a' j c')
  exact bodyPost_ret (v := .tuple #[.agg #[.bool g, .slice a k c, .bool g', .slice a' j c'], .int .i64 0]) (by simp [results, Tryd.results14, go_sem, c0, c1, c2, c3]) rfl ⟨g, a, c, g', a', c', k, j, P, Q, rfl, e1.ar, ⟨hQ, HF.out⟩, hk, hj, e2⟩

set_option maxRecDepth 100000 in
set_option maxHeartbeats 1600000 in
theorem Quotient_zero (gr gs gr2 gs2 : Bool) (ar as' ar2 as2 : Option Addr) (n m n2 m2 cr cs cr2 cs2 : Nat) (p q p2 q2 : Int) (w : World) (hu : AR w (.agg #[.bool gr, .slice ar n cr, .bool gs, .slice as' m cs]) n m p q) (hv : AR w (.agg #[.bool gr2, .slice ar2 n2 cr2, .bool gs2, .slice as2 m2 cs2]) n2 m2 p2 q2) (hn : n ≤ 300) (hm : m ≤ 300) (hn2 : n2 ≤ 300) (hm2 : m2 ≤ 300) (h0 : tP p2 q2 = 0) :
    Calls Tryd.prog 14 #[.agg #[.bool gr, .slice ar n cr, .bool gs, .slice as' m cs], .agg #[.bool gr2, .slice ar2 n2 cr2, .bool gs2, .slice as2 m2 cs2]] w fun e w' => e = .returned (.tuple #[.agg #[.bool false, .slice none 0 0, .bool false, .slice none 0 0], .int .i64 10]) ∧ Below w.heap.size w w' := by
  have HV := Lib.hid hv
  have H0 := Lib.hid h0
  clear hu hv h0
  go_enter Tryd.func14, Tryd.ntmps14
  go_wp2_with fail
  refine (Signum_any _ n2 m2 p2 q2 _ (HV.out.below (by repeat (first | exact Below.refl _ _ | exact Nat.le_refl _ | (apply Below.alloc) | (refine Below.setCell ?_ (by first | exact Nat.le_refl _ | (simp <;> omega)) _) | (simp <;> omega)))) (by omega) (by omega)).mono ?_
  rintro e w1 ⟨rfl, hB⟩
  rw [H0.out, ord_eq (a := 0) (b := 0) rfl]
  have XB := Lib.hid ((Box4.new' (w := (w.alloc (.cells #[.bool gr, .slice ar n cr, .bool gs, .slice as' m cs] 26)).alloc (.cells #[.bool gr2, .slice ar2 n2 cr2, .bool gs2, .slice as2 m2 cs2] 26)) (b := w.heap.size + 1 + 1) (by simp) (g := false) (a := none) (n := 0) (c := 0) (g' := false) (a' := none) (n' := 0) (c' := 0)).below hB)
  obtain ⟨z0, z1, z2, z3, c0, c1, c2, c3, f0, f1, f2, f3⟩ := XB.out.open
  have BW := Lib.hid (Below.up (u := w) (by repeat (first | exact Below.refl _ _ | exact Nat.le_refl _ | (apply Below.alloc) | (refine Below.setCell ?_ (by first | exact Nat.le_refl _ | (simp <;> omega)) _) | (simp <;> omega))) hB)
  clear hB
  go_wp2_with fail
  exact bodyPost_ret (v := .tuple #[.agg #[.bool false, .slice none 0 0, .bool false, .slice none 0 0], .int .i64 10]) (by simp [results, Tryd.results14, go_sem, c0, c1, c2, c3]) rfl
    ⟨rfl, (((BW.out.setCell (p := ⟨w.heap.size + 1 + 1, 0, none⟩) (by show w.heap.size ≤ w.heap.size + 1 + 1; omega) _).setCell (p := ⟨w.heap.size + 1 + 1, 1, none⟩) (by show w.heap.size ≤ w.heap.size + 1 + 1; omega) _).setCell (p := ⟨w.heap.size + 1 + 1, 2, none⟩) (by show w.heap.size ≤ w.heap.size + 1 + 1; omega) _).setCell (p := ⟨w.heap.size + 1 + 1, 3, none⟩) (by show w.heap.size ≤ w.heap.size + 1 + 1; omega) _⟩
end Go.Proofs.YtdeiblgdigdbgaaDoor
