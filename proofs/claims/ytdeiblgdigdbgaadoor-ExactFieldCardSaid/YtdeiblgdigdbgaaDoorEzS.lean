/- The law of the field: any three of at most 8 words. -/
import Derived.Test.YtdeiblgdigdbgaaDoorEzV
set_option linter.unusedVariables false
set_option linter.unusedSimpArgs false
namespace Go.Proofs.YtdeiblgdigdbgaaDoor
open Go.RowKit

set_option maxRecDepth 100000 in
set_option maxHeartbeats 6400000 in
theorem field_part (g1 h1 g2 h2 g3 h3 : Bool) (a1 b1 a2 b2 a3 b3 : Option Addr) (n1 m1 n2 m2 n3 m3 c1 d1 c2 d2 c3 d3 : Nat) (p1 q1 p2 q2 p3 q3 : Int) (w : World) (hT : Tab w) (hr1 : AR w (.agg #[.bool g1, .slice a1 n1 c1, .bool h1, .slice b1 m1 d1]) n1 m1 p1 q1) (hr2 : AR w (.agg #[.bool g2, .slice a2 n2 c2, .bool h2, .slice b2 m2 d2]) n2 m2 p2 q2) (hr3 : AR w (.agg #[.bool g3, .slice a3 n3 c3, .bool h3, .slice b3 m3 d3]) n3 m3 p3 q3) (h1' : n1 ≤ 8 ∧ m1 ≤ 8) (h2' : n2 ≤ 8 ∧ m2 ≤ 8) (h3' : n3 ≤ 8 ∧ m3 ≤ 8) (hx : tP p2 q2 ≠ 0) :
    Calls Tryd.prog 3 #[.agg #[.bool g1, .slice a1 n1 c1, .bool h1, .slice b1 m1 d1], .agg #[.bool g2, .slice a2 n2 c2, .bool h2, .slice b2 m2 d2], .agg #[.bool g3, .slice a3 n3 c3, .bool h3, .slice b3 m3 d3]] w fun e w' => e = .returned (.bool true) ∧ Below w.heap.size w w' := by
  have ds : (ord (tP p2 q2) 0 == 0) = false := by
    rcases Int.lt_or_lt_of_ne hx with g | g
    · rw [ord_lt g]; rfl
    · rw [ord_gt g]; rfl
  have HX := Lib.hid hx
  clear hx
  have HW0 := Lib.hid (show Below w.heap.size w (((w.alloc (.cells #[.bool g1, .slice a1 n1 c1, .bool h1, .slice b1 m1 d1] 26)).alloc (.cells #[.bool g2, .slice a2 n2 c2, .bool h2, .slice b2 m2 d2] 26)).alloc (.cells #[.bool g3, .slice a3 n3 c3, .bool h3, .slice b3 m3 d3] 26)) from (by repeat (first | exact Below.refl _ _ | exact Nat.le_refl _ | (apply Below.alloc) | (refine Below.setCell ?_ (by first | exact Nat.le_refl _ | (simp <;> omega)) _) | (simp <;> omega))))
  have Vr_0 := Lib.hid (show RV (((w.alloc (.cells #[.bool g1, .slice a1 n1 c1, .bool h1, .slice b1 m1 d1] 26)).alloc (.cells #[.bool g2, .slice a2 n2 c2, .bool h2, .slice b2 m2 d2] 26)).alloc (.cells #[.bool g3, .slice a3 n3 c3, .bool h3, .slice b3 m3 d3] 26)) w.heap.size g1 a1 n1 c1 h1 b1 m1 d1 p1 q1 from ((RV.new hr1).below (Below.alloc' (Below.refl _ _) _)).below (Below.alloc' (Below.refl _ _) _))
  have Vs_0 := Lib.hid (show RV (((w.alloc (.cells #[.bool g1, .slice a1 n1 c1, .bool h1, .slice b1 m1 d1] 26)).alloc (.cells #[.bool g2, .slice a2 n2 c2, .bool h2, .slice b2 m2 d2] 26)).alloc (.cells #[.bool g3, .slice a3 n3 c3, .bool h3, .slice b3 m3 d3] 26)) (w.heap.size + 1) g2 a2 n2 c2 h2 b2 m2 d2 p2 q2 from (RV.new' (hr2.below (w' := w.alloc (.cells #[.bool g1, .slice a1 n1 c1, .bool h1, .slice b1 m1 d1] 26)) (Below.alloc' (Below.refl _ _) _)) (by simp)).below (Below.alloc' (Below.refl _ _) _))
  have Vt_0 := Lib.hid (show RV (((w.alloc (.cells #[.bool g1, .slice a1 n1 c1, .bool h1, .slice b1 m1 d1] 26)).alloc (.cells #[.bool g2, .slice a2 n2 c2, .bool h2, .slice b2 m2 d2] 26)).alloc (.cells #[.bool g3, .slice a3 n3 c3, .bool h3, .slice b3 m3 d3] 26)) (w.heap.size + 1 + 1) g3 a3 n3 c3 h3 b3 m3 d3 p3 q3 from RV.new' (hr3.below (Below.alloc2 _ _ _)) (by simp))
  have VT_0 := Lib.hid (TB.of hT HW0.out)
  clear hT hr1 hr2 hr3
  go_enter Tryd.func3, Tryd.ntmps3
  go_wp2_with fail
  refine calls_at (fun W => Below w.heap.size w W ∧ RV W w.heap.size g1 a1 n1 c1 h1 b1 m1 d1 (p1) (q1) ∧ RV W (w.heap.size + 1) g2 a2 n2 c2 h2 b2 m2 d2 (p2) (q2) ∧ RV W (w.heap.size + 1 + 1) g3 a3 n3 c3 h3 b3 m3 d3 (p3) (q3) ∧ TB W) ⟨HW0.out, Vr_0.out, Vs_0.out, Vt_0.out, VT_0.out⟩ ?_
  rintro w0 ⟨hB, hr, hs, ht, hT⟩
  clear HW0 Vr_0 Vs_0 Vt_0 VT_0
  have HW0 := Lib.hid hB
  have Vr_0 := Lib.hid hr
  have Vs_0 := Lib.hid hs
  have Vt_0 := Lib.hid ht
  have VT_0 := Lib.hid hT
  clear hB hr hs ht hT
  refine (alive_any _ (VT_0.out.tab (Below.refl _ _))).mono ?_
  rintro e w1 ⟨rfl, hB⟩
  have Vr_1 := Lib.hid (Vr_0.out.below hB)
  have Vs_1 := Lib.hid (Vs_0.out.below hB)
  have Vt_1 := Lib.hid (Vt_0.out.below hB)
  have VT_1 := Lib.hid (VT_0.out.below hB)
  have HW1 := Lib.hid (Below.up HW0.out hB)
  clear HW0 Vr_0 Vs_0 Vt_0 VT_0
  clear hB
  obtain ⟨or0, or1, or2, or3, or4, _⟩ := Vr_1.out
  go_wp2_with fail
  refine (Wide_any _ n1 m1 p1 q1 _ Vr_1.out.2.2.2.2.2).mono ?_
  rintro e w2 ⟨⟨L1, rfl, hL1⟩, hB⟩
  have dL1 : decide ((8 : Int) < (L1 : Int)) = false := decide_eq_false (by omega)
  have Vr_2 := Lib.hid (Vr_1.out.below hB)
  have Vs_2 := Lib.hid (Vs_1.out.below hB)
  have Vt_2 := Lib.hid (Vt_1.out.below hB)
  have VT_2 := Lib.hid (VT_1.out.below hB)
  have HW2 := Lib.hid (Below.up HW1.out hB)
  clear HW1 Vr_1 Vs_1 Vt_1 VT_1
  clear hB
  obtain ⟨os0, os1, os2, os3, os4, _⟩ := Vs_2.out
  go_wp2_with fail
  refine (Wide_any _ n2 m2 p2 q2 _ Vs_2.out.2.2.2.2.2).mono ?_
  rintro e w3 ⟨⟨L2, rfl, hL2⟩, hB⟩
  have dL2 : decide ((8 : Int) < (L2 : Int)) = false := decide_eq_false (by omega)
  have Vr_3 := Lib.hid (Vr_2.out.below hB)
  have Vs_3 := Lib.hid (Vs_2.out.below hB)
  have Vt_3 := Lib.hid (Vt_2.out.below hB)
  have VT_3 := Lib.hid (VT_2.out.below hB)
  have HW3 := Lib.hid (Below.up HW2.out hB)
  clear HW2 Vr_2 Vs_2 Vt_2 VT_2
  clear hB
  obtain ⟨ot0, ot1, ot2, ot3, ot4, _⟩ := Vt_3.out
  go_wp2_with fail
  refine (Wide_any _ n3 m3 p3 q3 _ Vt_3.out.2.2.2.2.2).mono ?_
  rintro e w4 ⟨⟨L3, rfl, hL3⟩, hB⟩
  have dL3 : decide ((8 : Int) < (L3 : Int)) = false := decide_eq_false (by omega)
  have Vr_4 := Lib.hid (Vr_3.out.below hB)
  have Vs_4 := Lib.hid (Vs_3.out.below hB)
  have Vt_4 := Lib.hid (Vt_3.out.below hB)
  have VT_4 := Lib.hid (VT_3.out.below hB)
  have HW4 := Lib.hid (Below.up HW3.out hB)
  clear HW3 Vr_3 Vs_3 Vt_3 VT_3
  clear hB
  go_wp2_with fail
  go_cut [8] from 14 (fun s0 W => s0 = .bool true ∧ Hid (Below w.heap.size w W ∧ RV W w.heap.size g1 a1 n1 c1 h1 b1 m1 d1 (p1) (q1) ∧ RV W (w.heap.size + 1) g2 a2 n2 c2 h2 b2 m2 d2 (p2) (q2) ∧ RV W (w.heap.size + 1 + 1) g3 a3 n3 c3 h3 b3 m3 d3 (p3) (q3) ∧ TB W))
  case first =>
    rename_i hJ hK
    as_aux_lemma =>
      have KEEP := Lib.hid (fun (W : World) (hB : Below w4.heap.size w4 W)   => (show Below w.heap.size w W ∧ RV W w.heap.size g1 a1 n1 c1 h1 b1 m1 d1 (p1) (q1) ∧ RV W (w.heap.size + 1) g2 a2 n2 c2 h2 b2 m2 d2 (p2) (q2) ∧ RV W (w.heap.size + 1 + 1) g3 a3 n3 c3 h3 b3 m3 d3 (p3) (q3) ∧ TB W from ⟨Below.up HW4.out hB, Vr_4.out.below hB, Vs_4.out.below hB, Vt_4.out.below hB, VT_4.out.below hB⟩))
      have B4_ := Lib.hid (Below.refl w4.heap.size w4)
      have M4 := Lib.hid (show ∀ w', Below w4.heap.size w4 w' → w'.cell? ⟨w.heap.size, 0, none⟩ = some (.bool g1) ∧ w'.cell? ⟨w.heap.size, 1, none⟩ = some (.slice a1 n1 c1) ∧ w'.cell? ⟨w.heap.size, 2, none⟩ = some (.bool h1) ∧ w'.cell? ⟨w.heap.size, 3, none⟩ = some (.slice b1 m1 d1) ∧ w'.cell? ⟨(w.heap.size + 1), 0, none⟩ = some (.bool g2) ∧ w'.cell? ⟨(w.heap.size + 1), 1, none⟩ = some (.slice a2 n2 c2) ∧ w'.cell? ⟨(w.heap.size + 1), 2, none⟩ = some (.bool h2) ∧ w'.cell? ⟨(w.heap.size + 1), 3, none⟩ = some (.slice b2 m2 d2) ∧ w'.cell? ⟨(w.heap.size + 1 + 1), 0, none⟩ = some (.bool g3) ∧ w'.cell? ⟨(w.heap.size + 1 + 1), 1, none⟩ = some (.slice a3 n3 c3) ∧ w'.cell? ⟨(w.heap.size + 1 + 1), 2, none⟩ = some (.bool h3) ∧ w'.cell? ⟨(w.heap.size + 1 + 1), 3, none⟩ = some (.slice b3 m3 d3) from fun w' h => ⟨(Vr_4.out.below h).1, (Vr_4.out.below h).2.1, (Vr_4.out.below h).2.2.1, (Vr_4.out.below h).2.2.2.1, (Vs_4.out.below h).1, (Vs_4.out.below h).2.1, (Vs_4.out.below h).2.2.1, (Vs_4.out.below h).2.2.2.1, (Vt_4.out.below h).1, (Vt_4.out.below h).2.1, (Vt_4.out.below h).2.2.1, (Vt_4.out.below h).2.2.2.1⟩)
      obtain ⟨or0, or1, or2, or3, or4, _⟩ := Vr_4.out
      obtain ⟨os0, os1, os2, os3, os4, _⟩ := Vs_4.out
      obtain ⟨ot0, ot1, ot2, ot3, ot4, _⟩ := Vt_4.out
      have D4 := Lib.hid (Below.drew B4_.out)
      go_region_held3 (fun w' => w'.cell? ⟨w.heap.size, 0, none⟩ = some (.bool g1) ∧ w'.cell? ⟨w.heap.size, 1, none⟩ = some (.slice a1 n1 c1) ∧ w'.cell? ⟨w.heap.size, 2, none⟩ = some (.bool h1) ∧ w'.cell? ⟨w.heap.size, 3, none⟩ = some (.slice b1 m1 d1) ∧ w'.cell? ⟨(w.heap.size + 1), 0, none⟩ = some (.bool g2) ∧ w'.cell? ⟨(w.heap.size + 1), 1, none⟩ = some (.slice a2 n2 c2) ∧ w'.cell? ⟨(w.heap.size + 1), 2, none⟩ = some (.bool h2) ∧ w'.cell? ⟨(w.heap.size + 1), 3, none⟩ = some (.slice b2 m2 d2) ∧ w'.cell? ⟨(w.heap.size + 1 + 1), 0, none⟩ = some (.bool g3) ∧ w'.cell? ⟨(w.heap.size + 1 + 1), 1, none⟩ = some (.slice a3 n3 c3) ∧ w'.cell? ⟨(w.heap.size + 1 + 1), 2, none⟩ = some (.bool h3) ∧ w'.cell? ⟨(w.heap.size + 1 + 1), 3, none⟩ = some (.slice b3 m3 d3))
        (first | (with_reducible exact M4.out _ D4.out) | (with_reducible exact M4.out _ T4_0.out) | (with_reducible exact M4.out _ T4_1.out) | (with_reducible exact M4.out _ T4_2.out) | (with_reducible exact M4.out _ T4_3.out) | (with_reducible exact M4.out _ T4_4.out) | (with_reducible exact M4.out _ T4_5.out) | (with_reducible exact M4.out _ T4_6.out) | (with_reducible exact M4.out _ T4_7.out))
        (first
        | (go_at_call 10; have s0 : n1 ≤ 39 := (by omega); have s1 : m1 ≤ 37 := (by omega); have s2 : n2 ≤ 39 := (by omega); have s3 : m2 ≤ 37 := (by omega); ((with_reducible refine (plus_vr (.agg #[.bool g1, .slice a1 n1 c1, .bool h1, .slice b1 m1 d1]) (.agg #[.bool g2, .slice a2 n2 c2, .bool h2, .slice b2 m2 d2]) n1 m1 n2 m2 (tP p1 q1) (tQ q1) (tP p2 q2) (tQ q2) _ (VT_4.out.tab D4.out) (AR.vr (Vr_4.out.up D4.out)) (AR.vr (Vs_4.out.up D4.out)) s0 s1 s2 s3).mono ?_); rintro e w4_0 ⟨r4_0, k4_0, j4_0, rfl, hR, hk4_0, hj4_0, hB⟩; have R4_0 := Lib.hid hR; clear hR; have HB4_0 := Lib.hid hB; have T4_0 := Lib.hid (Below.up D4.out hB); clear hB s0 s1 s2 s3))
        | (go_at_call 10; have s0 : n2 ≤ 39 := (by omega); have s1 : m2 ≤ 37 := (by omega); have s2 : n1 ≤ 39 := (by omega); have s3 : m1 ≤ 37 := (by omega); ((with_reducible refine (plus_vr (.agg #[.bool g2, .slice a2 n2 c2, .bool h2, .slice b2 m2 d2]) (.agg #[.bool g1, .slice a1 n1 c1, .bool h1, .slice b1 m1 d1]) n2 m2 n1 m1 (tP p2 q2) (tQ q2) (tP p1 q1) (tQ q1) _ (VT_4.out.tab T4_0.out) (AR.vr (Vs_4.out.up T4_0.out)) (AR.vr (Vr_4.out.up T4_0.out)) s0 s1 s2 s3).mono ?_); rintro e w4_1 ⟨r4_1, k4_1, j4_1, rfl, hR, hk4_1, hj4_1, hB⟩; have R4_1 := Lib.hid hR; clear hR; have HB4_1 := Lib.hid hB; have T4_1 := Lib.hid (Below.up T4_0.out hB); clear hB s0 s1 s2 s3))
        | (go_at_call 9; have s0 : k4_0 ≤ 300 := (by omega); have s1 : j4_0 ≤ 37 := (by omega); have s2 : k4_1 ≤ 300 := (by omega); have s3 : j4_1 ≤ 37 := (by omega); have s4 : ((tP p1 q1) * (tQ q2) + (tP p2 q2) * (tQ q1)) * ((tQ q2) * (tQ q1)) = ((tP p2 q2) * (tQ q1) + (tP p1 q1) * (tQ q2)) * ((tQ q1) * (tQ q2)) := (fl_comm (tP p1 q1) (tQ q1) (tP p2 q2) (tQ q2) (tP p3 q3) (tQ q3)); ((with_reducible refine (same_vr _ _ k4_0 j4_0 k4_1 j4_1 ((tP p1 q1) * (tQ q2) + (tP p2 q2) * (tQ q1)) ((tQ q1) * (tQ q2)) ((tP p2 q2) * (tQ q1) + (tP p1 q1) * (tQ q2)) ((tQ q2) * (tQ q1)) _ (R4_0.out.below HB4_1.out) R4_1.out s0 s1 s2 s3 s4).mono ?_); rintro e w4_2 ⟨rfl, hB⟩; have HB4_2 := Lib.hid hB; have T4_2 := Lib.hid (Below.up T4_1.out hB); clear hB s0 s1 s2 s3 s4))
        | (go_at_call 10; have s0 : n1 ≤ 39 := (by omega); have s1 : m1 ≤ 37 := (by omega); have s2 : n2 ≤ 39 := (by omega); have s3 : m2 ≤ 37 := (by omega); ((with_reducible refine (plus_vr (.agg #[.bool g1, .slice a1 n1 c1, .bool h1, .slice b1 m1 d1]) (.agg #[.bool g2, .slice a2 n2 c2, .bool h2, .slice b2 m2 d2]) n1 m1 n2 m2 (tP p1 q1) (tQ q1) (tP p2 q2) (tQ q2) _ (VT_4.out.tab T4_2.out) (AR.vr (Vr_4.out.up T4_2.out)) (AR.vr (Vs_4.out.up T4_2.out)) s0 s1 s2 s3).mono ?_); rintro e w4_3 ⟨r4_3, k4_3, j4_3, rfl, hR, hk4_3, hj4_3, hB⟩; have R4_3 := Lib.hid hR; clear hR; have HB4_3 := Lib.hid hB; have T4_3 := Lib.hid (Below.up T4_2.out hB); clear hB s0 s1 s2 s3))
        | (go_at_call 10; have s0 : k4_3 ≤ 39 := (by omega); have s1 : j4_3 ≤ 37 := (by omega); have s2 : n3 ≤ 39 := (by omega); have s3 : m3 ≤ 37 := (by omega); ((with_reducible refine (plus_vr _ (.agg #[.bool g3, .slice a3 n3 c3, .bool h3, .slice b3 m3 d3]) k4_3 j4_3 n3 m3 ((tP p1 q1) * (tQ q2) + (tP p2 q2) * (tQ q1)) ((tQ q1) * (tQ q2)) (tP p3 q3) (tQ q3) _ (VT_4.out.tab T4_3.out) R4_3.out (AR.vr (Vt_4.out.up T4_3.out)) s0 s1 s2 s3).mono ?_); rintro e w4_4 ⟨r4_4, k4_4, j4_4, rfl, hR, hk4_4, hj4_4, hB⟩; have R4_4 := Lib.hid hR; clear hR; have HB4_4 := Lib.hid hB; have T4_4 := Lib.hid (Below.up T4_3.out hB); clear hB s0 s1 s2 s3))
        | (go_at_call 10; have s0 : n2 ≤ 39 := (by omega); have s1 : m2 ≤ 37 := (by omega); have s2 : n3 ≤ 39 := (by omega); have s3 : m3 ≤ 37 := (by omega); ((with_reducible refine (plus_vr (.agg #[.bool g2, .slice a2 n2 c2, .bool h2, .slice b2 m2 d2]) (.agg #[.bool g3, .slice a3 n3 c3, .bool h3, .slice b3 m3 d3]) n2 m2 n3 m3 (tP p2 q2) (tQ q2) (tP p3 q3) (tQ q3) _ (VT_4.out.tab T4_4.out) (AR.vr (Vs_4.out.up T4_4.out)) (AR.vr (Vt_4.out.up T4_4.out)) s0 s1 s2 s3).mono ?_); rintro e w4_5 ⟨r4_5, k4_5, j4_5, rfl, hR, hk4_5, hj4_5, hB⟩; have R4_5 := Lib.hid hR; clear hR; have HB4_5 := Lib.hid hB; have T4_5 := Lib.hid (Below.up T4_4.out hB); clear hB s0 s1 s2 s3))
        | (go_at_call 10; have s0 : n1 ≤ 39 := (by omega); have s1 : m1 ≤ 37 := (by omega); have s2 : k4_5 ≤ 39 := (by omega); have s3 : j4_5 ≤ 37 := (by omega); ((with_reducible refine (plus_vr (.agg #[.bool g1, .slice a1 n1 c1, .bool h1, .slice b1 m1 d1]) _ n1 m1 k4_5 j4_5 (tP p1 q1) (tQ q1) ((tP p2 q2) * (tQ q3) + (tP p3 q3) * (tQ q2)) ((tQ q2) * (tQ q3)) _ (VT_4.out.tab T4_5.out) (AR.vr (Vr_4.out.up T4_5.out)) R4_5.out s0 s1 s2 s3).mono ?_); rintro e w4_6 ⟨r4_6, k4_6, j4_6, rfl, hR, hk4_6, hj4_6, hB⟩; have R4_6 := Lib.hid hR; clear hR; have HB4_6 := Lib.hid hB; have T4_6 := Lib.hid (Below.up T4_5.out hB); clear hB s0 s1 s2 s3))
        | (go_at_call 9; have s0 : k4_4 ≤ 300 := (by omega); have s1 : j4_4 ≤ 37 := (by omega); have s2 : k4_6 ≤ 300 := (by omega); have s3 : j4_6 ≤ 37 := (by omega); have s4 : (((tP p1 q1) * (tQ q2) + (tP p2 q2) * (tQ q1)) * (tQ q3) + (tP p3 q3) * ((tQ q1) * (tQ q2))) * ((tQ q1) * ((tQ q2) * (tQ q3))) = ((tP p1 q1) * ((tQ q2) * (tQ q3)) + ((tP p2 q2) * (tQ q3) + (tP p3 q3) * (tQ q2)) * (tQ q1)) * (((tQ q1) * (tQ q2)) * (tQ q3)) := (fl_assoc (tP p1 q1) (tQ q1) (tP p2 q2) (tQ q2) (tP p3 q3) (tQ q3)); ((with_reducible refine (same_vr _ _ k4_4 j4_4 k4_6 j4_6 (((tP p1 q1) * (tQ q2) + (tP p2 q2) * (tQ q1)) * (tQ q3) + (tP p3 q3) * ((tQ q1) * (tQ q2))) (((tQ q1) * (tQ q2)) * (tQ q3)) ((tP p1 q1) * ((tQ q2) * (tQ q3)) + ((tP p2 q2) * (tQ q3) + (tP p3 q3) * (tQ q2)) * (tQ q1)) ((tQ q1) * ((tQ q2) * (tQ q3))) _ ((R4_4.out.below HB4_5.out).below HB4_6.out) R4_6.out s0 s1 s2 s3 s4).mono ?_); rintro e w4_7 ⟨rfl, hB⟩; have HB4_7 := Lib.hid hB; have T4_7 := Lib.hid (Below.up T4_6.out hB); clear hB s0 s1 s2 s3 s4)))
      all_goals as_aux_lemma =>
        refine hK _ _ (Met.intro (hJ _ _ ?_))
        (repeat apply Exists.intro)
        refine ⟨?_, rfl⟩
        exact ⟨rfl, Lib.hid (KEEP.out _ (by ((repeat (first | (with_reducible exact Below.refl _ _) | (with_reducible refine Below.up ?_ HB4_7.out) | (with_reducible refine Below.up ?_ HB4_6.out) | (with_reducible refine Below.up ?_ HB4_5.out) | (with_reducible refine Below.up ?_ HB4_4.out) | (with_reducible refine Below.up ?_ HB4_3.out) | (with_reducible refine Below.up ?_ HB4_2.out) | (with_reducible refine Below.up ?_ HB4_1.out) | (with_reducible refine Below.up ?_ HB4_0.out) | (with_reducible refine Below.alloc' ?_ _) | (with_reducible refine Below.drew' ?_) | (with_reducible refine Below.set' ?_ (by first | exact Nat.le_refl _ | exact Nat.le_succ _ | exact T4_0.out.size | exact T4_1.out.size | exact T4_2.out.size | exact T4_3.out.size | exact T4_4.out.size | exact T4_5.out.size | exact T4_6.out.size | exact T4_7.out.size | exact Nat.le_succ_of_le T4_0.out.size | exact Nat.le_succ_of_le T4_1.out.size | exact Nat.le_succ_of_le T4_2.out.size | exact Nat.le_succ_of_le T4_3.out.size | exact Nat.le_succ_of_le T4_4.out.size | exact Nat.le_succ_of_le T4_5.out.size | exact Nat.le_succ_of_le T4_6.out.size | exact Nat.le_succ_of_le T4_7.out.size) _))); done)))⟩
  case rest =>
    obtain ⟨rfl, hF⟩ := hcut
    generalize wc = w5 at *
    obtain ⟨hB, hr, hs, ht, hT⟩ := hF.out
    have HW5 := Lib.hid hB
    have Vr_5 := Lib.hid hr
    have Vs_5 := Lib.hid hs
    have Vt_5 := Lib.hid ht
    have VT_5 := Lib.hid hT
    clear hF hB hr hs ht hT HW4 Vr_4 Vs_4 Vt_4 VT_4
    go_wp2_with fail
    go_cut [9] from 14 (fun s0 W => s0 = .bool true ∧ Hid (Below w.heap.size w W ∧ RV W w.heap.size g1 a1 n1 c1 h1 b1 m1 d1 (p1) (q1) ∧ RV W (w.heap.size + 1) g2 a2 n2 c2 h2 b2 m2 d2 (p2) (q2) ∧ RV W (w.heap.size + 1 + 1) g3 a3 n3 c3 h3 b3 m3 d3 (p3) (q3) ∧ TB W))
    case first =>
      rename_i hJ hK
      as_aux_lemma =>
        have KEEP := Lib.hid (fun (W : World) (hB : Below w5.heap.size w5 W)   => (show Below w.heap.size w W ∧ RV W w.heap.size g1 a1 n1 c1 h1 b1 m1 d1 (p1) (q1) ∧ RV W (w.heap.size + 1) g2 a2 n2 c2 h2 b2 m2 d2 (p2) (q2) ∧ RV W (w.heap.size + 1 + 1) g3 a3 n3 c3 h3 b3 m3 d3 (p3) (q3) ∧ TB W from ⟨Below.up HW5.out hB, Vr_5.out.below hB, Vs_5.out.below hB, Vt_5.out.below hB, VT_5.out.below hB⟩))
        have B5_ := Lib.hid (Below.refl w5.heap.size w5)
        have M5 := Lib.hid (show ∀ w', Below w5.heap.size w5 w' → w'.cell? ⟨w.heap.size, 0, none⟩ = some (.bool g1) ∧ w'.cell? ⟨w.heap.size, 1, none⟩ = some (.slice a1 n1 c1) ∧ w'.cell? ⟨w.heap.size, 2, none⟩ = some (.bool h1) ∧ w'.cell? ⟨w.heap.size, 3, none⟩ = some (.slice b1 m1 d1) ∧ w'.cell? ⟨(w.heap.size + 1), 0, none⟩ = some (.bool g2) ∧ w'.cell? ⟨(w.heap.size + 1), 1, none⟩ = some (.slice a2 n2 c2) ∧ w'.cell? ⟨(w.heap.size + 1), 2, none⟩ = some (.bool h2) ∧ w'.cell? ⟨(w.heap.size + 1), 3, none⟩ = some (.slice b2 m2 d2) ∧ w'.cell? ⟨(w.heap.size + 1 + 1), 0, none⟩ = some (.bool g3) ∧ w'.cell? ⟨(w.heap.size + 1 + 1), 1, none⟩ = some (.slice a3 n3 c3) ∧ w'.cell? ⟨(w.heap.size + 1 + 1), 2, none⟩ = some (.bool h3) ∧ w'.cell? ⟨(w.heap.size + 1 + 1), 3, none⟩ = some (.slice b3 m3 d3) from fun w' h => ⟨(Vr_5.out.below h).1, (Vr_5.out.below h).2.1, (Vr_5.out.below h).2.2.1, (Vr_5.out.below h).2.2.2.1, (Vs_5.out.below h).1, (Vs_5.out.below h).2.1, (Vs_5.out.below h).2.2.1, (Vs_5.out.below h).2.2.2.1, (Vt_5.out.below h).1, (Vt_5.out.below h).2.1, (Vt_5.out.below h).2.2.1, (Vt_5.out.below h).2.2.2.1⟩)
        obtain ⟨or0, or1, or2, or3, or4, _⟩ := Vr_5.out
        obtain ⟨os0, os1, os2, os3, os4, _⟩ := Vs_5.out
        obtain ⟨ot0, ot1, ot2, ot3, ot4, _⟩ := Vt_5.out
        have D5 := Lib.hid (Below.drew B5_.out)
        go_region_held3 (fun w' => w'.cell? ⟨w.heap.size, 0, none⟩ = some (.bool g1) ∧ w'.cell? ⟨w.heap.size, 1, none⟩ = some (.slice a1 n1 c1) ∧ w'.cell? ⟨w.heap.size, 2, none⟩ = some (.bool h1) ∧ w'.cell? ⟨w.heap.size, 3, none⟩ = some (.slice b1 m1 d1) ∧ w'.cell? ⟨(w.heap.size + 1), 0, none⟩ = some (.bool g2) ∧ w'.cell? ⟨(w.heap.size + 1), 1, none⟩ = some (.slice a2 n2 c2) ∧ w'.cell? ⟨(w.heap.size + 1), 2, none⟩ = some (.bool h2) ∧ w'.cell? ⟨(w.heap.size + 1), 3, none⟩ = some (.slice b2 m2 d2) ∧ w'.cell? ⟨(w.heap.size + 1 + 1), 0, none⟩ = some (.bool g3) ∧ w'.cell? ⟨(w.heap.size + 1 + 1), 1, none⟩ = some (.slice a3 n3 c3) ∧ w'.cell? ⟨(w.heap.size + 1 + 1), 2, none⟩ = some (.bool h3) ∧ w'.cell? ⟨(w.heap.size + 1 + 1), 3, none⟩ = some (.slice b3 m3 d3))
          (first | (with_reducible exact M5.out _ D5.out) | (with_reducible exact M5.out _ T5_0.out) | (with_reducible exact M5.out _ T5_1.out) | (with_reducible exact M5.out _ T5_2.out) | (with_reducible exact M5.out _ T5_3.out) | (with_reducible exact M5.out _ T5_4.out) | (with_reducible exact M5.out _ T5_5.out))
          (first
          | (go_at_call 10; have s0 : n1 ≤ 39 := (by omega); have s1 : m1 ≤ 37 := (by omega); have s2 : n2 ≤ 39 := (by omega); have s3 : m2 ≤ 37 := (by omega); ((with_reducible refine (plus_vr (.agg #[.bool g1, .slice a1 n1 c1, .bool h1, .slice b1 m1 d1]) (.agg #[.bool g2, .slice a2 n2 c2, .bool h2, .slice b2 m2 d2]) n1 m1 n2 m2 (tP p1 q1) (tQ q1) (tP p2 q2) (tQ q2) _ (VT_5.out.tab D5.out) (AR.vr (Vr_5.out.up D5.out)) (AR.vr (Vs_5.out.up D5.out)) s0 s1 s2 s3).mono ?_); rintro e w5_0 ⟨r5_0, k5_0, j5_0, rfl, hR, hk5_0, hj5_0, hB⟩; have R5_0 := Lib.hid hR; clear hR; have HB5_0 := Lib.hid hB; have T5_0 := Lib.hid (Below.up D5.out hB); clear hB s0 s1 s2 s3))
          | (go_at_call 11; have s0 : k5_0 ≤ 300 := (by omega); have s1 : j5_0 ≤ 300 := (by omega); have s2 : n3 ≤ 39 := (by omega); have s3 : m3 ≤ 39 := (by omega); ((with_reducible refine (times_vr _ (.agg #[.bool g3, .slice a3 n3 c3, .bool h3, .slice b3 m3 d3]) k5_0 j5_0 n3 m3 ((tP p1 q1) * (tQ q2) + (tP p2 q2) * (tQ q1)) ((tQ q1) * (tQ q2)) (tP p3 q3) (tQ q3) _ (VT_5.out.tab T5_0.out) R5_0.out (AR.vr (Vt_5.out.up T5_0.out)) s0 s1 s2 s3).mono ?_); rintro e w5_1 ⟨r5_1, k5_1, j5_1, rfl, hR, hk5_1, hj5_1, hB⟩; have R5_1 := Lib.hid hR; clear hR; have HB5_1 := Lib.hid hB; have T5_1 := Lib.hid (Below.up T5_0.out hB); clear hB s0 s1 s2 s3))
          | (go_at_call 11; have s0 : n1 ≤ 300 := (by omega); have s1 : m1 ≤ 300 := (by omega); have s2 : n3 ≤ 39 := (by omega); have s3 : m3 ≤ 39 := (by omega); ((with_reducible refine (times_vr (.agg #[.bool g1, .slice a1 n1 c1, .bool h1, .slice b1 m1 d1]) (.agg #[.bool g3, .slice a3 n3 c3, .bool h3, .slice b3 m3 d3]) n1 m1 n3 m3 (tP p1 q1) (tQ q1) (tP p3 q3) (tQ q3) _ (VT_5.out.tab T5_1.out) (AR.vr (Vr_5.out.up T5_1.out)) (AR.vr (Vt_5.out.up T5_1.out)) s0 s1 s2 s3).mono ?_); rintro e w5_2 ⟨r5_2, k5_2, j5_2, rfl, hR, hk5_2, hj5_2, hB⟩; have R5_2 := Lib.hid hR; clear hR; have HB5_2 := Lib.hid hB; have T5_2 := Lib.hid (Below.up T5_1.out hB); clear hB s0 s1 s2 s3))
          | (go_at_call 11; have s0 : n2 ≤ 300 := (by omega); have s1 : m2 ≤ 300 := (by omega); have s2 : n3 ≤ 39 := (by omega); have s3 : m3 ≤ 39 := (by omega); ((with_reducible refine (times_vr (.agg #[.bool g2, .slice a2 n2 c2, .bool h2, .slice b2 m2 d2]) (.agg #[.bool g3, .slice a3 n3 c3, .bool h3, .slice b3 m3 d3]) n2 m2 n3 m3 (tP p2 q2) (tQ q2) (tP p3 q3) (tQ q3) _ (VT_5.out.tab T5_2.out) (AR.vr (Vs_5.out.up T5_2.out)) (AR.vr (Vt_5.out.up T5_2.out)) s0 s1 s2 s3).mono ?_); rintro e w5_3 ⟨r5_3, k5_3, j5_3, rfl, hR, hk5_3, hj5_3, hB⟩; have R5_3 := Lib.hid hR; clear hR; have HB5_3 := Lib.hid hB; have T5_3 := Lib.hid (Below.up T5_2.out hB); clear hB s0 s1 s2 s3))
          | (go_at_call 10; have s0 : k5_2 ≤ 39 := (by omega); have s1 : j5_2 ≤ 37 := (by omega); have s2 : k5_3 ≤ 39 := (by omega); have s3 : j5_3 ≤ 37 := (by omega); ((with_reducible refine (plus_vr _ _ k5_2 j5_2 k5_3 j5_3 ((tP p1 q1) * (tP p3 q3)) ((tQ q1) * (tQ q3)) ((tP p2 q2) * (tP p3 q3)) ((tQ q2) * (tQ q3)) _ (VT_5.out.tab T5_3.out) (R5_2.out.below HB5_3.out) R5_3.out s0 s1 s2 s3).mono ?_); rintro e w5_4 ⟨r5_4, k5_4, j5_4, rfl, hR, hk5_4, hj5_4, hB⟩; have R5_4 := Lib.hid hR; clear hR; have HB5_4 := Lib.hid hB; have T5_4 := Lib.hid (Below.up T5_3.out hB); clear hB s0 s1 s2 s3))
          | (go_at_call 9; have s0 : k5_1 ≤ 300 := (by omega); have s1 : j5_1 ≤ 37 := (by omega); have s2 : k5_4 ≤ 300 := (by omega); have s3 : j5_4 ≤ 37 := (by omega); have s4 : (((tP p1 q1) * (tQ q2) + (tP p2 q2) * (tQ q1)) * (tP p3 q3)) * (((tQ q1) * (tQ q3)) * ((tQ q2) * (tQ q3))) = (((tP p1 q1) * (tP p3 q3)) * ((tQ q2) * (tQ q3)) + ((tP p2 q2) * (tP p3 q3)) * ((tQ q1) * (tQ q3))) * (((tQ q1) * (tQ q2)) * (tQ q3)) := (fl_dist (tP p1 q1) (tQ q1) (tP p2 q2) (tQ q2) (tP p3 q3) (tQ q3)); ((with_reducible refine (same_vr _ _ k5_1 j5_1 k5_4 j5_4 (((tP p1 q1) * (tQ q2) + (tP p2 q2) * (tQ q1)) * (tP p3 q3)) (((tQ q1) * (tQ q2)) * (tQ q3)) (((tP p1 q1) * (tP p3 q3)) * ((tQ q2) * (tQ q3)) + ((tP p2 q2) * (tP p3 q3)) * ((tQ q1) * (tQ q3))) (((tQ q1) * (tQ q3)) * ((tQ q2) * (tQ q3))) _ (((R5_1.out.below HB5_2.out).below HB5_3.out).below HB5_4.out) R5_4.out s0 s1 s2 s3 s4).mono ?_); rintro e w5_5 ⟨rfl, hB⟩; have HB5_5 := Lib.hid hB; have T5_5 := Lib.hid (Below.up T5_4.out hB); clear hB s0 s1 s2 s3 s4)))
        all_goals as_aux_lemma =>
          refine hK _ _ (Met.intro (hJ _ _ ?_))
          (repeat apply Exists.intro)
          refine ⟨?_, rfl⟩
          exact ⟨rfl, Lib.hid (KEEP.out _ (by ((repeat (first | (with_reducible exact Below.refl _ _) | (with_reducible refine Below.up ?_ HB5_5.out) | (with_reducible refine Below.up ?_ HB5_4.out) | (with_reducible refine Below.up ?_ HB5_3.out) | (with_reducible refine Below.up ?_ HB5_2.out) | (with_reducible refine Below.up ?_ HB5_1.out) | (with_reducible refine Below.up ?_ HB5_0.out) | (with_reducible refine Below.alloc' ?_ _) | (with_reducible refine Below.drew' ?_) | (with_reducible refine Below.set' ?_ (by first | exact Nat.le_refl _ | exact Nat.le_succ _ | exact T5_0.out.size | exact T5_1.out.size | exact T5_2.out.size | exact T5_3.out.size | exact T5_4.out.size | exact T5_5.out.size | exact Nat.le_succ_of_le T5_0.out.size | exact Nat.le_succ_of_le T5_1.out.size | exact Nat.le_succ_of_le T5_2.out.size | exact Nat.le_succ_of_le T5_3.out.size | exact Nat.le_succ_of_le T5_4.out.size | exact Nat.le_succ_of_le T5_5.out.size) _))); done)))⟩
    case rest =>
      obtain ⟨rfl, hF⟩ := hcut
      generalize wc = w6 at *
      obtain ⟨hB, hr, hs, ht, hT⟩ := hF.out
      have HW6 := Lib.hid hB
      have Vr_6 := Lib.hid hr
      have Vs_6 := Lib.hid hs
      have Vt_6 := Lib.hid ht
      have VT_6 := Lib.hid hT
      clear hF hB hr hs ht hT HW5 Vr_5 Vs_5 Vt_5 VT_5
      have wr2 : IntKind.i64.wrap (- ord ((tP p1 q1) * (tQ q2)) ((tP p2 q2) * (tQ q1))) = - ord ((tP p1 q1) * (tQ q2)) ((tP p2 q2) * (tQ q1)) := ord_wrapn _ _
      go_wp2_with fail
      go_cut [10] from 14 (fun s0 W => s0 = .bool true ∧ Hid (Below w.heap.size w W ∧ RV W w.heap.size g1 a1 n1 c1 h1 b1 m1 d1 (p1) (q1) ∧ RV W (w.heap.size + 1) g2 a2 n2 c2 h2 b2 m2 d2 (p2) (q2) ∧ RV W (w.heap.size + 1 + 1) g3 a3 n3 c3 h3 b3 m3 d3 (p3) (q3) ∧ TB W))
      case first =>
        rename_i hJ hK
        as_aux_lemma =>
          have KEEP := Lib.hid (fun (W : World) (hB : Below w6.heap.size w6 W)   => (show Below w.heap.size w W ∧ RV W w.heap.size g1 a1 n1 c1 h1 b1 m1 d1 (p1) (q1) ∧ RV W (w.heap.size + 1) g2 a2 n2 c2 h2 b2 m2 d2 (p2) (q2) ∧ RV W (w.heap.size + 1 + 1) g3 a3 n3 c3 h3 b3 m3 d3 (p3) (q3) ∧ TB W from ⟨Below.up HW6.out hB, Vr_6.out.below hB, Vs_6.out.below hB, Vt_6.out.below hB, VT_6.out.below hB⟩))
          have B6_ := Lib.hid (Below.refl w6.heap.size w6)
          have M6 := Lib.hid (show ∀ w', Below w6.heap.size w6 w' → w'.cell? ⟨w.heap.size, 0, none⟩ = some (.bool g1) ∧ w'.cell? ⟨w.heap.size, 1, none⟩ = some (.slice a1 n1 c1) ∧ w'.cell? ⟨w.heap.size, 2, none⟩ = some (.bool h1) ∧ w'.cell? ⟨w.heap.size, 3, none⟩ = some (.slice b1 m1 d1) ∧ w'.cell? ⟨(w.heap.size + 1), 0, none⟩ = some (.bool g2) ∧ w'.cell? ⟨(w.heap.size + 1), 1, none⟩ = some (.slice a2 n2 c2) ∧ w'.cell? ⟨(w.heap.size + 1), 2, none⟩ = some (.bool h2) ∧ w'.cell? ⟨(w.heap.size + 1), 3, none⟩ = some (.slice b2 m2 d2) from fun w' h => ⟨(Vr_6.out.below h).1, (Vr_6.out.below h).2.1, (Vr_6.out.below h).2.2.1, (Vr_6.out.below h).2.2.2.1, (Vs_6.out.below h).1, (Vs_6.out.below h).2.1, (Vs_6.out.below h).2.2.1, (Vs_6.out.below h).2.2.2.1⟩)
          obtain ⟨or0, or1, or2, or3, or4, _⟩ := Vr_6.out
          obtain ⟨os0, os1, os2, os3, os4, _⟩ := Vs_6.out
          have D6 := Lib.hid (Below.drew B6_.out)
          go_region_held3 (fun w' => w'.cell? ⟨w.heap.size, 0, none⟩ = some (.bool g1) ∧ w'.cell? ⟨w.heap.size, 1, none⟩ = some (.slice a1 n1 c1) ∧ w'.cell? ⟨w.heap.size, 2, none⟩ = some (.bool h1) ∧ w'.cell? ⟨w.heap.size, 3, none⟩ = some (.slice b1 m1 d1) ∧ w'.cell? ⟨(w.heap.size + 1), 0, none⟩ = some (.bool g2) ∧ w'.cell? ⟨(w.heap.size + 1), 1, none⟩ = some (.slice a2 n2 c2) ∧ w'.cell? ⟨(w.heap.size + 1), 2, none⟩ = some (.bool h2) ∧ w'.cell? ⟨(w.heap.size + 1), 3, none⟩ = some (.slice b2 m2 d2))
            (first | (with_reducible exact M6.out _ D6.out) | (with_reducible exact M6.out _ T6_0.out) | (with_reducible exact M6.out _ T6_1.out) | (with_reducible exact M6.out _ T6_2.out) | (with_reducible exact M6.out _ T6_3.out) | (with_reducible exact M6.out _ T6_4.out))
            (first
            | (go_at_call 10; have s0 : n1 ≤ 39 := (by omega); have s1 : m1 ≤ 37 := (by omega); have s2 : n2 ≤ 39 := (by omega); have s3 : m2 ≤ 37 := (by omega); ((with_reducible refine (plus_vr (.agg #[.bool g1, .slice a1 n1 c1, .bool h1, .slice b1 m1 d1]) (.agg #[.bool g2, .slice a2 n2 c2, .bool h2, .slice b2 m2 d2]) n1 m1 n2 m2 (tP p1 q1) (tQ q1) (tP p2 q2) (tQ q2) _ (VT_6.out.tab D6.out) (AR.vr (Vr_6.out.up D6.out)) (AR.vr (Vs_6.out.up D6.out)) s0 s1 s2 s3).mono ?_); rintro e w6_0 ⟨r6_0, k6_0, j6_0, rfl, hR, hk6_0, hj6_0, hB⟩; have R6_0 := Lib.hid hR; clear hR; have HB6_0 := Lib.hid hB; have T6_0 := Lib.hid (Below.up D6.out hB); clear hB s0 s1 s2 s3))
            | (go_at_call 12; have s0 : k6_0 ≤ 39 := (by omega); have s1 : j6_0 ≤ 37 := (by omega); have s2 : n2 ≤ 39 := (by omega); have s3 : m2 ≤ 37 := (by omega); ((with_reducible refine (minus_vr _ (.agg #[.bool g2, .slice a2 n2 c2, .bool h2, .slice b2 m2 d2]) k6_0 j6_0 n2 m2 ((tP p1 q1) * (tQ q2) + (tP p2 q2) * (tQ q1)) ((tQ q1) * (tQ q2)) (tP p2 q2) (tQ q2) _ (VT_6.out.tab T6_0.out) R6_0.out (AR.vr (Vs_6.out.up T6_0.out)) s0 s1 s2 s3).mono ?_); rintro e w6_1 ⟨r6_1, k6_1, j6_1, rfl, hR, hk6_1, hj6_1, hB⟩; have R6_1 := Lib.hid hR; clear hR; have HB6_1 := Lib.hid hB; have T6_1 := Lib.hid (Below.up T6_0.out hB); clear hB s0 s1 s2 s3))
            | (go_at_call 9; have s0 : k6_1 ≤ 300 := (by omega); have s1 : j6_1 ≤ 37 := (by omega); have s2 : n1 ≤ 300 := (by omega); have s3 : m1 ≤ 37 := (by omega); have s4 : (((tP p1 q1) * (tQ q2) + (tP p2 q2) * (tQ q1)) * (tQ q2) - (tP p2 q2) * ((tQ q1) * (tQ q2))) * (tQ q1) = (tP p1 q1) * (((tQ q1) * (tQ q2)) * (tQ q2)) := (fl_back (tP p1 q1) (tQ q1) (tP p2 q2) (tQ q2) (tP p3 q3) (tQ q3)); ((with_reducible refine (same_vr _ (.agg #[.bool g1, .slice a1 n1 c1, .bool h1, .slice b1 m1 d1]) k6_1 j6_1 n1 m1 (((tP p1 q1) * (tQ q2) + (tP p2 q2) * (tQ q1)) * (tQ q2) - (tP p2 q2) * ((tQ q1) * (tQ q2))) (((tQ q1) * (tQ q2)) * (tQ q2)) (tP p1 q1) (tQ q1) _ R6_1.out (AR.vr (Vr_6.out.up T6_1.out)) s0 s1 s2 s3 s4).mono ?_); rintro e w6_2 ⟨rfl, hB⟩; have HB6_2 := Lib.hid hB; have T6_2 := Lib.hid (Below.up T6_1.out hB); clear hB s0 s1 s2 s3 s4))
            | (go_at_call 13; have s0 : n2 ≤ 300 := (by omega); have s1 : m2 ≤ 37 := (by omega); have s2 : n1 ≤ 300 := (by omega); have s3 : m1 ≤ 37 := (by omega); have s4 : ord ((tP p2 q2) * (tQ q1)) ((tP p1 q1) * (tQ q2)) = (- ord ((tP p1 q1) * (tQ q2)) ((tP p2 q2) * (tQ q1))) := (ord_swap _ _); ((with_reducible refine (compare_vr (.agg #[.bool g2, .slice a2 n2 c2, .bool h2, .slice b2 m2 d2]) (.agg #[.bool g1, .slice a1 n1 c1, .bool h1, .slice b1 m1 d1]) n2 m2 n1 m1 (tP p2 q2) (tQ q2) (tP p1 q1) (tQ q1) ((- ord ((tP p1 q1) * (tQ q2)) ((tP p2 q2) * (tQ q1)))) _ (AR.vr (Vs_6.out.up T6_2.out)) (AR.vr (Vr_6.out.up T6_2.out)) s0 s1 s2 s3 s4).mono ?_); rintro e w6_3 ⟨rfl, hB⟩; have HB6_3 := Lib.hid hB; have T6_3 := Lib.hid (Below.up T6_2.out hB); clear hB s0 s1 s2 s3 s4))
            | (go_at_call 13; have s0 : n1 ≤ 300 := (by omega); have s1 : m1 ≤ 37 := (by omega); have s2 : n2 ≤ 300 := (by omega); have s3 : m2 ≤ 37 := (by omega); have s4 : ord ((tP p1 q1) * (tQ q2)) ((tP p2 q2) * (tQ q1)) = (ord ((tP p1 q1) * (tQ q2)) ((tP p2 q2) * (tQ q1))) := rfl; ((with_reducible refine (compare_vr (.agg #[.bool g1, .slice a1 n1 c1, .bool h1, .slice b1 m1 d1]) (.agg #[.bool g2, .slice a2 n2 c2, .bool h2, .slice b2 m2 d2]) n1 m1 n2 m2 (tP p1 q1) (tQ q1) (tP p2 q2) (tQ q2) ((ord ((tP p1 q1) * (tQ q2)) ((tP p2 q2) * (tQ q1)))) _ (AR.vr (Vr_6.out.up T6_3.out)) (AR.vr (Vs_6.out.up T6_3.out)) s0 s1 s2 s3 s4).mono ?_); rintro e w6_4 ⟨rfl, hB⟩; have HB6_4 := Lib.hid hB; have T6_4 := Lib.hid (Below.up T6_3.out hB); clear hB s0 s1 s2 s3 s4)))
          all_goals as_aux_lemma =>
            refine hK _ _ (Met.intro (hJ _ _ ?_))
            (repeat apply Exists.intro)
            refine ⟨?_, rfl⟩
            exact ⟨rfl, Lib.hid (KEEP.out _ (by ((repeat (first | (with_reducible exact Below.refl _ _) | (with_reducible refine Below.up ?_ HB6_4.out) | (with_reducible refine Below.up ?_ HB6_3.out) | (with_reducible refine Below.up ?_ HB6_2.out) | (with_reducible refine Below.up ?_ HB6_1.out) | (with_reducible refine Below.up ?_ HB6_0.out) | (with_reducible refine Below.alloc' ?_ _) | (with_reducible refine Below.drew' ?_) | (with_reducible refine Below.set' ?_ (by first | exact Nat.le_refl _ | exact Nat.le_succ _ | exact T6_0.out.size | exact T6_1.out.size | exact T6_2.out.size | exact T6_3.out.size | exact T6_4.out.size | exact Nat.le_succ_of_le T6_0.out.size | exact Nat.le_succ_of_le T6_1.out.size | exact Nat.le_succ_of_le T6_2.out.size | exact Nat.le_succ_of_le T6_3.out.size | exact Nat.le_succ_of_le T6_4.out.size) _))); done)))⟩
      case rest =>
        obtain ⟨rfl, hF⟩ := hcut
        generalize wc = w7 at *
        obtain ⟨hB, hr, hs, ht, hT⟩ := hF.out
        have HW7 := Lib.hid hB
        have Vr_7 := Lib.hid hr
        have Vs_7 := Lib.hid hs
        have Vt_7 := Lib.hid ht
        have VT_7 := Lib.hid hT
        clear hF hB hr hs ht hT HW6 Vr_6 Vs_6 Vt_6 VT_6
        clear wr2
        obtain ⟨or0, or1, or2, or3, or4, _⟩ := Vr_7.out
        obtain ⟨os0, os1, os2, os3, os4, _⟩ := Vs_7.out
        go_wp2_with fail
        refine (Quotient_cells g1 h1 g2 h2 a1 b1 a2 b2 n1 m1 n2 m2 c1 d1 c2 d2 p1 q1 p2 q2 _ (VT_7.out.tab (Below.refl _ _)) Vr_7.out.2.2.2.2.2 Vs_7.out.2.2.2.2.2 (by omega) (by omega) (by omega) (by omega) (tP_ne HX.out).1 (tP_ne HX.out).2).mono ?_
        rintro e w8 ⟨gz, az, cz, hz, bz, dz, kz, jz, PZ, QZ, rfl, hR, hF, hkz, hjz, hB⟩
        have Vr_8 := Lib.hid (Vr_7.out.below hB)
        have Vs_8 := Lib.hid (Vs_7.out.below hB)
        have Vt_8 := Lib.hid (Vt_7.out.below hB)
        have VT_8 := Lib.hid (VT_7.out.below hB)
        have HW8 := Lib.hid (Below.up HW7.out hB)
        clear HW7 Vr_7 Vs_7 Vt_7 VT_7
        have NR := Lib.hid hR
        have HF := Lib.hid hF
        clear hB hR hF
        clear or0 or1 or2 or3 or4
        clear os0 os1 os2 os3 os4
        obtain ⟨os0, os1, os2, os3, os4, _⟩ := (Vs_8.out.below (w' := (w8.alloc (.cells #[.bool gz, .slice az kz cz, .bool hz, .slice bz jz dz] 26))) (by repeat (first | exact Below.refl _ _ | exact Nat.le_refl _ | (apply Below.alloc) | (refine Below.setCell ?_ (by first | exact Nat.le_refl _ | (simp <;> omega)) _) | (simp <;> omega))))
        go_wp2_with fail
        refine calls_at (fun W => Below w.heap.size w W ∧ RV W w.heap.size g1 a1 n1 c1 h1 b1 m1 d1 (p1) (q1) ∧ RV W (w.heap.size + 1) g2 a2 n2 c2 h2 b2 m2 d2 (p2) (q2) ∧ RV W (w.heap.size + 1 + 1) g3 a3 n3 c3 h3 b3 m3 d3 (p3) (q3) ∧ TB W ∧ RV W w8.heap.size gz az kz cz hz bz jz dz (PZ) (QZ)) ⟨Below.up HW8.out (by repeat (first | exact Below.refl _ _ | exact Nat.le_refl _ | (apply Below.alloc) | (refine Below.setCell ?_ (by first | exact Nat.le_refl _ | (simp <;> omega)) _) | (simp <;> omega))), Vr_8.out.below (by repeat (first | exact Below.refl _ _ | exact Nat.le_refl _ | (apply Below.alloc) | (refine Below.setCell ?_ (by first | exact Nat.le_refl _ | (simp <;> omega)) _) | (simp <;> omega))), Vs_8.out.below (by repeat (first | exact Below.refl _ _ | exact Nat.le_refl _ | (apply Below.alloc) | (refine Below.setCell ?_ (by first | exact Nat.le_refl _ | (simp <;> omega)) _) | (simp <;> omega))), Vt_8.out.below (by repeat (first | exact Below.refl _ _ | exact Nat.le_refl _ | (apply Below.alloc) | (refine Below.setCell ?_ (by first | exact Nat.le_refl _ | (simp <;> omega)) _) | (simp <;> omega))), VT_8.out.below (by repeat (first | exact Below.refl _ _ | exact Nat.le_refl _ | (apply Below.alloc) | (refine Below.setCell ?_ (by first | exact Nat.le_refl _ | (simp <;> omega)) _) | (simp <;> omega))), RV.new NR.out⟩ ?_
        rintro w9 ⟨hB, hr, hs, ht, hT, hz⟩
        have HW9 := Lib.hid hB
        have Vr_9 := Lib.hid hr
        have Vs_9 := Lib.hid hs
        have Vt_9 := Lib.hid ht
        have VT_9 := Lib.hid hT
        have Vz_9 := Lib.hid hz
        clear hB hr hs ht hT hz HW8 Vr_8 Vs_8 Vt_8 VT_8
        clear os0 os1 os2 os3 os4
        clear NR
        refine (Signum_any _ n2 m2 p2 q2 _ Vs_9.out.2.2.2.2.2 (by omega) (by omega)).mono ?_
        rintro e w10 ⟨rfl, hB⟩
        have Vr_10 := Lib.hid (Vr_9.out.below hB)
        have Vs_10 := Lib.hid (Vs_9.out.below hB)
        have Vt_10 := Lib.hid (Vt_9.out.below hB)
        have VT_10 := Lib.hid (VT_9.out.below hB)
        have Vz_10 := Lib.hid (Vz_9.out.below hB)
        have HW10 := Lib.hid (Below.up HW9.out hB)
        clear HW9 Vr_9 Vs_9 Vt_9 VT_9 Vz_9
        clear hB
        have wr3 : IntKind.i64.wrap (ord ((tP p1 q1) * (tQ q3)) ((tP p3 q3) * (tQ q1)) * ord (tP p2 q2) 0) = ord ((tP p1 q1) * (tQ q3)) ((tP p3 q3) * (tQ q1)) * ord (tP p2 q2) 0 := ord_wrap _ _ _
        go_wp2_with fail
        go_cut [13] from 14 (fun s0 W => s0 = .bool true ∧ Hid (Below w.heap.size w W ∧ RV W w.heap.size g1 a1 n1 c1 h1 b1 m1 d1 (p1) (q1) ∧ RV W (w.heap.size + 1) g2 a2 n2 c2 h2 b2 m2 d2 (p2) (q2) ∧ RV W (w.heap.size + 1 + 1) g3 a3 n3 c3 h3 b3 m3 d3 (p3) (q3) ∧ TB W ∧ RV W w8.heap.size gz az kz cz hz bz jz dz (PZ) (QZ)))
        case first =>
          rename_i hJ hK
          as_aux_lemma =>
            have KEEP := Lib.hid (fun (W : World) (hB : Below w10.heap.size w10 W)   => (show Below w.heap.size w W ∧ RV W w.heap.size g1 a1 n1 c1 h1 b1 m1 d1 (p1) (q1) ∧ RV W (w.heap.size + 1) g2 a2 n2 c2 h2 b2 m2 d2 (p2) (q2) ∧ RV W (w.heap.size + 1 + 1) g3 a3 n3 c3 h3 b3 m3 d3 (p3) (q3) ∧ TB W ∧ RV W w8.heap.size gz az kz cz hz bz jz dz (PZ) (QZ) from ⟨Below.up HW10.out hB, Vr_10.out.below hB, Vs_10.out.below hB, Vt_10.out.below hB, VT_10.out.below hB, Vz_10.out.below hB⟩))
            have B10_ := Lib.hid (Below.refl w10.heap.size w10)
            have M10 := Lib.hid (show ∀ w', Below w10.heap.size w10 w' → w'.cell? ⟨w.heap.size, 0, none⟩ = some (.bool g1) ∧ w'.cell? ⟨w.heap.size, 1, none⟩ = some (.slice a1 n1 c1) ∧ w'.cell? ⟨w.heap.size, 2, none⟩ = some (.bool h1) ∧ w'.cell? ⟨w.heap.size, 3, none⟩ = some (.slice b1 m1 d1) ∧ w'.cell? ⟨(w.heap.size + 1), 0, none⟩ = some (.bool g2) ∧ w'.cell? ⟨(w.heap.size + 1), 1, none⟩ = some (.slice a2 n2 c2) ∧ w'.cell? ⟨(w.heap.size + 1), 2, none⟩ = some (.bool h2) ∧ w'.cell? ⟨(w.heap.size + 1), 3, none⟩ = some (.slice b2 m2 d2) ∧ w'.cell? ⟨(w.heap.size + 1 + 1), 0, none⟩ = some (.bool g3) ∧ w'.cell? ⟨(w.heap.size + 1 + 1), 1, none⟩ = some (.slice a3 n3 c3) ∧ w'.cell? ⟨(w.heap.size + 1 + 1), 2, none⟩ = some (.bool h3) ∧ w'.cell? ⟨(w.heap.size + 1 + 1), 3, none⟩ = some (.slice b3 m3 d3) from fun w' h => ⟨(Vr_10.out.below h).1, (Vr_10.out.below h).2.1, (Vr_10.out.below h).2.2.1, (Vr_10.out.below h).2.2.2.1, (Vs_10.out.below h).1, (Vs_10.out.below h).2.1, (Vs_10.out.below h).2.2.1, (Vs_10.out.below h).2.2.2.1, (Vt_10.out.below h).1, (Vt_10.out.below h).2.1, (Vt_10.out.below h).2.2.1, (Vt_10.out.below h).2.2.2.1⟩)
            obtain ⟨or0, or1, or2, or3, or4, _⟩ := Vr_10.out
            obtain ⟨os0, os1, os2, os3, os4, _⟩ := Vs_10.out
            obtain ⟨ot0, ot1, ot2, ot3, ot4, _⟩ := Vt_10.out
            have D10 := Lib.hid (Below.drew B10_.out)
            go_region_held3 (fun w' => w'.cell? ⟨w.heap.size, 0, none⟩ = some (.bool g1) ∧ w'.cell? ⟨w.heap.size, 1, none⟩ = some (.slice a1 n1 c1) ∧ w'.cell? ⟨w.heap.size, 2, none⟩ = some (.bool h1) ∧ w'.cell? ⟨w.heap.size, 3, none⟩ = some (.slice b1 m1 d1) ∧ w'.cell? ⟨(w.heap.size + 1), 0, none⟩ = some (.bool g2) ∧ w'.cell? ⟨(w.heap.size + 1), 1, none⟩ = some (.slice a2 n2 c2) ∧ w'.cell? ⟨(w.heap.size + 1), 2, none⟩ = some (.bool h2) ∧ w'.cell? ⟨(w.heap.size + 1), 3, none⟩ = some (.slice b2 m2 d2) ∧ w'.cell? ⟨(w.heap.size + 1 + 1), 0, none⟩ = some (.bool g3) ∧ w'.cell? ⟨(w.heap.size + 1 + 1), 1, none⟩ = some (.slice a3 n3 c3) ∧ w'.cell? ⟨(w.heap.size + 1 + 1), 2, none⟩ = some (.bool h3) ∧ w'.cell? ⟨(w.heap.size + 1 + 1), 3, none⟩ = some (.slice b3 m3 d3))
              (first | (with_reducible exact M10.out _ D10.out) | (with_reducible exact M10.out _ T10_0.out) | (with_reducible exact M10.out _ T10_1.out) | (with_reducible exact M10.out _ T10_2.out) | (with_reducible exact M10.out _ T10_3.out) | (with_reducible exact M10.out _ T10_4.out))
              (first
              | (go_at_call 11; have s0 : n1 ≤ 300 := (by omega); have s1 : m1 ≤ 300 := (by omega); have s2 : n2 ≤ 39 := (by omega); have s3 : m2 ≤ 39 := (by omega); ((with_reducible refine (times_vr (.agg #[.bool g1, .slice a1 n1 c1, .bool h1, .slice b1 m1 d1]) (.agg #[.bool g2, .slice a2 n2 c2, .bool h2, .slice b2 m2 d2]) n1 m1 n2 m2 (tP p1 q1) (tQ q1) (tP p2 q2) (tQ q2) _ (VT_10.out.tab D10.out) (AR.vr (Vr_10.out.up D10.out)) (AR.vr (Vs_10.out.up D10.out)) s0 s1 s2 s3).mono ?_); rintro e w10_0 ⟨r10_0, k10_0, j10_0, rfl, hR, hk10_0, hj10_0, hB⟩; have R10_0 := Lib.hid hR; clear hR; have HB10_0 := Lib.hid hB; have T10_0 := Lib.hid (Below.up D10.out hB); clear hB s0 s1 s2 s3))
              | (go_at_call 11; have s0 : n3 ≤ 300 := (by omega); have s1 : m3 ≤ 300 := (by omega); have s2 : n2 ≤ 39 := (by omega); have s3 : m2 ≤ 39 := (by omega); ((with_reducible refine (times_vr (.agg #[.bool g3, .slice a3 n3 c3, .bool h3, .slice b3 m3 d3]) (.agg #[.bool g2, .slice a2 n2 c2, .bool h2, .slice b2 m2 d2]) n3 m3 n2 m2 (tP p3 q3) (tQ q3) (tP p2 q2) (tQ q2) _ (VT_10.out.tab T10_0.out) (AR.vr (Vt_10.out.up T10_0.out)) (AR.vr (Vs_10.out.up T10_0.out)) s0 s1 s2 s3).mono ?_); rintro e w10_1 ⟨r10_1, k10_1, j10_1, rfl, hR, hk10_1, hj10_1, hB⟩; have R10_1 := Lib.hid hR; clear hR; have HB10_1 := Lib.hid hB; have T10_1 := Lib.hid (Below.up T10_0.out hB); clear hB s0 s1 s2 s3))
              | (go_at_call 13; have s0 : k10_0 ≤ 300 := (by omega); have s1 : j10_0 ≤ 37 := (by omega); have s2 : k10_1 ≤ 300 := (by omega); have s3 : j10_1 ≤ 37 := (by omega); have s4 : ord (((tP p1 q1) * (tP p2 q2)) * ((tQ q3) * (tQ q2))) (((tP p3 q3) * (tP p2 q2)) * ((tQ q1) * (tQ q2))) = (ord ((tP p1 q1) * (tQ q3)) ((tP p3 q3) * (tQ q1)) * ord (tP p2 q2) 0) := (fl_order (tP p1 q1) (tQ q1) (tP p2 q2) (tQ q2) (tP p3 q3) (tQ q3) (tQ_pos q2)); ((with_reducible refine (compare_vr _ _ k10_0 j10_0 k10_1 j10_1 ((tP p1 q1) * (tP p2 q2)) ((tQ q1) * (tQ q2)) ((tP p3 q3) * (tP p2 q2)) ((tQ q3) * (tQ q2)) ((ord ((tP p1 q1) * (tQ q3)) ((tP p3 q3) * (tQ q1)) * ord (tP p2 q2) 0)) _ (R10_0.out.below HB10_1.out) R10_1.out s0 s1 s2 s3 s4).mono ?_); rintro e w10_2 ⟨rfl, hB⟩; have HB10_2 := Lib.hid hB; have T10_2 := Lib.hid (Below.up T10_1.out hB); clear hB s0 s1 s2 s3 s4))
              | (go_at_call 13; have s0 : n1 ≤ 300 := (by omega); have s1 : m1 ≤ 37 := (by omega); have s2 : n3 ≤ 300 := (by omega); have s3 : m3 ≤ 37 := (by omega); have s4 : ord ((tP p1 q1) * (tQ q3)) ((tP p3 q3) * (tQ q1)) = (ord ((tP p1 q1) * (tQ q3)) ((tP p3 q3) * (tQ q1))) := rfl; ((with_reducible refine (compare_vr (.agg #[.bool g1, .slice a1 n1 c1, .bool h1, .slice b1 m1 d1]) (.agg #[.bool g3, .slice a3 n3 c3, .bool h3, .slice b3 m3 d3]) n1 m1 n3 m3 (tP p1 q1) (tQ q1) (tP p3 q3) (tQ q3) ((ord ((tP p1 q1) * (tQ q3)) ((tP p3 q3) * (tQ q1)))) _ (AR.vr (Vr_10.out.up T10_2.out)) (AR.vr (Vt_10.out.up T10_2.out)) s0 s1 s2 s3 s4).mono ?_); rintro e w10_3 ⟨rfl, hB⟩; have HB10_3 := Lib.hid hB; have T10_3 := Lib.hid (Below.up T10_2.out hB); clear hB s0 s1 s2 s3 s4))
              | (go_at_call 15; have s0 : n2 ≤ 1000000 := (by omega); have s1 : m2 ≤ 1000000 := (by omega); have s2 : ord (tP p2 q2) 0 = (ord (tP p2 q2) 0) := rfl; ((with_reducible refine (signum_vr (.agg #[.bool g2, .slice a2 n2 c2, .bool h2, .slice b2 m2 d2]) n2 m2 (tP p2 q2) (tQ q2) ((ord (tP p2 q2) 0)) _ (AR.vr (Vs_10.out.up T10_3.out)) s0 s1 s2).mono ?_); rintro e w10_4 ⟨rfl, hB⟩; have HB10_4 := Lib.hid hB; have T10_4 := Lib.hid (Below.up T10_3.out hB); clear hB s0 s1 s2)))
            all_goals as_aux_lemma =>
              refine hK _ _ (Met.intro (hJ _ _ ?_))
              (repeat apply Exists.intro)
              refine ⟨?_, rfl⟩
              exact ⟨rfl, Lib.hid (KEEP.out _ (by ((repeat (first | (with_reducible exact Below.refl _ _) | (with_reducible refine Below.up ?_ HB10_4.out) | (with_reducible refine Below.up ?_ HB10_3.out) | (with_reducible refine Below.up ?_ HB10_2.out) | (with_reducible refine Below.up ?_ HB10_1.out) | (with_reducible refine Below.up ?_ HB10_0.out) | (with_reducible refine Below.alloc' ?_ _) | (with_reducible refine Below.drew' ?_) | (with_reducible refine Below.set' ?_ (by first | exact Nat.le_refl _ | exact Nat.le_succ _ | exact T10_0.out.size | exact T10_1.out.size | exact T10_2.out.size | exact T10_3.out.size | exact T10_4.out.size | exact Nat.le_succ_of_le T10_0.out.size | exact Nat.le_succ_of_le T10_1.out.size | exact Nat.le_succ_of_le T10_2.out.size | exact Nat.le_succ_of_le T10_3.out.size | exact Nat.le_succ_of_le T10_4.out.size) _))); done)))⟩
        case rest =>
          obtain ⟨rfl, hF⟩ := hcut
          generalize wc = w11 at *
          obtain ⟨hB, hr, hs, ht, hT, hz⟩ := hF.out
          have HW11 := Lib.hid hB
          have Vr_11 := Lib.hid hr
          have Vs_11 := Lib.hid hs
          have Vt_11 := Lib.hid ht
          have VT_11 := Lib.hid hT
          have Vz_11 := Lib.hid hz
          clear hF hB hr hs ht hT hz HW10 Vr_10 Vs_10 Vt_10 VT_10 Vz_10
          clear wr3
          go_wp2_with fail
          have B11_ := Lib.hid (Below.refl w11.heap.size w11)
          have M11 := Lib.hid (show ∀ w', Below w11.heap.size w11 w' → w'.cell? ⟨w8.heap.size, 0, none⟩ = some (.bool gz) ∧ w'.cell? ⟨w8.heap.size, 1, none⟩ = some (.slice az kz cz) ∧ w'.cell? ⟨w8.heap.size, 2, none⟩ = some (.bool hz) ∧ w'.cell? ⟨w8.heap.size, 3, none⟩ = some (.slice bz jz dz) ∧ w'.cell? ⟨(w.heap.size + 1), 0, none⟩ = some (.bool g2) ∧ w'.cell? ⟨(w.heap.size + 1), 1, none⟩ = some (.slice a2 n2 c2) ∧ w'.cell? ⟨(w.heap.size + 1), 2, none⟩ = some (.bool h2) ∧ w'.cell? ⟨(w.heap.size + 1), 3, none⟩ = some (.slice b2 m2 d2) ∧ w'.cell? ⟨w.heap.size, 0, none⟩ = some (.bool g1) ∧ w'.cell? ⟨w.heap.size, 1, none⟩ = some (.slice a1 n1 c1) ∧ w'.cell? ⟨w.heap.size, 2, none⟩ = some (.bool h1) ∧ w'.cell? ⟨w.heap.size, 3, none⟩ = some (.slice b1 m1 d1) from fun w' h => ⟨(Vz_11.out.below h).1, (Vz_11.out.below h).2.1, (Vz_11.out.below h).2.2.1, (Vz_11.out.below h).2.2.2.1, (Vs_11.out.below h).1, (Vs_11.out.below h).2.1, (Vs_11.out.below h).2.2.1, (Vs_11.out.below h).2.2.2.1, (Vr_11.out.below h).1, (Vr_11.out.below h).2.1, (Vr_11.out.below h).2.2.1, (Vr_11.out.below h).2.2.2.1⟩)
          obtain ⟨oz0, oz1, oz2, oz3, oz4, _⟩ := Vz_11.out
          obtain ⟨os0, os1, os2, os3, os4, _⟩ := Vs_11.out
          obtain ⟨or0, or1, or2, or3, or4, _⟩ := Vr_11.out
          have D11 := Lib.hid (Below.drew B11_.out)
          go_region_held3 (fun w' => w'.cell? ⟨w8.heap.size, 0, none⟩ = some (.bool gz) ∧ w'.cell? ⟨w8.heap.size, 1, none⟩ = some (.slice az kz cz) ∧ w'.cell? ⟨w8.heap.size, 2, none⟩ = some (.bool hz) ∧ w'.cell? ⟨w8.heap.size, 3, none⟩ = some (.slice bz jz dz) ∧ w'.cell? ⟨(w.heap.size + 1), 0, none⟩ = some (.bool g2) ∧ w'.cell? ⟨(w.heap.size + 1), 1, none⟩ = some (.slice a2 n2 c2) ∧ w'.cell? ⟨(w.heap.size + 1), 2, none⟩ = some (.bool h2) ∧ w'.cell? ⟨(w.heap.size + 1), 3, none⟩ = some (.slice b2 m2 d2) ∧ w'.cell? ⟨w.heap.size, 0, none⟩ = some (.bool g1) ∧ w'.cell? ⟨w.heap.size, 1, none⟩ = some (.slice a1 n1 c1) ∧ w'.cell? ⟨w.heap.size, 2, none⟩ = some (.bool h1) ∧ w'.cell? ⟨w.heap.size, 3, none⟩ = some (.slice b1 m1 d1))
            (first | (with_reducible exact M11.out _ D11.out) | (with_reducible exact M11.out _ T11_0.out) | (with_reducible exact M11.out _ T11_1.out))
            (first
            | (go_at_call 11; have s0 : kz ≤ 300 := (by omega); have s1 : jz ≤ 300 := (by omega); have s2 : n2 ≤ 39 := (by omega); have s3 : m2 ≤ 39 := (by omega); ((with_reducible refine (times_vr (.agg #[.bool gz, .slice az kz cz, .bool hz, .slice bz jz dz]) (.agg #[.bool g2, .slice a2 n2 c2, .bool h2, .slice b2 m2 d2]) kz jz n2 m2 (tP PZ QZ) (tQ QZ) (tP p2 q2) (tQ q2) _ (VT_11.out.tab D11.out) (AR.vr (Vz_11.out.up D11.out)) (AR.vr (Vs_11.out.up D11.out)) s0 s1 s2 s3).mono ?_); rintro e w11_0 ⟨r11_0, k11_0, j11_0, rfl, hR, hk11_0, hj11_0, hB⟩; have R11_0 := Lib.hid hR; clear hR; have HB11_0 := Lib.hid hB; have T11_0 := Lib.hid (Below.up D11.out hB); clear hB s0 s1 s2 s3))
            | (go_at_call 9; have s0 : k11_0 ≤ 300 := (by omega); have s1 : j11_0 ≤ 37 := (by omega); have s2 : n1 ≤ 300 := (by omega); have s3 : m1 ≤ 37 := (by omega); have s4 : ((tP PZ QZ) * (tP p2 q2)) * (tQ q1) = (tP p1 q1) * ((tQ QZ) * (tQ q2)) := (fl_quotz HF.out.1 HF.out.2 HX.out); ((with_reducible refine (same_vr _ (.agg #[.bool g1, .slice a1 n1 c1, .bool h1, .slice b1 m1 d1]) k11_0 j11_0 n1 m1 ((tP PZ QZ) * (tP p2 q2)) ((tQ QZ) * (tQ q2)) (tP p1 q1) (tQ q1) _ R11_0.out (AR.vr (Vr_11.out.up T11_0.out)) s0 s1 s2 s3 s4).mono ?_); rintro e w11_1 ⟨rfl, hB⟩; have HB11_1 := Lib.hid hB; have T11_1 := Lib.hid (Below.up T11_0.out hB); clear hB s0 s1 s2 s3 s4)))
          go_wp2_with fail
          go_ret
          exact ⟨rfl, Below.up HW11.out (by ((repeat (first | (with_reducible exact Below.refl _ _) | (with_reducible refine Below.up ?_ HB11_1.out) | (with_reducible refine Below.up ?_ HB11_0.out) | (with_reducible refine Below.alloc' ?_ _) | (with_reducible refine Below.drew' ?_) | (with_reducible refine Below.set' ?_ (by first | exact Nat.le_refl _ | exact Nat.le_succ _ | exact T11_0.out.size | exact T11_1.out.size | exact Nat.le_succ_of_le T11_0.out.size | exact Nat.le_succ_of_le T11_1.out.size) _))); done))⟩

end Go.Proofs.YtdeiblgdigdbgaaDoor
