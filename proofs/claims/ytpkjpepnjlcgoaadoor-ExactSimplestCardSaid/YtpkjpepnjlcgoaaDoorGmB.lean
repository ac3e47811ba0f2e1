/- The law of the simplest number. The law of the simplest number: long numbers, and no number between. -/
import Derived.Deep.CutRange
import Derived.Test.YtpkjpepnjlcgoaaDoorExW
import Derived.Test.YtpkjpepnjlcgoaaDoorGmA

section
set_option linter.unusedVariables false
set_option linter.unusedSimpArgs false
set_option maxRecDepth 100000
namespace Go.Proofs.YtpkjpepnjlcgoaaDoor
open Go.RowKit

/-- A ratio in a row of ratios, in lowest terms. -/
def LA (w : World) (bl o : Nat) (P Q : Int) : Prop := ∃ g x n c g' x' n' c', w.cell? ⟨bl, o, none⟩ = some (.bool g) ∧ w.cell? ⟨bl, o + 1, none⟩ = some (.slice x n c) ∧ w.cell? ⟨bl, o + 2, none⟩ = some (.bool g') ∧ w.cell? ⟨bl, o + 3, none⟩ = some (.slice x' n' c') ∧ bl < w.heap.size ∧
  AI w (.agg #[.bool g, .slice x n c]) n P ∧ AI w (.agg #[.bool g', .slice x' n' c']) n' Q ∧ 0 < Q ∧ n ≤ 6 ∧ n' ≤ 6
theorem LA.below {w w' : World} {bl o : Nat} {P Q : Int} (h : LA w bl o P Q) (k : Below w.heap.size w w') : LA w' bl o P Q := by
  obtain ⟨g, x, n, c, g', x', n', c', h0, h1, h2, h3, h4, h5, h6, h7⟩ := h
  exact ⟨g, x, n, c, g', x', n', c', (k.cell (p := ⟨bl, o, none⟩) h4).trans h0, (k.cell (p := ⟨bl, o + 1, none⟩) h4).trans h1, (k.cell (p := ⟨bl, o + 2, none⟩) h4).trans h2, (k.cell (p := ⟨bl, o + 3, none⟩) h4).trans h3, Nat.lt_of_lt_of_le h4 k.size, h5.below k, h6.below k, h7⟩
theorem AR.two {w : World} {g g' : Bool} {a a' : Option Addr} {n c n' c' m m' : Nat} {p q : Int} (h : AR w (.agg #[.bool g, .slice a n c, .bool g', .slice a' n' c']) m m' p q) : AI w (.agg #[.bool g, .slice a n c]) m p ∧ AI w (.agg #[.bool g', .slice a' n' c']) m' q := by
  obtain ⟨_, _, _, _, e, h1, h2⟩ := h
  simp only [Value.agg.injEq, Array.mk.injEq, List.cons.injEq, and_true] at e
  obtain ⟨rfl, rfl, rfl, rfl⟩ := e
  exact ⟨h1, h2⟩
theorem cmp_said (u v : Value) (n m n2 m2 : Nat) (p q p2 q2 A B o : Int) (w : World) (hu : AR w u n m p q) (hv : AR w v n2 m2 p2 q2) (hn : n ≤ 39) (hm : m ≤ 37) (hn2 : n2 ≤ 39) (hm2 : m2 ≤ 37) (e1 : tP p q * tQ q2 = A) (e2 : tP p2 q2 * tQ q = B) (ho : ord A B = o) :
    Calls Tryd.prog 23 #[u, v] w fun e w' => e = .returned (.int .i64 o) ∧ Below w.heap.size w w' := by
  subst e1 e2 ho
  exact Compare_any u v n m n2 m2 p q p2 q2 w hu hv (by omega) (by omega) (by omega) (by omega) (by omega) (by omega)
def LL (w : World) (bl : Nat) : Prop := ∀ k, k < 3 → ∃ P Q, LA w bl (k * 4) P Q

set_option maxHeartbeats 12800000 in
theorem simplest_part (g1 h1 g2 h2 g3 h3 : Bool) (a1 b1 a2 b2 a3 b3 : Option Addr) (n1 m1 n2 m2 n3 m3 c1 d1 c2 d2 c3 d3 : Nat) (p1 q1 p2 q2 p3 q3 : Int) (w : World) (hT : Tab w) (hr1 : AR w (.agg #[.bool g1, .slice a1 n1 c1, .bool h1, .slice b1 m1 d1]) n1 m1 p1 q1) (hr2 : AR w (.agg #[.bool g2, .slice a2 n2 c2, .bool h2, .slice b2 m2 d2]) n2 m2 p2 q2) (hr3 : AR w (.agg #[.bool g3, .slice a3 n3 c3, .bool h3, .slice b3 m3 d3]) n3 m3 p3 q3) (hn1 : n1 ≤ 6) (hm1 : m1 ≤ 6) (hn2 : n2 ≤ 6) (hm2 : m2 ≤ 6) (hn3 : n3 ≤ 6) (hm3 : m3 ≤ 6) (hle : (tP p1 q1) * (tQ q2) ≤ (tP p2 q2) * (tQ q1)) :
    Calls Tryd.prog 5 #[.agg #[.bool g1, .slice a1 n1 c1, .bool h1, .slice b1 m1 d1], .agg #[.bool g2, .slice a2 n2 c2, .bool h2, .slice b2 m2 d2], .agg #[.bool g3, .slice a3 n3 c3, .bool h3, .slice b3 m3 d3]] w fun e w' => e = .returned (.bool true) ∧ Below w.heap.size w w' := by
  have W0 := Lib.hid (show Below w.heap.size w (((w.alloc (.cells #[.bool g1, .slice a1 n1 c1, .bool h1, .slice b1 m1 d1] 26)).alloc (.cells #[.bool g2, .slice a2 n2 c2, .bool h2, .slice b2 m2 d2] 26)).alloc (.cells #[.bool g3, .slice a3 n3 c3, .bool h3, .slice b3 m3 d3] 26)) from Below.alloc' (Below.alloc2 _ _ _) _)
  have V1 := Lib.hid (show RV (((w.alloc (.cells #[.bool g1, .slice a1 n1 c1, .bool h1, .slice b1 m1 d1] 26)).alloc (.cells #[.bool g2, .slice a2 n2 c2, .bool h2, .slice b2 m2 d2] 26)).alloc (.cells #[.bool g3, .slice a3 n3 c3, .bool h3, .slice b3 m3 d3] 26)) w.heap.size g1 a1 n1 c1 h1 b1 m1 d1 p1 q1 from ((RV.new hr1).below (Below.alloc' (Below.refl _ _) _)).below (Below.alloc' (Below.refl _ _) _))
  have V2 := Lib.hid (show RV (((w.alloc (.cells #[.bool g1, .slice a1 n1 c1, .bool h1, .slice b1 m1 d1] 26)).alloc (.cells #[.bool g2, .slice a2 n2 c2, .bool h2, .slice b2 m2 d2] 26)).alloc (.cells #[.bool g3, .slice a3 n3 c3, .bool h3, .slice b3 m3 d3] 26)) (w.heap.size + 1) g2 a2 n2 c2 h2 b2 m2 d2 p2 q2 from (RV.new' (hr2.below (w' := w.alloc (.cells #[.bool g1, .slice a1 n1 c1, .bool h1, .slice b1 m1 d1] 26)) (Below.alloc' (Below.refl _ _) _)) (by simp)).below (Below.alloc' (Below.refl _ _) _))
  have V3 := Lib.hid (show RV (((w.alloc (.cells #[.bool g1, .slice a1 n1 c1, .bool h1, .slice b1 m1 d1] 26)).alloc (.cells #[.bool g2, .slice a2 n2 c2, .bool h2, .slice b2 m2 d2] 26)).alloc (.cells #[.bool g3, .slice a3 n3 c3, .bool h3, .slice b3 m3 d3] 26)) (w.heap.size + 1 + 1) g3 a3 n3 c3 h3 b3 m3 d3 p3 q3 from RV.new' (hr3.below (Below.alloc2 _ _ _)) (by simp))
  have T0 := Lib.hid (hT.up W0.out)
  clear hT hr1 hr2 hr3
  go_enter Tryd.func5, Tryd.ntmps5
  go_wp2_with fail
  refine calls_at (fun W => Below w.heap.size w W ∧ RV W w.heap.size g1 a1 n1 c1 h1 b1 m1 d1 p1 q1 ∧ RV W (w.heap.size + 1) g2 a2 n2 c2 h2 b2 m2 d2 p2 q2 ∧ RV W (w.heap.size + 1 + 1) g3 a3 n3 c3 h3 b3 m3 d3 p3 q3 ∧ Tab W ∧ W.heap.size = w.heap.size + 3) ⟨W0.out, V1.out, V2.out, V3.out, T0.out, by simp⟩ ?_
  clear W0 V1 V2 V3 T0
  rintro w0 ⟨k0, k1, k2, k3, k4, hz0⟩
  have W0 := Lib.hid k0
  have V1 := Lib.hid k1
  have V2 := Lib.hid k2
  have V3 := Lib.hid k3
  have T0 := Lib.hid k4
  clear k0 k1 k2 k3 k4
  refine (alive_any _ T0.out).mono ?_
  rintro e w1 ⟨rfl, hB⟩
  have B1 := Lib.hid hB
  clear hB
  obtain ⟨o10, o11, o12, o13, o14, _⟩ := V1.out.below B1.out
  go_wp2_with fail
  refine (Wide_any _ n1 m1 p1 q1 _ (V1.out.below B1.out).2.2.2.2.2).mono ?_
  rintro e w2 ⟨⟨L1, rfl, hL1⟩, hB⟩
  have B2 := Lib.hid (B1.out.trans (hB.mono B1.out.size))
  clear hB B1 o10 o11 o12 o13 o14
  have dL1 : decide ((6 : Int) < (L1 : Int)) = false := decide_eq_false (by omega)
  obtain ⟨o20, o21, o22, o23, o24, _⟩ := V2.out.below B2.out
  go_wp2_with fail
  refine (Wide_any _ n2 m2 p2 q2 _ (V2.out.below B2.out).2.2.2.2.2).mono ?_
  rintro e w3 ⟨⟨L2, rfl, hL2⟩, hB⟩
  have B3 := Lib.hid (B2.out.trans (hB.mono B2.out.size))
  clear hB B2 o20 o21 o22 o23 o24
  have dL2 : decide ((6 : Int) < (L2 : Int)) = false := decide_eq_false (by omega)
  obtain ⟨o30, o31, o32, o33, o34, _⟩ := V3.out.below B3.out
  go_wp2_with fail
  refine (Wide_any _ n3 m3 p3 q3 _ (V3.out.below B3.out).2.2.2.2.2).mono ?_
  rintro e w4 ⟨⟨L3, rfl, hL3⟩, hB⟩
  have B4 := Lib.hid (B3.out.trans (hB.mono B3.out.size))
  clear hB B3 o30 o31 o32 o33 o34
  have dL3 : decide ((6 : Int) < (L3 : Int)) = false := decide_eq_false (by omega)
  obtain ⟨o10, o11, o12, o13, o14, _⟩ := V1.out.below B4.out
  obtain ⟨o20, o21, o22, o23, o24, _⟩ := V2.out.below B4.out
  go_wp2_with fail
  refine (Between_yes g1 h1 g2 h2 a1 b1 a2 b2 n1 m1 n2 m2 c1 d1 c2 d2 p1 q1 p2 q2 _ (V1.out.below B4.out).2.2.2.2.2 (V2.out.below B4.out).2.2.2.2.2 hn1 hm1 hn2 hm2 hle).mono ?_
  rintro e w5 ⟨gs, xs, ys, gt, xt, yt, ks, kt, S, U, rfl, hR, hS, hks, hkt, hB⟩
  have B5 := Lib.hid (B4.out.trans ((hB.mono B4.out.size)))
  have B6 := Lib.hid (Below.alloc' B5.out (.cells #[.bool gs, .slice xs ks ys, .bool gt, .slice xt kt yt] 26))
  have VS6 := Lib.hid (RV.new hR)
  have LS := Lib.hid hS
  have hU : 0 < U := hS.1
  have tS : tP S U = S := by unfold tP; rw [if_neg (by omega), if_neg (by omega)]
  have tU : tQ U = U := by unfold tQ; rw [if_neg (by omega), if_neg (by omega)]
  have TS := Lib.hid tS
  have TU := Lib.hid tU
  clear hB hR hS B4 o10 o11 o12 o13 o14 o20 o21 o22 o23 o24 tS tU
  obtain ⟨o10, o11, o12, o13, o14, _⟩ := V1.out.below B6.out
  obtain ⟨o20, o21, o22, o23, o24, _⟩ := V2.out.below B6.out
  go_wp2_with fail
  refine (Compare_any _ _ n1 m1 n2 m2 p1 q1 p2 q2 _ (V1.out.below B6.out).2.2.2.2.2 (V2.out.below B6.out).2.2.2.2.2 (by omega) (by omega) (by omega) (by omega) (by omega) (by omega)).mono ?_
  rintro e w7 ⟨rfl, hB⟩
  have dz : decide ((0 : Int) < ord ((tP p1 q1) * (tQ q2)) ((tP p2 q2) * (tQ q1))) = false := decide_eq_false (ord_not_pos hle)
  have B7 := Lib.hid (B6.out.trans (hB.mono B6.out.size))
  have VS7 := Lib.hid (VS6.out.below hB)
  generalize w5.heap.size = bs at *
  clear hB B5 B6 VS6 o10 o11 o12 o13 o14 o20 o21 o22 o23 o24
  obtain ⟨o10, o11, o12, o13, o14, _⟩ := V1.out.below B7.out
  obtain ⟨os0, os1, os2, os3, os4, _⟩ := VS7.out
  go_wp2_with fail
  refine (Compare_any _ _ n1 m1 ks kt p1 q1 S U _ (V1.out.below B7.out).2.2.2.2.2 VS7.out.2.2.2.2.2 (by omega) (by omega) (by omega) (by omega) (by omega) (by omega)).mono ?_
  rintro e w8 ⟨rfl, hB⟩
  rw [TS.out, TU.out]
  have d1' : decide ((0 : Int) < ord ((tP p1 q1) * U) (S * (tQ q1))) = false := decide_eq_false (ord_not_pos LS.out.2.1)
  have B8 := Lib.hid (B7.out.trans (hB.mono B7.out.size))
  have VS8 := Lib.hid (VS7.out.below hB)
  clear hB B7 VS7 o10 o11 o12 o13 o14 os0 os1 os2 os3 os4 dz
  obtain ⟨o20, o21, o22, o23, o24, _⟩ := V2.out.below B8.out
  obtain ⟨os0, os1, os2, os3, os4, _⟩ := VS8.out
  go_wp2_with fail
  refine (Compare_any _ _ ks kt n2 m2 S U p2 q2 _ VS8.out.2.2.2.2.2 (V2.out.below B8.out).2.2.2.2.2 (by omega) (by omega) (by omega) (by omega) (by omega) (by omega)).mono ?_
  rintro e w9 ⟨rfl, hB⟩
  rw [TS.out, TU.out]
  have d2' : decide ((0 : Int) < ord (S * (tQ q2)) ((tP p2 q2) * U)) = false := decide_eq_false (ord_not_pos LS.out.2.2.1)
  have B9 := Lib.hid (B8.out.trans (hB.mono B8.out.size))
  have VS9 := Lib.hid (VS8.out.below hB)
  clear hB B8 VS8 o20 o21 o22 o23 o24 os0 os1 os2 os3 os4 d1'
  go_wp2_with fail
  go_cut [10] from 14 to 126 (fun s0 W => ∃ bl : Nat, s0 = .slice (some ⟨bl, 0, none⟩) 3 3 ∧ Hid (LL W bl ∧ Below w9.heap.size w9 W))
  case first =>
    rename_i hJ hK
    have V1_9 := Lib.hid (V1.out.below B9.out)
    have V2_9 := Lib.hid (V2.out.below B9.out)
    have V3_9 := Lib.hid (V3.out.below B9.out)
    have T9 := Lib.hid (T0.out.up B9.out)
    have B_ := Lib.hid (Below.refl w9.heap.size w9)
    have D_ := Lib.hid (Below.drew B_.out)
    have M_ := Lib.hid (show ∀ w', Below w9.heap.size w9 w' → w'.cell? ⟨w.heap.size, 0, none⟩ = some (.bool g1) ∧ w'.cell? ⟨w.heap.size, 1, none⟩ = some (.slice a1 n1 c1) ∧ w'.cell? ⟨w.heap.size, 2, none⟩ = some (.bool h1) ∧ w'.cell? ⟨w.heap.size, 3, none⟩ = some (.slice b1 m1 d1) ∧ w'.cell? ⟨(w.heap.size + 1), 0, none⟩ = some (.bool g2) ∧ w'.cell? ⟨(w.heap.size + 1), 1, none⟩ = some (.slice a2 n2 c2) ∧ w'.cell? ⟨(w.heap.size + 1), 2, none⟩ = some (.bool h2) ∧ w'.cell? ⟨(w.heap.size + 1), 3, none⟩ = some (.slice b2 m2 d2) ∧ w'.cell? ⟨(w.heap.size + 1 + 1), 0, none⟩ = some (.bool g3) ∧ w'.cell? ⟨(w.heap.size + 1 + 1), 1, none⟩ = some (.slice a3 n3 c3) ∧ w'.cell? ⟨(w.heap.size + 1 + 1), 2, none⟩ = some (.bool h3) ∧ w'.cell? ⟨(w.heap.size + 1 + 1), 3, none⟩ = some (.slice b3 m3 d3) from fun w' h => ⟨(V1_9.out.below h).1, (V1_9.out.below h).2.1, (V1_9.out.below h).2.2.1, (V1_9.out.below h).2.2.2.1, (V2_9.out.below h).1, (V2_9.out.below h).2.1, (V2_9.out.below h).2.2.1, (V2_9.out.below h).2.2.2.1, (V3_9.out.below h).1, (V3_9.out.below h).2.1, (V3_9.out.below h).2.2.1, (V3_9.out.below h).2.2.2.1⟩)
    obtain ⟨o10, o11, o12, o13, o14, _⟩ := V1_9.out
    obtain ⟨o20, o21, o22, o23, o24, _⟩ := V2_9.out
    obtain ⟨o30, o31, o32, o33, o34, _⟩ := V3_9.out
    have e1n : n1 ≤ 900 := by omega
    have e1m : m1 ≤ 900 := by omega
    have e2n : n2 ≤ 900 := by omega
    have e2m : m2 ≤ 900 := by omega
    have e3n : n3 ≤ 900 := by omega
    have e3m : m3 ≤ 900 := by omega
    go_region_held3 (fun w' => w'.cell? ⟨w.heap.size, 0, none⟩ = some (.bool g1) ∧ w'.cell? ⟨w.heap.size, 1, none⟩ = some (.slice a1 n1 c1) ∧ w'.cell? ⟨w.heap.size, 2, none⟩ = some (.bool h1) ∧ w'.cell? ⟨w.heap.size, 3, none⟩ = some (.slice b1 m1 d1) ∧ w'.cell? ⟨(w.heap.size + 1), 0, none⟩ = some (.bool g2) ∧ w'.cell? ⟨(w.heap.size + 1), 1, none⟩ = some (.slice a2 n2 c2) ∧ w'.cell? ⟨(w.heap.size + 1), 2, none⟩ = some (.bool h2) ∧ w'.cell? ⟨(w.heap.size + 1), 3, none⟩ = some (.slice b2 m2 d2) ∧ w'.cell? ⟨(w.heap.size + 1 + 1), 0, none⟩ = some (.bool g3) ∧ w'.cell? ⟨(w.heap.size + 1 + 1), 1, none⟩ = some (.slice a3 n3 c3) ∧ w'.cell? ⟨(w.heap.size + 1 + 1), 2, none⟩ = some (.bool h3) ∧ w'.cell? ⟨(w.heap.size + 1 + 1), 3, none⟩ = some (.slice b3 m3 d3))
      (((repeat (first | (with_reducible exact M_.out _ D_.out) | (with_reducible exact M_.out _ T0'.out) | (with_reducible exact M_.out _ T1'.out) | (with_reducible exact M_.out _ T2'.out) | (refine M_.out _ (Below.alloc' ?_ _)) | (with_reducible exact T2'.out)))))
      (first
      | (go_at_call 16; ((with_reducible refine (lowest_said (.agg #[.bool g1, .slice a1 n1 c1, .bool h1, .slice b1 m1 d1]) n1 m1 p1 q1 _ (T9.out.up D_.out) (V1_9.out.up D_.out) e1n e1m).mono ?_); rintro e wL1 ⟨gL1, xL1, cL1, gM1, xM1, cM1, kL1, kM1, rfl, hR, hkL1, hkM1, hB⟩; have RL1 := Lib.hid hR.two; have HBL1 := Lib.hid hB; have T0' := Lib.hid (Below.up D_.out hB); clear hB hR))
      | (go_at_call 16; ((with_reducible refine (lowest_said (.agg #[.bool g2, .slice a2 n2 c2, .bool h2, .slice b2 m2 d2]) n2 m2 p2 q2 _ (T9.out.up T0'.out) (V2_9.out.up T0'.out) e2n e2m).mono ?_); rintro e wL2 ⟨gL2, xL2, cL2, gM2, xM2, cM2, kL2, kM2, rfl, hR, hkL2, hkM2, hB⟩; have RL2 := Lib.hid hR.two; have HBL2 := Lib.hid hB; have T1' := Lib.hid (Below.up T0'.out hB); clear hB hR))
      | (go_at_call 16; ((with_reducible refine (lowest_said (.agg #[.bool g3, .slice a3 n3 c3, .bool h3, .slice b3 m3 d3]) n3 m3 p3 q3 _ (T9.out.up T1'.out) (V3_9.out.up T1'.out) e3n e3m).mono ?_); rintro e wL3 ⟨gL3, xL3, cL3, gM3, xM3, cM3, kL3, kM3, rfl, hR, hkL3, hkM3, hB⟩; have RL3 := Lib.hid hR.two; have HBL3 := Lib.hid hB; have T2' := Lib.hid (Below.up T1'.out hB); clear hB hR)))
    refine hK _ _ (Met.intro (hJ _ _ ?_))
    (repeat apply Exists.intro)
    refine ⟨?_, rfl⟩
    have e := World.alloc_heap_new wL3 (.cells #[.bool gL1, .slice xL1 kL1 cL1, .bool gM1, .slice xM1 kM1 cM1, .bool gL2, .slice xL2 kL2 cL2, .bool gM2, .slice xM2 kM2 cM2, .bool gL3, .slice xL3 kL3 cL3, .bool gM3, .slice xM3 kM3 cM3] 26)
    refine ⟨_, rfl, Lib.hid ⟨?_, Below.alloc' T2'.out _⟩⟩
    intro k hk
    match k, hk with
    | 0, _ => exact ⟨lP p1 q1, lQ p1 q1, gL1, xL1, kL1, cL1, gM1, xM1, kM1, cM1, by unfold World.cell?; rw [e]; rfl, by unfold World.cell?; rw [e]; rfl, by unfold World.cell?; rw [e]; rfl, by unfold World.cell?; rw [e]; rfl, by simp, (((RL1.out.1.below HBL2.out).below HBL3.out).alloc _), (((RL1.out.2.below HBL2.out).below HBL3.out).alloc _), lQ_pos p1 q1, by omega, by omega⟩
    | 1, _ => exact ⟨lP p2 q2, lQ p2 q2, gL2, xL2, kL2, cL2, gM2, xM2, kM2, cM2, by unfold World.cell?; rw [e]; rfl, by unfold World.cell?; rw [e]; rfl, by unfold World.cell?; rw [e]; rfl, by unfold World.cell?; rw [e]; rfl, by simp, ((RL2.out.1.below HBL3.out).alloc _), ((RL2.out.2.below HBL3.out).alloc _), lQ_pos p2 q2, by omega, by omega⟩
    | 2, _ => exact ⟨lP p3 q3, lQ p3 q3, gL3, xL3, kL3, cL3, gM3, xM3, kM3, cM3, by unfold World.cell?; rw [e]; rfl, by unfold World.cell?; rw [e]; rfl, by unfold World.cell?; rw [e]; rfl, by unfold World.cell?; rw [e]; rfl, by simp, (RL3.out.1.alloc _), (RL3.out.2.alloc _), lQ_pos p3 q3, by omega, by omega⟩
  case rest =>
    obtain ⟨bl, rfl, hF⟩ := hcut
    generalize wc = w10 at *
    obtain ⟨k0, k1⟩ := hF.out
    have L3 := Lib.hid k0
    have B10 := Lib.hid (B9.out.trans (k1.mono B9.out.size))
    have VS10 := Lib.hid (VS9.out.below k1)
    clear k0 k1 hF VS9 B9 d2'
    go_wp2_with fail
    go_loopw [71] (fun i wr => ∃ k : Nat, k ≤ 3 ∧ i = .int .i64 k ∧ Hid (Below w10.heap.size w10 wr)) (fun i _ => 3 - (intOf i).toNat)
    case atStart => exact ⟨0, by omega, rfl, Lib.hid (Below.refl _ _)⟩
    case round =>
      obtain ⟨k, hk3, rfl, BR⟩ := hrel
      have B11 := Lib.hid (B10.out.trans (BR.out.mono B10.out.size))
      by_cases hlt : k < 3
      · obtain ⟨PP, QQ, hLA⟩ := L3.out k hlt
        have hLA := hLA.below BR.out
        obtain ⟨gl, xl, nl, cl, gm, xm, nm, cm, l0, l1, l2, l3, l4, l5, l6, hQ0, hnl, hnm⟩ := hLA
        obtain ⟨o10, o11, o12, o13, o14, _⟩ := V1.out.below B11.out
        obtain ⟨o20, o21, o22, o23, o24, _⟩ := V2.out.below B11.out
        have tP' : tP PP QQ = PP := by unfold tP; rw [if_neg (by omega), if_neg (by omega)]
        have tQ' : tQ QQ = QQ := by unfold tQ; rw [if_neg (by omega), if_neg (by omega)]
        have HAL := Lib.hid (show AR wr (.agg #[.bool gl, .slice xl nl cl, .bool gm, .slice xm nm cm]) nl nm PP QQ from ⟨_, _, _, _, rfl, l5, l6⟩)
        have L5 := Lib.hid l5
        have L6 := Lib.hid l6
        have CA := Lib.hid (fun (W : World) (h : Below wr.heap.size wr W) (o : Int) (ho : ord ((tP p1 q1) * QQ) (PP * (tQ q1)) = o) => cmp_said (.agg #[.bool g1, .slice a1 n1 c1, .bool h1, .slice b1 m1 d1]) (.agg #[.bool gl, .slice xl nl cl, .bool gm, .slice xm nm cm]) n1 m1 nl nm p1 q1 PP QQ ((tP p1 q1) * QQ) (PP * (tQ q1)) o W ((V1.out.below B11.out).2.2.2.2.2.below h) (HAL.out.below h) (by omega) (by omega) (by omega) (by omega) (by rw [tQ']) (by rw [tP']) ho)
        have CB := Lib.hid (fun (W : World) (h : Below wr.heap.size wr W) (o : Int) (ho : ord (PP * (tQ q2)) ((tP p2 q2) * QQ) = o) => cmp_said (.agg #[.bool gl, .slice xl nl cl, .bool gm, .slice xm nm cm]) (.agg #[.bool g2, .slice a2 n2 c2, .bool h2, .slice b2 m2 d2]) nl nm n2 m2 PP QQ p2 q2 (PP * (tQ q2)) ((tP p2 q2) * QQ) o W (HAL.out.below h) ((V2.out.below B11.out).2.2.2.2.2.below h) (by omega) (by omega) (by omega) (by omega) (by rw [tP']) (by rw [tQ']) ho)
        clear tP' tQ' l5 l6
        obtain ⟨bb, hbb⟩ : ∃ bb : Bool, bb = !(decide ((tP p1 q1) * QQ ≤ PP * (tQ q1)) && decide (PP * (tQ q2) ≤ (tP p2 q2) * QQ)) := ⟨_, rfl⟩
        have HBB := Lib.hid hbb
        clear hbb
        have hidx : ((k : Nat) : Int) < 3 := by omega
        go_wp2_with fail
        go_cut [89] from 74 to 125 (fun s0 W => s0 = .bool bb ∧ Hid (Below wr.heap.size wr W))
        case first =>
          rename_i hJ hK
          have B_ := Lib.hid (Below.refl wr.heap.size wr)
          have D_ := Lib.hid (Below.drew B_.out)
          have M_ := Lib.hid (show ∀ w', Below wr.heap.size wr w' → w'.cell? ⟨w.heap.size, 0, none⟩ = some (.bool g1) ∧ w'.cell? ⟨w.heap.size, 1, none⟩ = some (.slice a1 n1 c1) ∧ w'.cell? ⟨w.heap.size, 2, none⟩ = some (.bool h1) ∧ w'.cell? ⟨w.heap.size, 3, none⟩ = some (.slice b1 m1 d1) ∧ w'.cell? ⟨bl, k * 4, none⟩ = some (.bool gl) ∧ w'.cell? ⟨bl, k * 4 + 1, none⟩ = some (.slice xl nl cl) ∧ w'.cell? ⟨bl, k * 4 + 2, none⟩ = some (.bool gm) ∧ w'.cell? ⟨bl, k * 4 + 3, none⟩ = some (.slice xm nm cm) ∧ w'.cell? ⟨(w.heap.size + 1), 0, none⟩ = some (.bool g2) ∧ w'.cell? ⟨(w.heap.size + 1), 1, none⟩ = some (.slice a2 n2 c2) ∧ w'.cell? ⟨(w.heap.size + 1), 2, none⟩ = some (.bool h2) ∧ w'.cell? ⟨(w.heap.size + 1), 3, none⟩ = some (.slice b2 m2 d2) from fun w' h => ⟨((V1.out.below B11.out).below h).1, ((V1.out.below B11.out).below h).2.1, ((V1.out.below B11.out).below h).2.2.1, ((V1.out.below B11.out).below h).2.2.2.1, (h.cell (p := ⟨bl, k * 4, none⟩) l4).trans l0, (h.cell (p := ⟨bl, k * 4 + 1, none⟩) l4).trans l1, (h.cell (p := ⟨bl, k * 4 + 2, none⟩) l4).trans l2, (h.cell (p := ⟨bl, k * 4 + 3, none⟩) l4).trans l3, ((V2.out.below B11.out).below h).1, ((V2.out.below B11.out).below h).2.1, ((V2.out.below B11.out).below h).2.2.1, ((V2.out.below B11.out).below h).2.2.2.1⟩)
          by_cases hA : (tP p1 q1) * QQ ≤ PP * (tQ q1)
          · obtain ⟨o1, ho1⟩ : ∃ o, ord ((tP p1 q1) * QQ) (PP * (tQ q1)) = o := ⟨_, rfl⟩
            have dd1 : decide ((0 : Int) < o1) = false := decide_eq_false (ho1 ▸ ord_not_pos hA)
            have ho1 := Lib.hid ho1
            obtain ⟨o2, ho2⟩ : ∃ o, ord (PP * (tQ q2)) ((tP p2 q2) * QQ) = o := ⟨_, rfl⟩
            by_cases hB' : PP * (tQ q2) ≤ (tP p2 q2) * QQ
            · have dd2 : decide ((0 : Int) < o2) = false := decide_eq_false (ho2 ▸ ord_not_pos hB')
              have BBV : (!(decide ((tP p1 q1) * QQ ≤ PP * (tQ q1)) && decide (PP * (tQ q2) ≤ (tP p2 q2) * QQ))) = false := by rw [decide_eq_true hA, decide_eq_true hB']; rfl
              have BBV := Lib.hid BBV
              have ho2 := Lib.hid ho2
              clear hA hB'
              go_region_held3 (fun w' => w'.cell? ⟨w.heap.size, 0, none⟩ = some (.bool g1) ∧ w'.cell? ⟨w.heap.size, 1, none⟩ = some (.slice a1 n1 c1) ∧ w'.cell? ⟨w.heap.size, 2, none⟩ = some (.bool h1) ∧ w'.cell? ⟨w.heap.size, 3, none⟩ = some (.slice b1 m1 d1) ∧ w'.cell? ⟨bl, k * 4, none⟩ = some (.bool gl) ∧ w'.cell? ⟨bl, k * 4 + 1, none⟩ = some (.slice xl nl cl) ∧ w'.cell? ⟨bl, k * 4 + 2, none⟩ = some (.bool gm) ∧ w'.cell? ⟨bl, k * 4 + 3, none⟩ = some (.slice xm nm cm) ∧ w'.cell? ⟨(w.heap.size + 1), 0, none⟩ = some (.bool g2) ∧ w'.cell? ⟨(w.heap.size + 1), 1, none⟩ = some (.slice a2 n2 c2) ∧ w'.cell? ⟨(w.heap.size + 1), 2, none⟩ = some (.bool h2) ∧ w'.cell? ⟨(w.heap.size + 1), 3, none⟩ = some (.slice b2 m2 d2))
                (first | (with_reducible exact M_.out _ D_.out) | (with_reducible exact M_.out _ T0'.out) | (with_reducible exact M_.out _ T1'.out))
                (first
                | (go_at_call 23; ((with_reducible refine (CA.out _ D_.out o1 ho1.out).mono ?_); rintro e wA ⟨rfl, hB⟩; have T0' := Lib.hid (Below.up D_.out hB); clear hB))
                | (go_at_call 23; ((with_reducible refine (CB.out _ T0'.out o2 ho2.out).mono ?_); rintro e wB ⟨rfl, hB⟩; have T1' := Lib.hid (Below.up T0'.out hB); clear hB)))
              refine hK _ _ (Met.intro (hJ _ _ ?_))
              (repeat apply Exists.intro)
              exact ⟨⟨by rw [HBB.out, BBV.out], Lib.hid T1'.out⟩, rfl⟩
            · have dd2 : decide ((0 : Int) < o2) = true := decide_eq_true (by rw [← ho2, ord_gt (by omega)]; omega)
              have BBV : (!(decide ((tP p1 q1) * QQ ≤ PP * (tQ q1)) && decide (PP * (tQ q2) ≤ (tP p2 q2) * QQ))) = true := by rw [decide_eq_false hB']; simp
              have BBV := Lib.hid BBV
              have ho2 := Lib.hid ho2
              clear hA hB'
              go_region_held3 (fun w' => w'.cell? ⟨w.heap.size, 0, none⟩ = some (.bool g1) ∧ w'.cell? ⟨w.heap.size, 1, none⟩ = some (.slice a1 n1 c1) ∧ w'.cell? ⟨w.heap.size, 2, none⟩ = some (.bool h1) ∧ w'.cell? ⟨w.heap.size, 3, none⟩ = some (.slice b1 m1 d1) ∧ w'.cell? ⟨bl, k * 4, none⟩ = some (.bool gl) ∧ w'.cell? ⟨bl, k * 4 + 1, none⟩ = some (.slice xl nl cl) ∧ w'.cell? ⟨bl, k * 4 + 2, none⟩ = some (.bool gm) ∧ w'.cell? ⟨bl, k * 4 + 3, none⟩ = some (.slice xm nm cm) ∧ w'.cell? ⟨(w.heap.size + 1), 0, none⟩ = some (.bool g2) ∧ w'.cell? ⟨(w.heap.size + 1), 1, none⟩ = some (.slice a2 n2 c2) ∧ w'.cell? ⟨(w.heap.size + 1), 2, none⟩ = some (.bool h2) ∧ w'.cell? ⟨(w.heap.size + 1), 3, none⟩ = some (.slice b2 m2 d2))
                (first | (with_reducible exact M_.out _ D_.out) | (with_reducible exact M_.out _ T0'.out) | (with_reducible exact M_.out _ T1'.out))
                (first
                | (go_at_call 23; ((with_reducible refine (CA.out _ D_.out o1 ho1.out).mono ?_); rintro e wA ⟨rfl, hB⟩; have T0' := Lib.hid (Below.up D_.out hB); clear hB))
                | (go_at_call 23; ((with_reducible refine (CB.out _ T0'.out o2 ho2.out).mono ?_); rintro e wB ⟨rfl, hB⟩; have T1' := Lib.hid (Below.up T0'.out hB); clear hB)))
              refine hK _ _ (Met.intro (hJ _ _ ?_))
              (repeat apply Exists.intro)
              exact ⟨⟨by rw [HBB.out, BBV.out], Lib.hid T1'.out⟩, rfl⟩
          · obtain ⟨o1, ho1⟩ : ∃ o, ord ((tP p1 q1) * QQ) (PP * (tQ q1)) = o := ⟨_, rfl⟩
            have dd1 : decide ((0 : Int) < o1) = true := decide_eq_true (by rw [← ho1, ord_gt (by omega)]; omega)
            have BBV : (!(decide ((tP p1 q1) * QQ ≤ PP * (tQ q1)) && decide (PP * (tQ q2) ≤ (tP p2 q2) * QQ))) = true := by rw [decide_eq_false hA]; simp
            have BBV := Lib.hid BBV
            have ho1 := Lib.hid ho1
            clear hA
            refine wp_region_held_drew (S := (fun w' => w'.cell? ⟨w.heap.size, 0, none⟩ = some (.bool g1) ∧ w'.cell? ⟨w.heap.size, 1, none⟩ = some (.slice a1 n1 c1) ∧ w'.cell? ⟨w.heap.size, 2, none⟩ = some (.bool h1) ∧ w'.cell? ⟨w.heap.size, 3, none⟩ = some (.slice b1 m1 d1) ∧ w'.cell? ⟨bl, k * 4, none⟩ = some (.bool gl) ∧ w'.cell? ⟨bl, k * 4 + 1, none⟩ = some (.slice xl nl cl) ∧ w'.cell? ⟨bl, k * 4 + 2, none⟩ = some (.bool gm) ∧ w'.cell? ⟨bl, k * 4 + 3, none⟩ = some (.slice xm nm cm) ∧ w'.cell? ⟨(w.heap.size + 1), 0, none⟩ = some (.bool g2) ∧ w'.cell? ⟨(w.heap.size + 1), 1, none⟩ = some (.slice a2 n2 c2) ∧ w'.cell? ⟨(w.heap.size + 1), 2, none⟩ = some (.bool h2) ∧ w'.cell? ⟨(w.heap.size + 1), 3, none⟩ = some (.slice b2 m2 d2))) (by kernel_rfl) (M_.out _ D_.out) (fun hM => ?_)
            refine wpAnyH_take (i := 0) (v := (.agg #[.bool g1, .slice a1 n1 c1, .bool h1, .slice b1 m1 d1])) rfl (by kernel_rfl) (by kernel_rfl) (by kernel_rfl) (fun _ _ _ h => h) (Or.inl ⟨by rfl, ?_⟩) hM ?_
            · intro W hW
              obtain ⟨r0, r1, r2, r3, r4, r5, r6, r7, r8, r9, r10, r11⟩ := hW
              go_simp
            try simp only [Act.put, List.getElem_toArray, List.getElem_cons_succ, List.getElem_cons_zero, List.setIfInBounds_toArray, List.set_cons_zero, List.set_cons_succ]
            refine wpAnyH_take (i := 1) (v := (.slice (some ⟨bl, 0, none⟩) 3 3)) rfl (by kernel_rfl) (by kernel_rfl) (by kernel_rfl) (fun _ _ _ h => h) (Or.inl ⟨by rfl, ?_⟩) hM ?_
            · intro W hW
              obtain ⟨r0, r1, r2, r3, r4, r5, r6, r7, r8, r9, r10, r11⟩ := hW
              go_simp
            try simp only [Act.put, List.getElem_toArray, List.getElem_cons_succ, List.getElem_cons_zero, List.setIfInBounds_toArray, List.set_cons_zero, List.set_cons_succ]
            refine wpAnyH_take (i := 2) (v := (.int .i64 (k : Int))) rfl (by kernel_rfl) (by kernel_rfl) (by kernel_rfl) (fun _ _ _ h => h) (Or.inl ⟨by rfl, ?_⟩) hM ?_
            · intro W hW
              obtain ⟨r0, r1, r2, r3, r4, r5, r6, r7, r8, r9, r10, r11⟩ := hW
              go_simp
            try simp only [Act.put, List.getElem_toArray, List.getElem_cons_succ, List.getElem_cons_zero, List.setIfInBounds_toArray, List.set_cons_zero, List.set_cons_succ]
            refine wpAnyH_take (i := 3) (v := (.pointer (some ⟨bl, k * 4, none⟩))) rfl (by kernel_rfl) (by kernel_rfl) (by kernel_rfl) (fun _ _ _ h => h) (Or.inl ⟨by rfl, ?_⟩) hM ?_
            · intro W hW
              obtain ⟨r0, r1, r2, r3, r4, r5, r6, r7, r8, r9, r10, r11⟩ := hW
              go_simp
            try simp only [Act.put, List.getElem_toArray, List.getElem_cons_succ, List.getElem_cons_zero, List.setIfInBounds_toArray, List.set_cons_zero, List.set_cons_succ]
            refine wpAnyH_take (i := 4) (v := (.agg #[.bool gl, .slice xl nl cl, .bool gm, .slice xm nm cm])) rfl (by kernel_rfl) (by kernel_rfl) (by kernel_rfl) (fun _ _ _ h => h) (Or.inl ⟨by rfl, ?_⟩) hM ?_
            · intro W hW
              obtain ⟨r0, r1, r2, r3, r4, r5, r6, r7, r8, r9, r10, r11⟩ := hW
              go_simp
            try simp only [Act.put, List.getElem_toArray, List.getElem_cons_succ, List.getElem_cons_zero, List.setIfInBounds_toArray, List.set_cons_zero, List.set_cons_succ]
            refine wpAnyH_ready (rs := [5]) (by kernel_rfl) (by simp) ?_
            refine AllReadyH.cons (i := 5) rfl (fun K hK' => ?_) AllReadyH.nil
            rw [if_pos (by rfl)]
            go_simp
            go_at_call 23
            refine (CA.out _ D_.out o1 ho1.out).mono ?_
            rintro e wA ⟨rfl, hB⟩
            have T0' := Lib.hid (Below.up D_.out hB)
            clear hB hM
            dsimp only
            refine hK'.out _ _ (M_.out _ T0'.out) (fun hM => ?_)
            clear hK' K
            try simp only [Act.put, List.getElem_toArray, List.getElem_cons_succ, List.getElem_cons_zero, List.setIfInBounds_toArray, List.set_cons_zero, List.set_cons_succ]
            refine wpAnyH_take (i := 6) (v := (.bool true)) rfl (by kernel_rfl) (by kernel_rfl) (by kernel_rfl) (fun _ _ _ h => h) (Or.inl ⟨by rfl, ?_⟩) hM ?_
            · intro W hW
              obtain ⟨r0, r1, r2, r3, r4, r5, r6, r7, r8, r9, r10, r11⟩ := hW
              go_simp
            try simp only [Act.put, List.getElem_toArray, List.getElem_cons_succ, List.getElem_cons_zero, List.setIfInBounds_toArray, List.set_cons_zero, List.set_cons_succ]
            refine wpAnyH_take (i := 7) (v := (.bool true)) rfl (by kernel_rfl) (by kernel_rfl) (by kernel_rfl) (fun _ _ _ h => h) (Or.inl ⟨by rfl, ?_⟩) hM ?_
            · intro W hW
              obtain ⟨r0, r1, r2, r3, r4, r5, r6, r7, r8, r9, r10, r11⟩ := hW
              go_simp
            try simp only [Act.put, List.getElem_toArray, List.getElem_cons_succ, List.getElem_cons_zero, List.setIfInBounds_toArray, List.set_cons_zero, List.set_cons_succ]
            have w8 : True := trivial
            refine wpAnyH_take (i := 8) (v := undef) rfl (by kernel_rfl) (by kernel_rfl) (by kernel_rfl) (fun _ _ _ h => h) (Or.inr ⟨by kernel_rfl, rfl⟩) hM ?_
            try simp only [Act.put, List.getElem_toArray, List.getElem_cons_succ, List.getElem_cons_zero, List.setIfInBounds_toArray, List.set_cons_zero, List.set_cons_succ]
            refine wpAnyH_take (i := 9) (v := undef) rfl (by kernel_rfl) (by kernel_rfl) (by kernel_rfl) (fun _ _ _ h => h) (Or.inr ⟨by kernel_rfl, rfl⟩) hM ?_
            try simp only [Act.put, List.getElem_toArray, List.getElem_cons_succ, List.getElem_cons_zero, List.setIfInBounds_toArray, List.set_cons_zero, List.set_cons_succ]
            refine wpAnyH_take (i := 10) (v := undef) rfl (by kernel_rfl) (by kernel_rfl) (by kernel_rfl) (fun _ _ _ h => h) (Or.inr ⟨by kernel_rfl, rfl⟩) hM ?_
            try simp only [Act.put, List.getElem_toArray, List.getElem_cons_succ, List.getElem_cons_zero, List.setIfInBounds_toArray, List.set_cons_zero, List.set_cons_succ]
            refine wpAnyH_take (i := 11) (v := undef) rfl (by kernel_rfl) (by kernel_rfl) (by kernel_rfl) (fun _ _ _ h => h) (Or.inr ⟨by kernel_rfl, rfl⟩) hM ?_
            try simp only [Act.put, List.getElem_toArray, List.getElem_cons_succ, List.getElem_cons_zero, List.setIfInBounds_toArray, List.set_cons_zero, List.set_cons_succ]
            refine wpAnyH_take (i := 12) (v := undef) rfl (by kernel_rfl) (by kernel_rfl) (by kernel_rfl) (fun _ _ _ h => h) (Or.inr ⟨by kernel_rfl, rfl⟩) hM ?_
            try simp only [Act.put, List.getElem_toArray, List.getElem_cons_succ, List.getElem_cons_zero, List.setIfInBounds_toArray, List.set_cons_zero, List.set_cons_succ]
            refine wpAnyH_take (i := 13) (v := undef) rfl (by kernel_rfl) (by kernel_rfl) (by kernel_rfl) (fun _ _ _ h => h) (Or.inr ⟨by kernel_rfl, rfl⟩) hM ?_
            try simp only [Act.put, List.getElem_toArray, List.getElem_cons_succ, List.getElem_cons_zero, List.setIfInBounds_toArray, List.set_cons_zero, List.set_cons_succ]
            refine wpAnyH_take (i := 14) (v := undef) rfl (by kernel_rfl) (by kernel_rfl) (by kernel_rfl) (fun _ _ _ h => h) (Or.inr ⟨by kernel_rfl, rfl⟩) hM ?_
            try simp only [Act.put, List.getElem_toArray, List.getElem_cons_succ, List.getElem_cons_zero, List.setIfInBounds_toArray, List.set_cons_zero, List.set_cons_succ]
            refine wpAnyH_take (i := 15) (v := (.bool true)) rfl (by kernel_rfl) (by kernel_rfl) (by kernel_rfl) (fun _ _ _ h => h) (Or.inl ⟨by rfl, ?_⟩) hM ?_
            · intro W hW
              obtain ⟨r0, r1, r2, r3, r4, r5, r6, r7, r8, r9, r10, r11⟩ := hW
              kernel_rfl
            try simp only [Act.put, List.getElem_toArray, List.getElem_cons_succ, List.getElem_cons_zero, List.setIfInBounds_toArray, List.set_cons_zero, List.set_cons_succ]
            refine wpAnyH_done (by kernel_rfl) ?_ _
            refine hK _ _ (Met.intro (hJ _ _ ?_))
            (repeat apply Exists.intro)
            exact ⟨⟨by rw [HBB.out, BBV.out], Lib.hid T0'.out⟩, rfl⟩
        case rest =>
          obtain ⟨rfl, hF⟩ := hcut
          generalize wc = w12 at *
          have BR12 := Lib.hid (Below.up BR.out hF.out)
          have K12 := Lib.hid hF.out
          clear hF CA CB o10 o11 o12 o13 o14 o20 o21 o22 o23 o24
          cases hb : bb with
          | true =>
            subst hb
            go_wp2_with fail
            go_roundw
            case rel => exact ⟨k + 1, by omega, rfl, BR12⟩
            case measure => simp [intOf] <;> omega
          | false =>
            have hAB : (tP p1 q1) * QQ ≤ PP * (tQ q1) ∧ PP * (tQ q2) ≤ (tP p2 q2) * QQ := by
              have h := HBB.out
              rw [hb] at h
              by_cases hA : (tP p1 q1) * QQ ≤ PP * (tQ q1)
              · by_cases hB' : PP * (tQ q2) ≤ (tP p2 q2) * QQ
                · exact ⟨hA, hB'⟩
                · rw [decide_eq_false hB'] at h; simp at h
              · rw [decide_eq_false hA] at h; simp at h
            subst hb
            have hmin := LS.out.2.2.2 PP QQ hQ0 hAB.1 hAB.2
            have hUQ := hmin.1
            have HSQ := Lib.hid hmin.2
            clear hAB hmin HBB
            have VS12 := Lib.hid (VS10.out.below BR12.out)
            have RS12 := Lib.hid VS12.out.2.2.2.2.2.two
            have LN12 := Lib.hid (L5.out.below K12.out)
            have LD12 := Lib.hid (L6.out.below K12.out)
            obtain ⟨oc, hoc⟩ : ∃ o, ord U QQ = o := ⟨_, rfl⟩
            have do1 : decide ((0 : Int) < oc) = false := decide_eq_false (hoc ▸ ord_not_pos hUQ)
            have hoc := Lib.hid hoc
            obtain ⟨on, hon⟩ : ∃ o, ord (PP * PP) (S * S) = o := ⟨_, rfl⟩
            have dn : decide (on < (0 : Int)) = false := decide_eq_false (hon ▸ ord_not_neg HSQ.out)
            have hon := Lib.hid hon
            have lt12 := K12.out.size
            have lb12 : bl < w12.heap.size := Nat.lt_of_lt_of_le l4 lt12
            have m0 := (K12.out.cell (p := ⟨bl, k * 4, none⟩) l4).trans l0
            have m1' := (K12.out.cell (p := ⟨bl, k * 4 + 1, none⟩) l4).trans l1
            have m2' := (K12.out.cell (p := ⟨bl, k * 4 + 2, none⟩) l4).trans l2
            have m3' := (K12.out.cell (p := ⟨bl, k * 4 + 3, none⟩) l4).trans l3
            clear l0 l1 l2 l3 l4 hUQ HSQ L5 L6 HAL
            go_wp2_with fail
            go_cut [12] from 90 to 125 (fun s0 W => s0 = .int .i64 oc ∧ Hid (Below w12.heap.size w12 W))
            case first =>
              rename_i hJ hK
              have B_ := Lib.hid (Below.refl w12.heap.size w12)
              have D_ := Lib.hid (Below.drew B_.out)
              have M_ := Lib.hid (show ∀ w', Below w12.heap.size w12 w' → w'.cell? ⟨bs, 2, none⟩ = some (.bool gt) ∧ w'.cell? ⟨bs, 3, none⟩ = some (.slice xt kt yt) ∧ w'.cell? ⟨bl, k * 4 + 2, none⟩ = some (.bool gm) ∧ w'.cell? ⟨bl, k * 4 + 3, none⟩ = some (.slice xm nm cm) from fun w' h => ⟨(VS12.out.below h).2.2.1, (VS12.out.below h).2.2.2.1, (h.cell (p := ⟨bl, k * 4 + 2, none⟩) lb12).trans m2', (h.cell (p := ⟨bl, k * 4 + 3, none⟩) lb12).trans m3'⟩)
              obtain ⟨os0, os1, os2, os3, os4, _⟩ := VS12.out
              have s0 : kt ≤ 1000000000 := by omega
              have s1 : nm ≤ 1000000000 := by omega
              go_region_held3 (fun w' => w'.cell? ⟨bs, 2, none⟩ = some (.bool gt) ∧ w'.cell? ⟨bs, 3, none⟩ = some (.slice xt kt yt) ∧ w'.cell? ⟨bl, k * 4 + 2, none⟩ = some (.bool gm) ∧ w'.cell? ⟨bl, k * 4 + 3, none⟩ = some (.slice xm nm cm))
                (first | (with_reducible exact M_.out _ D_.out) | (with_reducible exact M_.out _ T0'.out))
                (first
                | (go_at_call 29; ((with_reducible refine (cmp_is (.agg #[.bool gt, .slice xt kt yt]) (.agg #[.bool gm, .slice xm nm cm]) kt nm U QQ oc _ (RS12.out.2.below D_.out) (LD12.out.below D_.out) s0 s1 hoc.out).mono ?_); rintro e wA ⟨rfl, hB⟩; have T0' := Lib.hid (Below.up D_.out hB); clear hB)))
              refine hK _ _ (Met.intro (hJ _ _ ?_))
              (repeat apply Exists.intro)
              exact ⟨⟨rfl, Lib.hid T0'.out⟩, rfl⟩
            case rest =>
              obtain ⟨rfl, hF⟩ := hcut
              generalize wc = w13 at *
              have K13 := Lib.hid hF.out
              have VS13 := Lib.hid (VS12.out.below hF.out)
              have RS13 := Lib.hid (RS12.out.1.below hF.out)
              have LN13 := Lib.hid (LN12.out.below hF.out)
              have BR13 := Lib.hid (Below.up BR12.out hF.out)
              have n0 := (hF.out.cell (p := ⟨bl, k * 4, none⟩) lb12).trans m0
              have n1' := (hF.out.cell (p := ⟨bl, k * 4 + 1, none⟩) lb12).trans m1'
              have lb13 : bl < w13.heap.size := Nat.lt_of_lt_of_le lb12 hF.out.size
              clear hF VS12 RS12 LN12 LD12 BR12 K12 m0 m1' m2' m3' K13
              go_wp2_with fail
              go_cut [13] from 90 to 125 (fun s0 W => s0 = .bool false ∧ Hid (Below w13.heap.size w13 W))
              case first =>
                rename_i hJ hK
                have B_ := Lib.hid (Below.refl w13.heap.size w13)
                have D_ := Lib.hid (Below.drew B_.out)
                have M_ := Lib.hid (show ∀ w', Below w13.heap.size w13 w' → w'.cell? ⟨bl, k * 4, none⟩ = some (.bool gl) ∧ w'.cell? ⟨bl, k * 4 + 1, none⟩ = some (.slice xl nl cl) ∧ w'.cell? ⟨bs, 0, none⟩ = some (.bool gs) ∧ w'.cell? ⟨bs, 1, none⟩ = some (.slice xs ks ys) from fun w' h => ⟨(h.cell (p := ⟨bl, k * 4, none⟩) lb13).trans n0, (h.cell (p := ⟨bl, k * 4 + 1, none⟩) lb13).trans n1', (VS13.out.below h).1, (VS13.out.below h).2.1⟩)
                obtain ⟨os0, os1, os2, os3, os4, _⟩ := VS13.out
                have s0 : nl ≤ 1000 := by omega
                have s1 : ks ≤ 1000 := by omega
                have s2 : nl < 40 ∨ nl < 40 := by omega
                have s3 : ks < 40 ∨ ks < 40 := by omega
                go_region_held3 (fun w' => w'.cell? ⟨bl, k * 4, none⟩ = some (.bool gl) ∧ w'.cell? ⟨bl, k * 4 + 1, none⟩ = some (.slice xl nl cl) ∧ w'.cell? ⟨bs, 0, none⟩ = some (.bool gs) ∧ w'.cell? ⟨bs, 1, none⟩ = some (.slice xs ks ys))
                  (first | (with_reducible exact M_.out _ D_.out) | (with_reducible exact M_.out _ T0'.out) | (with_reducible exact M_.out _ T1'.out) | (with_reducible exact M_.out _ T2'.out))
                  (first
                  | (go_at_call 10; ((with_reducible refine (mul_gf (.agg #[.bool gl, .slice xl nl cl]) (.agg #[.bool gl, .slice xl nl cl]) nl nl PP PP _ (LN13.out.below D_.out) (LN13.out.below D_.out) s0 s0 s2).mono ?_); rintro e wA ⟨gA, xA, yA, kA, rfl, hR, hkA, hB⟩; have QA := Lib.hid hR; have sA : kA ≤ 1000000000 := (by omega); have T0' := Lib.hid (Below.up D_.out hB); clear hB hR))
                  | (go_at_call 10; ((with_reducible refine (mul_gf (.agg #[.bool gs, .slice xs ks ys]) (.agg #[.bool gs, .slice xs ks ys]) ks ks S S _ (RS13.out.below T0'.out) (RS13.out.below T0'.out) s1 s1 s3).mono ?_); rintro e wB ⟨gB, xB, yB, kB, rfl, hR, hkB, hB⟩; have QB := Lib.hid hR; have HBB' := Lib.hid hB; have sB : kB ≤ 1000000000 := (by omega); have T1' := Lib.hid (Below.up T0'.out hB); clear hB hR))
                  | (go_at_call 29; ((with_reducible refine (cmp_is _ _ kA kB (PP * PP) (S * S) on _ (QA.out.below HBB'.out) QB.out sA sB hon.out).mono ?_); rintro e wC ⟨rfl, hB⟩; have T2' := Lib.hid (Below.up T1'.out hB); clear hB)))
                refine hK _ _ (Met.intro (hJ _ _ ?_))
                (repeat apply Exists.intro)
                exact ⟨⟨rfl, Lib.hid T2'.out⟩, rfl⟩
              case rest =>
                obtain ⟨rfl, hF⟩ := hcut
                generalize wc = w14 at *
                have BR14 := Lib.hid (Below.up BR13.out hF.out)
                clear hF VS13 RS13 LN13 BR13 n0 n1'
                cases hz : (oc == 0) with
                | true =>
                  go_wp2_with fail
                  go_roundw
                  case rel => exact ⟨k + 1, by omega, rfl, BR14⟩
                  case measure => simp [intOf] <;> omega
                | false =>
                  go_wp2_with fail
                  go_roundw
                  case rel => exact ⟨k + 1, by omega, rfl, BR14⟩
                  case measure => simp [intOf] <;> omega
      · go_wp2_with fail
        go_ret
        exact ⟨rfl, Below.up W0.out B11.out⟩
end Go.Proofs.YtpkjpepnjlcgoaaDoor
end

section
set_option linter.unusedVariables false
set_option linter.unusedSimpArgs false
set_option maxRecDepth 100000
namespace Go.Proofs.YtpkjpepnjlcgoaaDoor
open Go.RowKit

set_option maxHeartbeats 3200000 in
theorem simplest_long1 (g1 h1 g2 h2 g3 h3 : Bool) (a1 b1 a2 b2 a3 b3 : Option Addr) (n1 m1 n2 m2 n3 m3 c1 d1 c2 d2 c3 d3 : Nat) (p1 q1 p2 q2 p3 q3 : Int) (w : World) (hT : Tab w) (hr1 : AR w (.agg #[.bool g1, .slice a1 n1 c1, .bool h1, .slice b1 m1 d1]) n1 m1 p1 q1) (hr2 : AR w (.agg #[.bool g2, .slice a2 n2 c2, .bool h2, .slice b2 m2 d2]) n2 m2 p2 q2) (hr3 : AR w (.agg #[.bool g3, .slice a3 n3 c3, .bool h3, .slice b3 m3 d3]) n3 m3 p3 q3)  (hlong : 6 < max n1 m1) :
    Calls Tryd.prog 5 #[.agg #[.bool g1, .slice a1 n1 c1, .bool h1, .slice b1 m1 d1], .agg #[.bool g2, .slice a2 n2 c2, .bool h2, .slice b2 m2 d2], .agg #[.bool g3, .slice a3 n3 c3, .bool h3, .slice b3 m3 d3]] w fun e w' => e = .returned (.bool true) ∧ Below w.heap.size w w' := by
  have W0 := Lib.hid (show Below w.heap.size w (((w.alloc (.cells #[.bool g1, .slice a1 n1 c1, .bool h1, .slice b1 m1 d1] 26)).alloc (.cells #[.bool g2, .slice a2 n2 c2, .bool h2, .slice b2 m2 d2] 26)).alloc (.cells #[.bool g3, .slice a3 n3 c3, .bool h3, .slice b3 m3 d3] 26)) from Below.alloc' (Below.alloc2 _ _ _) _)
  have V1 := Lib.hid (show RV (((w.alloc (.cells #[.bool g1, .slice a1 n1 c1, .bool h1, .slice b1 m1 d1] 26)).alloc (.cells #[.bool g2, .slice a2 n2 c2, .bool h2, .slice b2 m2 d2] 26)).alloc (.cells #[.bool g3, .slice a3 n3 c3, .bool h3, .slice b3 m3 d3] 26)) w.heap.size g1 a1 n1 c1 h1 b1 m1 d1 p1 q1 from ((RV.new hr1).below (Below.alloc' (Below.refl _ _) _)).below (Below.alloc' (Below.refl _ _) _))
  have V2 := Lib.hid (show RV (((w.alloc (.cells #[.bool g1, .slice a1 n1 c1, .bool h1, .slice b1 m1 d1] 26)).alloc (.cells #[.bool g2, .slice a2 n2 c2, .bool h2, .slice b2 m2 d2] 26)).alloc (.cells #[.bool g3, .slice a3 n3 c3, .bool h3, .slice b3 m3 d3] 26)) (w.heap.size + 1) g2 a2 n2 c2 h2 b2 m2 d2 p2 q2 from (RV.new' (hr2.below (w' := w.alloc (.cells #[.bool g1, .slice a1 n1 c1, .bool h1, .slice b1 m1 d1] 26)) (Below.alloc' (Below.refl _ _) _)) (by simp)).below (Below.alloc' (Below.refl _ _) _))
  have V3 := Lib.hid (show RV (((w.alloc (.cells #[.bool g1, .slice a1 n1 c1, .bool h1, .slice b1 m1 d1] 26)).alloc (.cells #[.bool g2, .slice a2 n2 c2, .bool h2, .slice b2 m2 d2] 26)).alloc (.cells #[.bool g3, .slice a3 n3 c3, .bool h3, .slice b3 m3 d3] 26)) (w.heap.size + 1 + 1) g3 a3 n3 c3 h3 b3 m3 d3 p3 q3 from RV.new' (hr3.below (Below.alloc2 _ _ _)) (by simp))
  have T0 := Lib.hid (hT.up W0.out)
  clear hT hr1 hr2 hr3
  go_enter Tryd.func5, Tryd.ntmps5
  go_wp2_with fail
  refine calls_at (fun W => Below w.heap.size w W ∧ RV W w.heap.size g1 a1 n1 c1 h1 b1 m1 d1 p1 q1 ∧ RV W (w.heap.size + 1) g2 a2 n2 c2 h2 b2 m2 d2 p2 q2 ∧ RV W (w.heap.size + 1 + 1) g3 a3 n3 c3 h3 b3 m3 d3 p3 q3 ∧ Tab W ∧ W.heap.size = w.heap.size + 3) ⟨W0.out, V1.out, V2.out, V3.out, T0.out, by simp⟩ ?_
  clear W0 V1 V2 V3 T0
  rintro w0 ⟨k0, k1, k2, k3, k4, hz0⟩
  have W0 := Lib.hid k0
  have V1 := Lib.hid k1
  have V2 := Lib.hid k2
  have V3 := Lib.hid k3
  have T0 := Lib.hid k4
  clear k0 k1 k2 k3 k4
  refine (alive_any _ T0.out).mono ?_
  rintro e w1 ⟨rfl, hB⟩
  have B1 := Lib.hid hB
  clear hB
  obtain ⟨o10, o11, o12, o13, o14, _⟩ := V1.out.below B1.out
  go_wp2_with fail
  refine (Wide_any _ n1 m1 p1 q1 _ (V1.out.below B1.out).2.2.2.2.2).mono ?_
  rintro e w2 ⟨⟨L1, rfl, hL1⟩, hB⟩
  have B2 := Lib.hid (B1.out.trans (hB.mono B1.out.size))
  clear hB B1 o10 o11 o12 o13 o14
  have dL1 : decide ((6 : Int) < (L1 : Int)) = true := decide_eq_true (by omega)
  go_wp2_with fail
  go_ret
  exact ⟨rfl, Below.up W0.out B2.out⟩

set_option maxHeartbeats 3200000 in
theorem simplest_long2 (g1 h1 g2 h2 g3 h3 : Bool) (a1 b1 a2 b2 a3 b3 : Option Addr) (n1 m1 n2 m2 n3 m3 c1 d1 c2 d2 c3 d3 : Nat) (p1 q1 p2 q2 p3 q3 : Int) (w : World) (hT : Tab w) (hr1 : AR w (.agg #[.bool g1, .slice a1 n1 c1, .bool h1, .slice b1 m1 d1]) n1 m1 p1 q1) (hr2 : AR w (.agg #[.bool g2, .slice a2 n2 c2, .bool h2, .slice b2 m2 d2]) n2 m2 p2 q2) (hr3 : AR w (.agg #[.bool g3, .slice a3 n3 c3, .bool h3, .slice b3 m3 d3]) n3 m3 p3 q3) (hn1 : n1 ≤ 6) (hm1 : m1 ≤ 6) (hlong : 6 < max n2 m2) :
    Calls Tryd.prog 5 #[.agg #[.bool g1, .slice a1 n1 c1, .bool h1, .slice b1 m1 d1], .agg #[.bool g2, .slice a2 n2 c2, .bool h2, .slice b2 m2 d2], .agg #[.bool g3, .slice a3 n3 c3, .bool h3, .slice b3 m3 d3]] w fun e w' => e = .returned (.bool true) ∧ Below w.heap.size w w' := by
  have W0 := Lib.hid (show Below w.heap.size w (((w.alloc (.cells #[.bool g1, .slice a1 n1 c1, .bool h1, .slice b1 m1 d1] 26)).alloc (.cells #[.bool g2, .slice a2 n2 c2, .bool h2, .slice b2 m2 d2] 26)).alloc (.cells #[.bool g3, .slice a3 n3 c3, .bool h3, .slice b3 m3 d3] 26)) from Below.alloc' (Below.alloc2 _ _ _) _)
  have V1 := Lib.hid (show RV (((w.alloc (.cells #[.bool g1, .slice a1 n1 c1, .bool h1, .slice b1 m1 d1] 26)).alloc (.cells #[.bool g2, .slice a2 n2 c2, .bool h2, .slice b2 m2 d2] 26)).alloc (.cells #[.bool g3, .slice a3 n3 c3, .bool h3, .slice b3 m3 d3] 26)) w.heap.size g1 a1 n1 c1 h1 b1 m1 d1 p1 q1 from ((RV.new hr1).below (Below.alloc' (Below.refl _ _) _)).below (Below.alloc' (Below.refl _ _) _))
  have V2 := Lib.hid (show RV (((w.alloc (.cells #[.bool g1, .slice a1 n1 c1, .bool h1, .slice b1 m1 d1] 26)).alloc (.cells #[.bool g2, .slice a2 n2 c2, .bool h2, .slice b2 m2 d2] 26)).alloc (.cells #[.bool g3, .slice a3 n3 c3, .bool h3, .slice b3 m3 d3] 26)) (w.heap.size + 1) g2 a2 n2 c2 h2 b2 m2 d2 p2 q2 from (RV.new' (hr2.below (w' := w.alloc (.cells #[.bool g1, .slice a1 n1 c1, .bool h1, .slice b1 m1 d1] 26)) (Below.alloc' (Below.refl _ _) _)) (by simp)).below (Below.alloc' (Below.refl _ _) _))
  have V3 := Lib.hid (show RV (((w.alloc (.cells #[.bool g1, .slice a1 n1 c1, .bool h1, .slice b1 m1 d1] 26)).alloc (.cells #[.bool g2, .slice a2 n2 c2, .bool h2, .slice b2 m2 d2] 26)).alloc (.cells #[.bool g3, .slice a3 n3 c3, .bool h3, .slice b3 m3 d3] 26)) (w.heap.size + 1 + 1) g3 a3 n3 c3 h3 b3 m3 d3 p3 q3 from RV.new' (hr3.below (Below.alloc2 _ _ _)) (by simp))
  have T0 := Lib.hid (hT.up W0.out)
  clear hT hr1 hr2 hr3
  go_enter Tryd.func5, Tryd.ntmps5
  go_wp2_with fail
  refine calls_at (fun W => Below w.heap.size w W ∧ RV W w.heap.size g1 a1 n1 c1 h1 b1 m1 d1 p1 q1 ∧ RV W (w.heap.size + 1) g2 a2 n2 c2 h2 b2 m2 d2 p2 q2 ∧ RV W (w.heap.size + 1 + 1) g3 a3 n3 c3 h3 b3 m3 d3 p3 q3 ∧ Tab W ∧ W.heap.size = w.heap.size + 3) ⟨W0.out, V1.out, V2.out, V3.out, T0.out, by simp⟩ ?_
  clear W0 V1 V2 V3 T0
  rintro w0 ⟨k0, k1, k2, k3, k4, hz0⟩
  have W0 := Lib.hid k0
  have V1 := Lib.hid k1
  have V2 := Lib.hid k2
  have V3 := Lib.hid k3
  have T0 := Lib.hid k4
  clear k0 k1 k2 k3 k4
  refine (alive_any _ T0.out).mono ?_
  rintro e w1 ⟨rfl, hB⟩
  have B1 := Lib.hid hB
  clear hB
  obtain ⟨o10, o11, o12, o13, o14, _⟩ := V1.out.below B1.out
  go_wp2_with fail
  refine (Wide_any _ n1 m1 p1 q1 _ (V1.out.below B1.out).2.2.2.2.2).mono ?_
  rintro e w2 ⟨⟨L1, rfl, hL1⟩, hB⟩
  have B2 := Lib.hid (B1.out.trans (hB.mono B1.out.size))
  clear hB B1 o10 o11 o12 o13 o14
  have dL1 : decide ((6 : Int) < (L1 : Int)) = false := decide_eq_false (by omega)
  obtain ⟨o20, o21, o22, o23, o24, _⟩ := V2.out.below B2.out
  go_wp2_with fail
  refine (Wide_any _ n2 m2 p2 q2 _ (V2.out.below B2.out).2.2.2.2.2).mono ?_
  rintro e w3 ⟨⟨L2, rfl, hL2⟩, hB⟩
  have B3 := Lib.hid (B2.out.trans (hB.mono B2.out.size))
  clear hB B2 o20 o21 o22 o23 o24
  have dL2 : decide ((6 : Int) < (L2 : Int)) = true := decide_eq_true (by omega)
  go_wp2_with fail
  go_ret
  exact ⟨rfl, Below.up W0.out B3.out⟩

set_option maxHeartbeats 3200000 in
theorem simplest_long3 (g1 h1 g2 h2 g3 h3 : Bool) (a1 b1 a2 b2 a3 b3 : Option Addr) (n1 m1 n2 m2 n3 m3 c1 d1 c2 d2 c3 d3 : Nat) (p1 q1 p2 q2 p3 q3 : Int) (w : World) (hT : Tab w) (hr1 : AR w (.agg #[.bool g1, .slice a1 n1 c1, .bool h1, .slice b1 m1 d1]) n1 m1 p1 q1) (hr2 : AR w (.agg #[.bool g2, .slice a2 n2 c2, .bool h2, .slice b2 m2 d2]) n2 m2 p2 q2) (hr3 : AR w (.agg #[.bool g3, .slice a3 n3 c3, .bool h3, .slice b3 m3 d3]) n3 m3 p3 q3) (hn1 : n1 ≤ 6) (hm1 : m1 ≤ 6) (hn2 : n2 ≤ 6) (hm2 : m2 ≤ 6) (hlong : 6 < max n3 m3) :
    Calls Tryd.prog 5 #[.agg #[.bool g1, .slice a1 n1 c1, .bool h1, .slice b1 m1 d1], .agg #[.bool g2, .slice a2 n2 c2, .bool h2, .slice b2 m2 d2], .agg #[.bool g3, .slice a3 n3 c3, .bool h3, .slice b3 m3 d3]] w fun e w' => e = .returned (.bool true) ∧ Below w.heap.size w w' := by
  have W0 := Lib.hid (show Below w.heap.size w (((w.alloc (.cells #[.bool g1, .slice a1 n1 c1, .bool h1, .slice b1 m1 d1] 26)).alloc (.cells #[.bool g2, .slice a2 n2 c2, .bool h2, .slice b2 m2 d2] 26)).alloc (.cells #[.bool g3, .slice a3 n3 c3, .bool h3, .slice b3 m3 d3] 26)) from Below.alloc' (Below.alloc2 _ _ _) _)
  have V1 := Lib.hid (show RV (((w.alloc (.cells #[.bool g1, .slice a1 n1 c1, .bool h1, .slice b1 m1 d1] 26)).alloc (.cells #[.bool g2, .slice a2 n2 c2, .bool h2, .slice b2 m2 d2] 26)).alloc (.cells #[.bool g3, .slice a3 n3 c3, .bool h3, .slice b3 m3 d3] 26)) w.heap.size g1 a1 n1 c1 h1 b1 m1 d1 p1 q1 from ((RV.new hr1).below (Below.alloc' (Below.refl _ _) _)).below (Below.alloc' (Below.refl _ _) _))
  have V2 := Lib.hid (show RV (((w.alloc (.cells #[.bool g1, .slice a1 n1 c1, .bool h1, .slice b1 m1 d1] 26)).alloc (.cells #[.bool g2, .slice a2 n2 c2, .bool h2, .slice b2 m2 d2] 26)).alloc (.cells #[.bool g3, .slice a3 n3 c3, .bool h3, .slice b3 m3 d3] 26)) (w.heap.size + 1) g2 a2 n2 c2 h2 b2 m2 d2 p2 q2 from (RV.new' (hr2.below (w' := w.alloc (.cells #[.bool g1, .slice a1 n1 c1, .bool h1, .slice b1 m1 d1] 26)) (Below.alloc' (Below.refl _ _) _)) (by simp)).below (Below.alloc' (Below.refl _ _) _))
  have V3 := Lib.hid (show RV (((w.alloc (.cells #[.bool g1, .slice a1 n1 c1, .bool h1, .slice b1 m1 d1] 26)).alloc (.cells #[.bool g2, .slice a2 n2 c2, .bool h2, .slice b2 m2 d2] 26)).alloc (.cells #[.bool g3, .slice a3 n3 c3, .bool h3, .slice b3 m3 d3] 26)) (w.heap.size + 1 + 1) g3 a3 n3 c3 h3 b3 m3 d3 p3 q3 from RV.new' (hr3.below (Below.alloc2 _ _ _)) (by simp))
  have T0 := Lib.hid (hT.up W0.out)
  clear hT hr1 hr2 hr3
  go_enter Tryd.func5, Tryd.ntmps5
  go_wp2_with fail
  refine calls_at (fun W => Below w.heap.size w W ∧ RV W w.heap.size g1 a1 n1 c1 h1 b1 m1 d1 p1 q1 ∧ RV W (w.heap.size + 1) g2 a2 n2 c2 h2 b2 m2 d2 p2 q2 ∧ RV W (w.heap.size + 1 + 1) g3 a3 n3 c3 h3 b3 m3 d3 p3 q3 ∧ Tab W ∧ W.heap.size = w.heap.size + 3) ⟨W0.out, V1.out, V2.out, V3.out, T0.out, by simp⟩ ?_
  clear W0 V1 V2 V3 T0
  rintro w0 ⟨k0, k1, k2, k3, k4, hz0⟩
  have W0 := Lib.hid k0
  have V1 := Lib.hid k1
  have V2 := Lib.hid k2
  have V3 := Lib.hid k3
  have T0 := Lib.hid k4
  clear k0 k1 k2 k3 k4
  refine (alive_any _ T0.out).mono ?_
  rintro e w1 ⟨rfl, hB⟩
  have B1 := Lib.hid hB
  clear hB
  obtain ⟨o10, o11, o12, o13, o14, _⟩ := V1.out.below B1.out
  go_wp2_with fail
  refine (Wide_any _ n1 m1 p1 q1 _ (V1.out.below B1.out).2.2.2.2.2).mono ?_
  rintro e w2 ⟨⟨L1, rfl, hL1⟩, hB⟩
  have B2 := Lib.hid (B1.out.trans (hB.mono B1.out.size))
  clear hB B1 o10 o11 o12 o13 o14
  have dL1 : decide ((6 : Int) < (L1 : Int)) = false := decide_eq_false (by omega)
  obtain ⟨o20, o21, o22, o23, o24, _⟩ := V2.out.below B2.out
  go_wp2_with fail
  refine (Wide_any _ n2 m2 p2 q2 _ (V2.out.below B2.out).2.2.2.2.2).mono ?_
  rintro e w3 ⟨⟨L2, rfl, hL2⟩, hB⟩
  have B3 := Lib.hid (B2.out.trans (hB.mono B2.out.size))
  clear hB B2 o20 o21 o22 o23 o24
  have dL2 : decide ((6 : Int) < (L2 : Int)) = false := decide_eq_false (by omega)
  obtain ⟨o30, o31, o32, o33, o34, _⟩ := V3.out.below B3.out
  go_wp2_with fail
  refine (Wide_any _ n3 m3 p3 q3 _ (V3.out.below B3.out).2.2.2.2.2).mono ?_
  rintro e w4 ⟨⟨L3, rfl, hL3⟩, hB⟩
  have B4 := Lib.hid (B3.out.trans (hB.mono B3.out.size))
  clear hB B3 o30 o31 o32 o33 o34
  have dL3 : decide ((6 : Int) < (L3 : Int)) = true := decide_eq_true (by omega)
  go_wp2_with fail
  go_ret
  exact ⟨rfl, Below.up W0.out B4.out⟩

set_option maxHeartbeats 6400000 in
theorem simplest_no (g1 h1 g2 h2 g3 h3 : Bool) (a1 b1 a2 b2 a3 b3 : Option Addr) (n1 m1 n2 m2 n3 m3 c1 d1 c2 d2 c3 d3 : Nat) (p1 q1 p2 q2 p3 q3 : Int) (w : World) (hT : Tab w) (hr1 : AR w (.agg #[.bool g1, .slice a1 n1 c1, .bool h1, .slice b1 m1 d1]) n1 m1 p1 q1) (hr2 : AR w (.agg #[.bool g2, .slice a2 n2 c2, .bool h2, .slice b2 m2 d2]) n2 m2 p2 q2) (hr3 : AR w (.agg #[.bool g3, .slice a3 n3 c3, .bool h3, .slice b3 m3 d3]) n3 m3 p3 q3) (hn1 : n1 ≤ 6) (hm1 : m1 ≤ 6) (hn2 : n2 ≤ 6) (hm2 : m2 ≤ 6) (hn3 : n3 ≤ 6) (hm3 : m3 ≤ 6) (hlt : (tP p2 q2) * (tQ q1) < (tP p1 q1) * (tQ q2)) :
    Calls Tryd.prog 5 #[.agg #[.bool g1, .slice a1 n1 c1, .bool h1, .slice b1 m1 d1], .agg #[.bool g2, .slice a2 n2 c2, .bool h2, .slice b2 m2 d2], .agg #[.bool g3, .slice a3 n3 c3, .bool h3, .slice b3 m3 d3]] w fun e w' => e = .returned (.bool true) ∧ Below w.heap.size w w' := by
  have W0 := Lib.hid (show Below w.heap.size w (((w.alloc (.cells #[.bool g1, .slice a1 n1 c1, .bool h1, .slice b1 m1 d1] 26)).alloc (.cells #[.bool g2, .slice a2 n2 c2, .bool h2, .slice b2 m2 d2] 26)).alloc (.cells #[.bool g3, .slice a3 n3 c3, .bool h3, .slice b3 m3 d3] 26)) from Below.alloc' (Below.alloc2 _ _ _) _)
  have V1 := Lib.hid (show RV (((w.alloc (.cells #[.bool g1, .slice a1 n1 c1, .bool h1, .slice b1 m1 d1] 26)).alloc (.cells #[.bool g2, .slice a2 n2 c2, .bool h2, .slice b2 m2 d2] 26)).alloc (.cells #[.bool g3, .slice a3 n3 c3, .bool h3, .slice b3 m3 d3] 26)) w.heap.size g1 a1 n1 c1 h1 b1 m1 d1 p1 q1 from ((RV.new hr1).below (Below.alloc' (Below.refl _ _) _)).below (Below.alloc' (Below.refl _ _) _))
  have V2 := Lib.hid (show RV (((w.alloc (.cells #[.bool g1, .slice a1 n1 c1, .bool h1, .slice b1 m1 d1] 26)).alloc (.cells #[.bool g2, .slice a2 n2 c2, .bool h2, .slice b2 m2 d2] 26)).alloc (.cells #[.bool g3, .slice a3 n3 c3, .bool h3, .slice b3 m3 d3] 26)) (w.heap.size + 1) g2 a2 n2 c2 h2 b2 m2 d2 p2 q2 from (RV.new' (hr2.below (w' := w.alloc (.cells #[.bool g1, .slice a1 n1 c1, .bool h1, .slice b1 m1 d1] 26)) (Below.alloc' (Below.refl _ _) _)) (by simp)).below (Below.alloc' (Below.refl _ _) _))
  have V3 := Lib.hid (show RV (((w.alloc (.cells #[.bool g1, .slice a1 n1 c1, .bool h1, .slice b1 m1 d1] 26)).alloc (.cells #[.bool g2, .slice a2 n2 c2, .bool h2, .slice b2 m2 d2] 26)).alloc (.cells #[.bool g3, .slice a3 n3 c3, .bool h3, .slice b3 m3 d3] 26)) (w.heap.size + 1 + 1) g3 a3 n3 c3 h3 b3 m3 d3 p3 q3 from RV.new' (hr3.below (Below.alloc2 _ _ _)) (by simp))
  have T0 := Lib.hid (hT.up W0.out)
  clear hT hr1 hr2 hr3
  go_enter Tryd.func5, Tryd.ntmps5
  go_wp2_with fail
  refine calls_at (fun W => Below w.heap.size w W ∧ RV W w.heap.size g1 a1 n1 c1 h1 b1 m1 d1 p1 q1 ∧ RV W (w.heap.size + 1) g2 a2 n2 c2 h2 b2 m2 d2 p2 q2 ∧ RV W (w.heap.size + 1 + 1) g3 a3 n3 c3 h3 b3 m3 d3 p3 q3 ∧ Tab W ∧ W.heap.size = w.heap.size + 3) ⟨W0.out, V1.out, V2.out, V3.out, T0.out, by simp⟩ ?_
  clear W0 V1 V2 V3 T0
  rintro w0 ⟨k0, k1, k2, k3, k4, hz0⟩
  have W0 := Lib.hid k0
  have V1 := Lib.hid k1
  have V2 := Lib.hid k2
  have V3 := Lib.hid k3
  have T0 := Lib.hid k4
  clear k0 k1 k2 k3 k4
  refine (alive_any _ T0.out).mono ?_
  rintro e w1 ⟨rfl, hB⟩
  have B1 := Lib.hid hB
  clear hB
  obtain ⟨o10, o11, o12, o13, o14, _⟩ := V1.out.below B1.out
  go_wp2_with fail
  refine (Wide_any _ n1 m1 p1 q1 _ (V1.out.below B1.out).2.2.2.2.2).mono ?_
  rintro e w2 ⟨⟨L1, rfl, hL1⟩, hB⟩
  have B2 := Lib.hid (B1.out.trans (hB.mono B1.out.size))
  clear hB B1 o10 o11 o12 o13 o14
  have dL1 : decide ((6 : Int) < (L1 : Int)) = false := decide_eq_false (by omega)
  obtain ⟨o20, o21, o22, o23, o24, _⟩ := V2.out.below B2.out
  go_wp2_with fail
  refine (Wide_any _ n2 m2 p2 q2 _ (V2.out.below B2.out).2.2.2.2.2).mono ?_
  rintro e w3 ⟨⟨L2, rfl, hL2⟩, hB⟩
  have B3 := Lib.hid (B2.out.trans (hB.mono B2.out.size))
  clear hB B2 o20 o21 o22 o23 o24
  have dL2 : decide ((6 : Int) < (L2 : Int)) = false := decide_eq_false (by omega)
  obtain ⟨o30, o31, o32, o33, o34, _⟩ := V3.out.below B3.out
  go_wp2_with fail
  refine (Wide_any _ n3 m3 p3 q3 _ (V3.out.below B3.out).2.2.2.2.2).mono ?_
  rintro e w4 ⟨⟨L3, rfl, hL3⟩, hB⟩
  have B4 := Lib.hid (B3.out.trans (hB.mono B3.out.size))
  clear hB B3 o30 o31 o32 o33 o34
  have dL3 : decide ((6 : Int) < (L3 : Int)) = false := decide_eq_false (by omega)
  obtain ⟨o10, o11, o12, o13, o14, _⟩ := V1.out.below B4.out
  obtain ⟨o20, o21, o22, o23, o24, _⟩ := V2.out.below B4.out
  go_wp2_with fail
  refine (Between_no g1 h1 g2 h2 a1 b1 a2 b2 n1 m1 n2 m2 c1 d1 c2 d2 p1 q1 p2 q2 _ (V1.out.below B4.out).2.2.2.2.2 (V2.out.below B4.out).2.2.2.2.2 hn1 hm1 hn2 hm2 hlt).mono ?_
  rintro e w5 ⟨rfl, hB⟩
  have B5 := Lib.hid (B4.out.trans ((hB.mono B4.out.size)))
  have B6 := Lib.hid (Below.alloc' B5.out (.cells #[.bool false, .slice none 0 0, .bool false, .slice none 0 0] 26))
  clear hB B4 o10 o11 o12 o13 o14 o20 o21 o22 o23 o24
  obtain ⟨o10, o11, o12, o13, o14, _⟩ := V1.out.below B6.out
  obtain ⟨o20, o21, o22, o23, o24, _⟩ := V2.out.below B6.out
  go_wp2_with fail
  refine (Compare_any _ _ n1 m1 n2 m2 p1 q1 p2 q2 _ (V1.out.below B6.out).2.2.2.2.2 (V2.out.below B6.out).2.2.2.2.2 (by omega) (by omega) (by omega) (by omega) (by omega) (by omega)).mono ?_
  rintro e w7 ⟨rfl, hB⟩
  have dz : decide ((0 : Int) < ord ((tP p1 q1) * (tQ q2)) ((tP p2 q2) * (tQ q1))) = true := decide_eq_true (by rw [ord_gt hlt]; omega)
  have B7 := Lib.hid (B6.out.trans (hB.mono B6.out.size))
  clear hB
  go_wp2_with fail
  go_ret
  exact ⟨rfl, Below.up W0.out B7.out⟩

end Go.Proofs.YtpkjpepnjlcgoaaDoor
end
