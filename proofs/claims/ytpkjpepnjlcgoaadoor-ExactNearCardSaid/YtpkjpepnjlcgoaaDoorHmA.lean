/- Contracts: areBits, Fixed, FromFixed. Contracts: bitLength, the steps of a root, descend, rootOf, Root. Contracts: rootOf, Root, RootFixed. Contract: RootFixed. For the law of nearness: ratios in variables by their values, short contracts, the plain facts. -/
import Derived.Test.YtpkjpepnjlcgoaaDoorGmA
import Derived.Deep.LoopGhost
import Derived.Deep.CutRange
import Derived.Test.YtpkjpepnjlcgoaaDoorEyE
import Derived.Test.YtpkjpepnjlcgoaaDoorEyC
import Derived.Test.YtpkjpepnjlcgoaaDoorEyD
import Derived.Test.YtpkjpepnjlcgoaaDoorEyK
import Derived.Test.YtpkjpepnjlcgoaaDoorEzI
import Derived.Test.YtpkjpepnjlcgoaaDoorExU

section
set_option linter.unusedVariables false
set_option linter.unusedSimpArgs false
set_option maxRecDepth 100000
namespace Go.Proofs.YtpkjpepnjlcgoaaDoor
open Go.RowKit

theorem AR.two {w : World} {g g' : Bool} {a a' : Option Addr} {n c n' c' m m' : Nat} {p q : Int} (h : AR w (.agg #[.bool g, .slice a n c, .bool g', .slice a' n' c']) m m' p q) : AI w (.agg #[.bool g, .slice a n c]) m p ∧ AI w (.agg #[.bool g', .slice a' n' c']) m' q := by
  obtain ⟨_, _, _, _, e, h1, h2⟩ := h
  simp only [Value.agg.injEq, Array.mk.injEq, List.cons.injEq, and_true] at e
  obtain ⟨rfl, rfl, rfl, rfl⟩ := e
  exact ⟨h1, h2⟩
theorem areBits_yes (k : Nat) (w : World) (hk : k ≤ 256) : Calls Tryd.prog 44 #[.int .i64 k] w fun e w' => e = .returned (.bool true) ∧ w' = w := by
  have d1 : decide ((0 : Int) ≤ (k : Int)) = true := decide_eq_true (by omega)
  have d2 : decide ((k : Int) ≤ 256) = true := decide_eq_true (by omega)
  go_enter Tryd.func44, Tryd.ntmps44
  go_wp2_with fail
  go_ret
  exact ⟨rfl, rfl⟩
theorem double_gf (u : Value) (n k : Nat) (p : Int) (w : World) (hu : AI w u n p) (hn : n ≤ 1000) (hk : k ≤ 1000) :
    Calls Tryd.prog 45 #[u, .int .i64 k] w (Gf w (p * 2 ^ k) (k / 32 + n + 1)) := by
  refine (double_any u n k p w hu (by omega) (by omega)).mono ?_
  rintro e w' ⟨r, j, rfl, h1, h2, h3⟩
  obtain ⟨g, a, c, rfl⟩ := h1.form
  exact ⟨g, a, c, j, rfl, h1.ai, by omega, h3⟩

set_option maxHeartbeats 6400000 in
theorem Fixed_any (g h : Bool) (a b : Option Addr) (n m c d k : Nat) (p q : Int) (w : World) (hu : AR w (.agg #[.bool g, .slice a n c, .bool h, .slice b m d]) n m p q) (hn : n ≤ 100) (hm : m ≤ 100) (hk : k ≤ 256) :
    Calls Tryd.prog 18 #[.agg #[.bool g, .slice a n c, .bool h, .slice b m d], .int .i64 k] w fun e w' => ∃ g2 a2 c2 j Q R, e = .returned (.tuple #[.agg #[.bool g2, .slice a2 j c2], .int .i64 0]) ∧ AI w' (.agg #[.bool g2, .slice a2 j c2]) j Q ∧ DvS (tP p q * 2 ^ k * 2 + tQ q) (tQ q * 2) Q R ∧ j ≤ max (n + 9) (max m 2) + 6 ∧ Below w.heap.size w w' := by
  have V0 := Lib.hid (show RV ((w.alloc (.cells #[.bool g, .slice a n c, .bool h, .slice b m d] 26)).alloc (.cells #[.bool false, .slice none 0 0] 24)) w.heap.size g a n c h b m d p q from (RV.new hu).below (Below.alloc' (Below.refl _ _) _))
  have V1 := Lib.hid (show Box2 ((w.alloc (.cells #[.bool g, .slice a n c, .bool h, .slice b m d] 26)).alloc (.cells #[.bool false, .slice none 0 0] 24)) (w.heap.size + 1) from Box2.new1 w (.cells #[.bool g, .slice a n c, .bool h, .slice b m d] 26) false none 0 0)
  have HW := Lib.hid (show Below w.heap.size w ((w.alloc (.cells #[.bool g, .slice a n c, .bool h, .slice b m d] 26)).alloc (.cells #[.bool false, .slice none 0 0] 24)) from Below.alloc2 _ _ _)
  have HQ := Lib.hid (tQ_pos q)
  clear hu
  go_enter Tryd.func18, Tryd.ntmps18
  go_wp2_with fail
  refine (areBits_yes k _ hk).mono ?_
  rintro e w' ⟨rfl, rfl⟩
  obtain ⟨e0, e1, e2, e3, e4, _⟩ := V0.out
  go_wp2_with fail
  refine calls_at (fun W => Below w.heap.size w W ∧ RV W w.heap.size g a n c h b m d p q ∧ Box2 W (w.heap.size + 1)) ⟨HW.out, V0.out, V1.out⟩ ?_
  clear HW V0 V1 e0 e1 e2 e3 e4
  rintro w0 ⟨k0, k1, k2⟩
  have HW := Lib.hid k0
  have V0 := Lib.hid k1
  have V1 := Lib.hid k2
  clear k0 k1 k2
  refine (terms_gi _ n m p q _ V0.out.2.2.2.2.2 (by omega) (by omega)).mono ?_
  rintro e w1 ⟨gp, xp, yp, gq, xq, yq, kp, kq, rfl, hP, hQ, hkp, hkq, hB⟩
  have NP := Lib.hid hP
  have NQ := Lib.hid hQ
  have HW1 := Lib.hid (Below.up HW.out hB)
  have X1 := Lib.hid (V1.out.below hB)
  clear hP hQ hB HW V0 V1
  go_wp2_with fail
  refine wp_at (fun W => Below w.heap.size w W ∧ Box2 W (w.heap.size + 1) ∧ IV W w1.heap.size gp xp kp yp (tP p q) ∧ IV W (w1.heap.size + 1) gq xq kq yq (tQ q)) ⟨Below.up HW1.out (Below.alloc2 _ _ _), X1.out.below (Below.alloc2 _ _ _), (IV.new NP.out).below (Below.alloc' (Below.refl _ _) _), IV.new' (NQ.out.alloc _) (by simp)⟩ ?_
  have hlt := X1.out.lt
  clear HW1 X1 NP NQ
  rintro w2 ⟨k0, k1, k2, k3⟩
  have HW := Lib.hid k0
  have X1 := Lib.hid k1
  have VP := Lib.hid k2
  have VQ := Lib.hid k3
  clear k0 k1 k2 k3
  generalize hb7 : w1.heap.size + 1 = b7 at *
  generalize w1.heap.size = b6 at *
  have B_ := Lib.hid (Below.refl w2.heap.size w2)
  have D_ := Lib.hid (Below.drew B_.out)
  have M_ := Lib.hid (show ∀ w', Below w2.heap.size w2 w' → w'.cell? ⟨b6, 0, none⟩ = some (.bool gp) ∧ w'.cell? ⟨b6, 1, none⟩ = some (.slice xp kp yp) ∧ w'.cell? ⟨b7, 0, none⟩ = some (.bool gq) ∧ w'.cell? ⟨b7, 1, none⟩ = some (.slice xq kq yq) from fun w' h => ⟨(VP.out.below h).1, (VP.out.below h).2.1, (VQ.out.below h).1, (VQ.out.below h).2.1⟩)
  have MS := Lib.hid (show ∀ (w' : World) (i : Nat) (u : Value), (w'.cell? ⟨b6, 0, none⟩ = some (.bool gp) ∧ w'.cell? ⟨b6, 1, none⟩ = some (.slice xp kp yp) ∧ w'.cell? ⟨b7, 0, none⟩ = some (.bool gq) ∧ w'.cell? ⟨b7, 1, none⟩ = some (.slice xq kq yq)) → (fun w' => w'.cell? ⟨b6, 0, none⟩ = some (.bool gp) ∧ w'.cell? ⟨b6, 1, none⟩ = some (.slice xp kp yp) ∧ w'.cell? ⟨b7, 0, none⟩ = some (.bool gq) ∧ w'.cell? ⟨b7, 1, none⟩ = some (.slice xq kq yq)) (w'.setCell ⟨w.heap.size + 1, i, none⟩ u) from fun w' i u h => by
    have K : ∀ b o, w.heap.size + 1 < b → (w'.setCell ⟨w.heap.size + 1, i, none⟩ u).cell? ⟨b, o, none⟩ = w'.cell? ⟨b, o, none⟩ := fun b o hb => World.cell?_of_block (Below.heap_setCell _ _ _ _ (by show b ≠ w.heap.size + 1; omega))
    obtain ⟨q0, q1, q2, q3⟩ := h
    exact ⟨(K _ _ (by omega)).trans q0, (K _ _ (by omega)).trans q1, (K _ _ (by omega)).trans q2, (K _ _ (by omega)).trans q3⟩)
  obtain ⟨op0, op1, op2, _⟩ := VP.out
  obtain ⟨oq0, oq1, oq2, _⟩ := VQ.out
  have s0 : kp ≤ 1000 := by omega
  have s1 : k ≤ 1000 := by omega
  have s2 : kq ≤ 900 := by omega
  have s3 : tQ q ≠ 0 := by have := HQ.out; omega
  go_region_held3 (fun w' => w'.cell? ⟨b6, 0, none⟩ = some (.bool gp) ∧ w'.cell? ⟨b6, 1, none⟩ = some (.slice xp kp yp) ∧ w'.cell? ⟨b7, 0, none⟩ = some (.bool gq) ∧ w'.cell? ⟨b7, 1, none⟩ = some (.slice xq kq yq))
    (((repeat (refine MS.out _ _ _ ?_)); (first | (with_reducible exact M_.out _ D_.out) | (with_reducible exact M_.out _ T0.out) | (with_reducible exact M_.out _ T1.out))))
    (first
    | (go_at_call 45; ((with_reducible refine (double_gf (.agg #[.bool gp, .slice xp kp yp]) kp k (tP p q) _ (VP.out.up D_.out) s0 s1).mono ?_); rintro e wA ⟨gA, xA, yA, kA, rfl, hR, hkA, hB⟩; have RA := Lib.hid hR; have sA : kA ≤ 900 := (by omega); have T0 := Lib.hid (Below.up D_.out hB); clear hB hR))
    | (go_at_call 37; ((with_reducible refine (near_gi _ (.agg #[.bool gq, .slice xq kq yq]) kA kq (tP p q * 2 ^ k) (tQ q) _ RA.out (VQ.out.up T0.out) sA s2 s3).mono ?_); rintro e wB ⟨gB, xB, yB, kB, Q, R, rfl, hR, hDV, hkB, hB⟩; have RB := Lib.hid hR; have DV := Lib.hid hDV; have T1 := Lib.hid (Below.up T0.out hB); clear hB hR hDV; have zb := X1.out.below T1.out; obtain ⟨zu, zv, zc, zd, ze, zf⟩ := zb.open; have ZB := Lib.hid zb; clear zb)))
  go_wp2_with fail
  have f1 := IV.put ZB.out RB.out
  have f2 := Below.up HW.out T1.out
  exact bodyPost_ret (v := .tuple #[.agg #[.bool gB, .slice xB kB yB], .int .i64 0]) (by simp [results, Tryd.results18, go_sem, f1.1, f1.2.1, zc, zd]) rfl ⟨gB, xB, yB, kB, Q, R, rfl, f1.2.2.2, DV.out, by omega, (f2.setCell (p := ⟨w.heap.size + 1, 0, none⟩) (by show _ ≤ w.heap.size + 1; omega) _).setCell (p := ⟨w.heap.size + 1, 1, none⟩) (by show _ ≤ w.heap.size + 1; omega) _⟩

set_option maxHeartbeats 6400000 in
theorem FromFixed_any (g : Bool) (a : Option Addr) (n c k : Nat) (p : Int) (w : World) (hT : Tab w) (hu : AI w (.agg #[.bool g, .slice a n c]) n p) (hn : n ≤ 100) (hk : k ≤ 256) :
    Calls Tryd.prog 19 #[.agg #[.bool g, .slice a n c], .int .i64 k] w fun e w' => ∃ g2 a2 c2 g3 a3 c3 i j P Q, e = .returned (.tuple #[.agg #[.bool g2, .slice a2 i c2, .bool g3, .slice a3 j c3], .int .i64 0]) ∧ AR w' (.agg #[.bool g2, .slice a2 i c2, .bool g3, .slice a3 j c3]) i j P Q ∧ (0 < Q ∧ P * 2 ^ k = p * Q) ∧ i ≤ n ∧ j ≤ 11 ∧ Below w.heap.size w w' := by
  have V0 := Lib.hid (show IV ((w.alloc (.cells #[.bool g, .slice a n c] 24)).alloc (.cells #[.bool false, .slice none 0 0, .bool false, .slice none 0 0] 26)) w.heap.size g a n c p from (IV.new hu).below (Below.alloc' (Below.refl _ _) _))
  have V1 := Lib.hid (Box4.new' (w := w.alloc (.cells #[.bool g, .slice a n c] 24)) (b := w.heap.size + 1) (by simp) (g := false) (a := none) (n := 0) (c := 0) (g' := false) (a' := none) (n' := 0) (c' := 0))
  have HW := Lib.hid (show Below w.heap.size w ((w.alloc (.cells #[.bool g, .slice a n c] 24)).alloc (.cells #[.bool false, .slice none 0 0, .bool false, .slice none 0 0] 26)) from Below.alloc2 _ _ _)
  have T0 := Lib.hid (hT.up HW.out)
  clear hu hT
  go_enter Tryd.func19, Tryd.ntmps19
  go_wp2_with fail
  refine (areBits_yes k _ hk).mono ?_
  rintro e w' ⟨rfl, rfl⟩
  go_wp2_with fail
  refine wp_at (fun W => Below w.heap.size w W ∧ IV W w.heap.size g a n c p ∧ Box4 W (w.heap.size + 1) ∧ Tab W) ⟨HW.out, V0.out, V1.out, T0.out⟩ ?_
  clear HW V0 V1 T0
  rintro w2 ⟨k0, k1, k2, k3⟩
  have HW := Lib.hid k0
  have VP := Lib.hid k1
  have X1 := Lib.hid k2
  have T0 := Lib.hid k3
  clear k0 k1 k2 k3
  have B_ := Lib.hid (Below.refl w2.heap.size w2)
  have D_ := Lib.hid (Below.drew B_.out)
  have M_ := Lib.hid (show ∀ w', Below w2.heap.size w2 w' → w'.cell? ⟨w.heap.size, 0, none⟩ = some (.bool g) ∧ w'.cell? ⟨w.heap.size, 1, none⟩ = some (.slice a n c) from fun w' h => ⟨(VP.out.below h).1, (VP.out.below h).2.1⟩)
  have MS := Lib.hid (show ∀ (w' : World) (i : Nat) (u : Value), (w'.cell? ⟨w.heap.size, 0, none⟩ = some (.bool g) ∧ w'.cell? ⟨w.heap.size, 1, none⟩ = some (.slice a n c)) → (fun w' => w'.cell? ⟨w.heap.size, 0, none⟩ = some (.bool g) ∧ w'.cell? ⟨w.heap.size, 1, none⟩ = some (.slice a n c)) (w'.setCell ⟨w.heap.size + 1, i, none⟩ u) from fun w' i u h => by
    have K : ∀ b o, b < w.heap.size + 1 → (w'.setCell ⟨w.heap.size + 1, i, none⟩ u).cell? ⟨b, o, none⟩ = w'.cell? ⟨b, o, none⟩ := fun b o hb => World.cell?_of_block (Below.heap_setCell _ _ _ _ (by show b ≠ w.heap.size + 1; omega))
    obtain ⟨q0, q1⟩ := h
    exact ⟨(K _ _ (by omega)).trans q0, (K _ _ (by omega)).trans q1⟩)
  obtain ⟨op0, op1, op2, _⟩ := VP.out
  have s0 : n ≤ 1000 := by omega
  have s1 : k ≤ 1000 := by omega
  have s2 : (-9223372036854775808 : Int) ≤ 1 ∧ (1 : Int) ≤ 9223372036854775807 := by omega
  have s3 : (0 : Int) < 1 * 2 ^ k := by have : (0 : Int) < 2 ^ k := Int.pow_pos (by decide); omega
  go_region_held3 (fun w' => w'.cell? ⟨w.heap.size, 0, none⟩ = some (.bool g) ∧ w'.cell? ⟨w.heap.size, 1, none⟩ = some (.slice a n c))
    (((repeat (refine MS.out _ _ _ ?_)); (first | (with_reducible exact M_.out _ D_.out) | (with_reducible exact M_.out _ T1.out) | (with_reducible exact M_.out _ T2.out) | (with_reducible exact M_.out _ T3.out))))
    (first
    | (go_at_call 20; ((with_reducible refine (of_gf 1 s2 _).mono ?_); rintro e wA ⟨gA, xA, yA, kA, rfl, hR, hkA, hB⟩; have RA := Lib.hid hR; have sA : kA ≤ 1000 := (by omega); have T1 := Lib.hid (Below.up D_.out hB); clear hB hR))
    | (go_at_call 45; ((with_reducible refine (double_gf _ kA k 1 _ RA.out sA s1).mono ?_); rintro e wB ⟨gB, xB, yB, kB, rfl, hR, hkB, hB⟩; have RB := Lib.hid hR; have sB : kB ≤ 1000 := (by omega); have T2 := Lib.hid (Below.up T1.out hB); clear hB hR))
    | (go_at_call 42; ((with_reducible refine (low_gi (.agg #[.bool g, .slice a n c]) _ n kB p (1 * 2 ^ k) _ (T0.out.up T2.out) (VP.out.up T2.out) RB.out s0 sB s3).mono ?_); rintro e wC ⟨gC, xC, yC, gD, xD, yD, kC, kD, PP, QQ, rfl, hR, hF, hkC, hkD, hB⟩; have RC := Lib.hid hR.ar.two; have FC := Lib.hid hF; have T3 := Lib.hid (Below.up T2.out hB); clear hB hR hF; have zb := X1.out.below T3.out; obtain ⟨zu0, zu1, zu2, zu3, zc0, zc1, zc2, zc3, zf0, zf1, zf2, zf3⟩ := zb.open; have ZB := Lib.hid zb; clear zb)))
  go_wp2_with fail
  have f1 := RV.put ZB.out RC.out.1 RC.out.2
  have f2 := Below.up HW.out T3.out
  exact bodyPost_ret (v := .tuple #[.agg #[.bool gC, .slice xC kC yC, .bool gD, .slice xD kD yD], .int .i64 0]) (by simp [results, Tryd.results19, go_sem, f1.1, f1.2.1, f1.2.2.1, f1.2.2.2.1, zc0, zc1, zc2, zc3]) rfl ⟨gC, xC, yC, gD, xD, yD, kC, kD, PP, QQ, rfl, f1.2.2.2.2.2, ⟨FC.out.1, by have := FC.out.2; rw [Int.one_mul] at this; exact this⟩, by omega, by omega, (((f2.setCell (p := ⟨w.heap.size + 1, 0, none⟩) (by show _ ≤ w.heap.size + 1; omega) _).setCell (p := ⟨w.heap.size + 1, 1, none⟩) (by show _ ≤ w.heap.size + 1; omega) _).setCell (p := ⟨w.heap.size + 1, 2, none⟩) (by show _ ≤ w.heap.size + 1; omega) _).setCell (p := ⟨w.heap.size + 1, 3, none⟩) (by show _ ≤ w.heap.size + 1; omega) _⟩
end Go.Proofs.YtpkjpepnjlcgoaaDoor
end

section
set_option linter.unusedVariables false
set_option linter.unusedSimpArgs false
set_option maxRecDepth 100000
namespace Go.Proofs.YtpkjpepnjlcgoaaDoor
open Go.RowKit

/-- One step from above towards the root. -/
def nst (N X : Int) : Int := (X + N / X) / 2
theorem nst_pos {N X : Int} (hX : 0 < X) (hN : 0 < N) (h : N < (X + 1) * (X + 1)) : 0 < nst N X ∧ N < (nst N X + 1) * (nst N X + 1) := by
  have e1 := Int.mul_ediv_add_emod N X
  have r0 := Int.emod_nonneg N (show X ≠ 0 by omega)
  have r1 := Int.emod_lt_of_pos N hX
  have hq : 0 ≤ N / X := Int.ediv_nonneg (by omega) (by omega)
  have key : N < (nst N X + 1) * (nst N X + 1) := by
    unfold nst
    generalize N / X = q at *
    generalize N % X = r at *
    have hy : (X + q) / 2 * 2 + 1 ≥ X + q := by omega
    generalize (X + q) / 2 = y at *
    have hy0 : 0 ≤ y := by omega
    have s1 : (X + q + 1) * (X + q + 1) ≤ (2 * (y + 1)) * (2 * (y + 1)) := Int.mul_le_mul (by omega) (by omega) (by omega) (by omega)
    have s2 : (2 * (y + 1)) * (2 * (y + 1)) = 4 * ((y + 1) * (y + 1)) := by grind
    have s3 : (X + q + 1) * (X + q + 1) = 4 * (X * q + X) + (X - (q + 1)) * (X - (q + 1)) := by grind
    have s4 : 0 ≤ (X - (q + 1)) * (X - (q + 1)) := by
      rcases Int.lt_or_le (X - (q + 1)) 0 with g | g
      · have := Int.mul_pos_of_neg_of_neg g g
        omega
      · exact Int.mul_nonneg g g
    omega
  refine ⟨?_, key⟩
  have h0 : 0 ≤ nst N X := by unfold nst; omega
  rcases Int.lt_or_eq_of_le h0 with g | g
  · exact g
  · rw [← g] at key
    omega
theorem nst_stop {N X : Int} (hX : 0 < X) (hN : 0 < N) (h : ¬ nst N X < X) : X * X ≤ N := by
  have e1 := Int.mul_ediv_add_emod N X
  have r0 := Int.emod_nonneg N (show X ≠ 0 by omega)
  unfold nst at h
  have hq : X ≤ N / X := by omega
  have := Int.mul_le_mul_of_nonneg_left hq (Int.le_of_lt hX)
  omega

set_option maxHeartbeats 1600000 in
theorem step_nr (pb nn cn k : Nat) (an : Option Addr) (N X : Int) (u : Value) (w : World) (hc : w.cell? ⟨pb, 0, none⟩ = some (.slice an nn cn)) (hN : Nr w (.slice an nn cn) nn N) (hX : Nr w u k X) (hX0 : 0 < X) (hnn : nn ≤ 1000) (hk : k ≤ 1000) :
    Calls Tryd.prog 96 #[u, .pointer (some ⟨pb, 0, none⟩)] w fun e w' => ∃ v j, e = .returned v ∧ Nt w' w.heap.size v j (nst N X) ∧ Below w.heap.size w w' := by
  have HX := Lib.hid hX
  have HN := Lib.hid hN
  obtain ⟨au, cu, xu, rfl, _⟩ := hX
  clear hN
  go_enter Tryd.func96, Tryd.ntmps96
  go_wp2_with fail
  refine (divide_any 1000 (by omega) _ _ _ nn k N X HN.out HX.out hX0 hnn hk).mono ?_
  rintro e w1 ⟨r, s, kq, kr, rfl, hq, _, hkq, _, hB⟩
  obtain ⟨aq, cq, rfl⟩ := hq.form
  have HQ := Lib.hid hq
  have B1 := Lib.hid hB
  clear hq hB
  go_wp2_with fail
  refine (sum_nr (HX.out.below B1.out) HQ.out.nr (by omega) (by omega)).mono ?_
  rintro e w2 ⟨r, ks, rfl, hs, hks, hB⟩
  obtain ⟨as', cs, rfl⟩ := hs.form
  have HS := Lib.hid hs
  have B2 := Lib.hid (Below.up B1.out hB)
  clear hs hB
  go_wp2_with fail
  refine (shiftRight_nr 1 HS.out.nr (by omega) (by omega)).mono ?_
  rintro e w3 ⟨r, kt, rfl, ht, hkt, hB⟩
  obtain ⟨at', ct, rfl⟩ := ht.form
  have HT := Lib.hid ht
  have B3 := Lib.hid (Below.up B2.out hB)
  have sz := B2.out.size
  clear ht hB
  go_wp2_with fail
  go_ret
  exact ⟨_, kt, rfl, HT.out.mono sz, B3.out⟩
theorem drewN_below (w : World) (j : Nat) : Below w.heap.size w (w.drewN j) := ⟨rfl, rfl, rfl, Nat.le_refl _, fun _ _ => rfl⟩
theorem less_nr (u v : Value) (n m : Nat) (p q : Int) (w : World) (hu : Nr w u n p) (hv : Nr w v m q) (hn : n ≤ 1000) (hm : m ≤ 1000) :
    Calls Tryd.prog 98 #[u, v] w fun e w' => e = .returned (.bool (decide (p < q))) ∧ Below w.heap.size w w' := by
  have HU := Lib.hid hu
  have HV := Lib.hid hv
  obtain ⟨a, c, x, rfl, _⟩ := hu
  obtain ⟨a2, c2, x2, rfl, _⟩ := hv
  go_enter Tryd.func98, Tryd.ntmps98
  go_wp2_with fail
  refine (order_nr HU.out HV.out (by omega) (by omega)).mono ?_
  rintro e w1 ⟨rfl, j, rfl⟩
  have d1 : decide (ord p q < (0 : Int)) = decide (p < q) := by
    by_cases h : p < q
    · rw [ord_lt h, decide_eq_true h]; rfl
    · rw [decide_eq_false h]
      unfold ord
      rw [if_neg h]
      split <;> rfl
  have D1 := Lib.hid d1
  clear d1
  go_wp2_with fail
  go_ret
  refine ⟨?_, drewN_below _ j⟩
  show Ending.returned (.bool (decide (ord p q < 0))) = _
  rw [D1.out]

set_option maxHeartbeats 3200000 in
theorem descend_any (b0 pb nn cn k K : Nat) (an : Option Addr) (N X : Int) (u : Value) (w : World) (hc : w.cell? ⟨pb, 0, none⟩ = some (.slice an nn cn)) (hpb : pb < w.heap.size) (hN : Nr w (.slice an nn cn) nn N) (hb : b0 ≤ w.heap.size) (hX : Nt w b0 u k X) (hX0 : 0 < X) (hN0 : 0 < N) (hNX : N < (X + 1) * (X + 1)) (hnn : nn ≤ 1000) (hXK : X < P K) (hK : K ≤ 1000) :
    Calls Tryd.prog 99 #[u, .func (.func 96) #[] #[.pointer (some ⟨pb, 0, none⟩)], .func (.func 98) #[] #[]] w fun e w' => ∃ v j R, e = .returned v ∧ Nt w' b0 v j R ∧ 0 < R ∧ R < P K ∧ R * R ≤ N ∧ N < (R + 1) * (R + 1) ∧ Below w.heap.size w w' := by
  obtain ⟨au, cu, rfl⟩ := hX.form
  have HX := Lib.hid hX
  have HN := Lib.hid hN
  have HC := Lib.hid hc
  clear hX hN hc
  go_enter Tryd.func99, Tryd.ntmps99
  go_wp2_with fail
  go_loopg [7] X.toNat (fun g x wr => ∃ (a : Option Addr) (j c : Nat) (Y : Int), x = .slice a j c ∧ g = Y.toNat ∧ 0 < Y ∧ Y < P K ∧ Hid (Nt wr b0 (.slice a j c) j Y ∧ Below w.heap.size w wr ∧ N < (Y + 1) * (Y + 1)))
  case atStart => exact ⟨au, k, cu, X, rfl, rfl, hX0, hXK, Lib.hid ⟨HX.out, Below.refl _ _, hNX⟩⟩
  case round =>
    obtain ⟨a, j, c, Y, rfl, hg, hY0, hYK, hH⟩ := hrel
    have HY := Lib.hid hH.out.1
    have BY := Lib.hid hH.out.2.1
    have SY := Lib.hid hH.out.2.2
    clear hH HX hNX
    have hj := HY.out.nr.len hYK
    have cc := (BY.out.cell (p := ⟨pb, 0, none⟩) hpb).trans HC.out
    go_wp2_with fail
    refine (step_nr pb nn cn j an N Y _ _ cc (HN.out.below BY.out) HY.out.nr hY0 hnn (by omega)).mono ?_
    rintro e w1 ⟨v, j2, rfl, hv, hB⟩
    obtain ⟨a2, c2, rfl⟩ := hv.form
    have hp := nst_pos hY0 hN0 SY.out
    have sz := BY.out.size
    have HV := Lib.hid (hv.mono (show b0 ≤ wr.heap.size by omega))
    have B1 := Lib.hid (Below.up BY.out hB)
    have HY1 := Lib.hid (HY.out.below hB)
    have hvl := hv.nr.lt
    clear hv hB cc
    by_cases hlt : nst N Y < Y
    · have hj2 := HV.out.nr.len (show nst N Y < P K by omega)
      have SN := Lib.hid hp.2
      have hp0 := hp.1
      clear hp hvl
      generalize nst N Y = YY at *
      have dl : decide (YY < Y) = true := decide_eq_true hlt
      go_wp2_with fail
      refine (less_nr _ _ j2 j YY Y _ HV.out.nr HY1.out.nr (by omega) (by omega)).mono ?_
      rintro e w2 ⟨rfl, hB⟩
      have HV2 := Lib.hid (HV.out.below hB)
      have B2 := Lib.hid (Below.up B1.out hB)
      clear hB HV HY1 B1
      go_wp2_with fail
      go_roundg YY.toNat
      case measure => omega
      case rel => exact ⟨a2, j2, c2, YY, rfl, rfl, hp0, by omega, Lib.hid ⟨HV2.out, B2.out, SN.out⟩⟩
    · have ST := Lib.hid (nst_stop hY0 hN0 hlt)
      have hj2 : j2 ≤ 1000 := by
        have q0 : N / Y ≤ N := Int.ediv_le_self _ (by omega)
        have q1 : N < P nn := HN.out.lt
        have q2 := P_mono (Nat.le_max_left nn K)
        have q3 := P_mono (Nat.le_max_right nn K)
        have q4 : nst N Y < P (max nn K) := by
          unfold nst
          generalize N / Y = q at *
          omega
        have := HV.out.nr.len q4
        omega
      generalize nst N Y = YY at *
      have dl : decide (YY < Y) = false := decide_eq_false hlt
      go_wp2_with fail
      refine (less_nr _ _ j2 j YY Y _ HV.out.nr HY1.out.nr (by omega) (by omega)).mono ?_
      rintro e w2 ⟨rfl, hB⟩
      have B2 := Lib.hid (Below.up B1.out hB)
      have HY2 := Lib.hid (HY1.out.below hB)
      clear hB HV HY1 B1
      go_wp2_with fail
      go_ret
      exact ⟨_, j, Y, rfl, HY2.out, hY0, hYK, ST.out, SY.out, B2.out⟩

/-- The number of bits. -/
theorem bitLength_any (a : Option Addr) (n c : Nat) (N : Int) (w : World) (hN : Nr w (.slice a n c) n N) (h0 : 0 < N) (hn : n ≤ 1000) :
    Calls Tryd.prog 100 #[.slice a n c] w fun e w' => ∃ l : Nat, e = .returned (.int .i64 l) ∧ N < 2 ^ l ∧ l ≤ 32 * n ∧ w' = w := by
  obtain ⟨a', c', x, e, hc, hd, hs, ht, hv⟩ := hN
  simp only [Value.slice.injEq] at e
  obtain ⟨rfl, _, rfl⟩ := e
  have hn0 : 0 < n := by
    rcases Nat.eq_zero_or_pos n with g | g
    · subst g; rw [V_zero] at hv; omega
    · exact g
  obtain ⟨b, off, rfl, hr⟩ := hs hn0
  obtain ⟨m, rfl⟩ : ∃ m, n = m + 1 := ⟨n - 1, by omega⟩
  have hcell := hr m (by omega)
  have hx := hd m
  have hxm : x m ≠ 0 := ht (by omega)
  have hvs := V_succ x m
  have hvl := V_lt hd m
  have hp := P_pos m
  have dz : (((m + 1 : Nat) : Int) == 0) = false := by simp; omega
  have w1 : IntKind.i64.wrap (((m + 1 : Nat) : Int) - 1) = (m : Int) := by rw [IntWalk.i64_in _ (by omega)]; omega
  go_enter Tryd.func100, Tryd.ntmps100
  go_wp2_with fail
  refine (len32_any (x m) _ hx.1 hx.2).mono ?_
  rintro e w2 ⟨rfl, rfl⟩
  obtain ⟨k, hk, k1, k2, k3⟩ := bitLen_pow 64 (x m).toNat (by omega) (by omega)
  have hk32 : k < 32 := by
    by_cases h : k < 32
    · exact h
    · exfalso
      have := Nat.pow_le_pow_right (show 0 < 2 by decide) (show 32 ≤ k by omega)
      have e32 : 2 ^ 32 = 4294967296 := by decide
      omega
  have hbl : Lib.bitLen (x m).toNat = k + 1 := hk
  have w2' : IntKind.i64.wrap ((32 : Int) * (m : Int) + ((k + 1 : Nat) : Int)) = ((32 * m + (k + 1) : Nat) : Int) := by rw [IntWalk.i64_in _ (by omega)]; omega
  have fin : N < 2 ^ (32 * m + (k + 1)) := by
    rw [Int.pow_add, ← P_pow, ← hv, hvs]
    have e1 : (x m + 1) * P m ≤ 2 ^ (k + 1) * P m := Int.mul_le_mul_of_nonneg_right (by
      have : ((x m).toNat : Int) < ((2 ^ (k + 1) : Nat) : Int) := by exact_mod_cast k2
      rw [Int.natCast_pow] at this
      have e3 : (((2 : Nat) : Int)) ^ (k + 1) = (2 : Int) ^ (k + 1) := rfl
      omega) (Int.le_of_lt hp)
    have e2 : (x m + 1) * P m = P m + x m * P m := by rw [Int.add_mul, Int.one_mul, Int.add_comm]
    rw [Int.mul_comm (P m)]
    omega
  have FN := Lib.hid fin
  clear fin hv hvs hvl hp ht hs hr hcell k1 k2 hk
  rw [hbl]
  go_wp2_with fail
  go_ret
  exact ⟨32 * m + (k + 1), by simp; try omega, FN.out, by omega, rfl⟩
end Go.Proofs.YtpkjpepnjlcgoaaDoor
end

section
set_option linter.unusedVariables false
set_option linter.unusedSimpArgs false
set_option maxRecDepth 100000
namespace Go.Proofs.YtpkjpepnjlcgoaaDoor
open Go.RowKit

/-- R is the root of N, rounded down. -/
def RtOf (N R : Int) : Prop := 0 ≤ R ∧ R * R ≤ N ∧ N < (R + 1) * (R + 1)
theorem two_mono {a b : Nat} (h : a ≤ b) : (2 : Int) ^ a ≤ 2 ^ b := by
  obtain ⟨k, rfl⟩ := Nat.exists_eq_add_of_le h
  rw [Int.pow_add]
  have h1 : (0 : Int) < 2 ^ a := Int.pow_pos (by decide)
  have h2 : (0 : Int) < 2 ^ k := Int.pow_pos (by decide)
  have := Int.mul_le_mul_of_nonneg_left (show (1 : Int) ≤ 2 ^ k by omega) (Int.le_of_lt h1)
  omega
theorem root_start {N : Int} {l ee : Nat} (h : N < 2 ^ l) (he : (l + 1) / 2 = ee) : 0 < 2 ^ ee * (1 : Int) ∧ N < (2 ^ ee * 1 + 1) * (2 ^ ee * 1 + 1) := by
  have h1 := two_mono (show l ≤ ee + ee by omega)
  rw [Int.pow_add] at h1
  have h0 : (0 : Int) < 2 ^ ee := Int.pow_pos (by decide)
  generalize (2 : Int) ^ ee = X at *
  refine ⟨by omega, ?_⟩
  have e : (X * 1 + 1) * (X * 1 + 1) = X * X + 2 * X + 1 := by grind
  omega
theorem root_len {l ee n : Nat} (h : l ≤ 32 * n) (he : (l + 1) / 2 = ee) : 2 ^ ee * (1 : Int) < P (n + 1) := by
  rw [P_pow]
  have h1 := two_mono (show ee + 1 ≤ 32 * (n + 1) by omega)
  rw [Int.pow_add] at h1
  have h0 : (0 : Int) < 2 ^ ee := Int.pow_pos (by decide)
  omega
theorem root_half {R N : Int} {n : Nat} (h : R * R ≤ N) (hN : N < P n) : R < P (n / 2 + 1) := by
  have h1 := P_mono (show n ≤ (n / 2 + 1) + (n / 2 + 1) by omega)
  rw [P_add] at h1
  have hp := P_pos (n / 2 + 1)
  generalize P (n / 2 + 1) = H at *
  rcases Int.lt_or_le R H with g | g
  · exact g
  · exfalso
    have := Int.mul_le_mul g g (Int.le_of_lt hp) (by omega)
    omega
set_option maxHeartbeats 3200000 in
theorem rootOf_any (a : Option Addr) (n c : Nat) (N : Int) (w : World) (hN : Nr w (.slice a n c) n N) (hn : n ≤ 900) :
    Calls Tryd.prog 75 #[.slice a n c] w fun e w' => ∃ v j R, e = .returned v ∧ Nt w' w.heap.size v j R ∧ RtOf N R ∧ j ≤ n / 2 + 1 ∧ Below w.heap.size w w' := by
  by_cases h0 : N = 0
  · have hn0 := hN.zero.2 h0
    subst h0
    subst hn0
    go_enter Tryd.func75, Tryd.ntmps75
    go_wp2_with fail
    go_ret
    exact ⟨.slice none 0 0, 0, 0, rfl, ⟨fun _ => 0, ⟨none, 0, rfl, Nat.le_refl _, Dg_zero, fun h => absurd h (by omega)⟩, rfl, fun h => absurd h (by omega)⟩, ⟨by omega, by omega, by omega⟩, by omega, Below.alloc (Below.refl _ _) (Nat.le_refl _) _⟩
  · have hpos : 0 < N := by have := hN.nonneg; omega
    have dz : ((n : Int) == 0) = false := by
      have := hN.zero
      have hne : n ≠ 0 := fun g => h0 (this.1 g)
      simp; omega
    have HN := Lib.hid hN
    have HK := Lib.hid (Below.alloc (Below.refl w.heap.size w) (Nat.le_refl _) (.cells #[.slice a n c] 60))
    have HC := Lib.hid (show (w.alloc (.cells #[.slice a n c] 60)).cell? ⟨w.heap.size, 0, none⟩ = some (.slice a n c) from by unfold World.cell?; rw [World.alloc_heap_new]; rfl)
    have hsz : (w.alloc (.cells #[.slice a n c] 60)).heap.size = w.heap.size + 1 := by simp
    have HNl := Lib.hid hN.lt
    clear hN
    go_enter Tryd.func75, Tryd.ntmps75
    have c0 := HC.out
    go_wp2_with fail
    clear c0
    generalize (w.alloc (.cells #[.slice a n c] 60)) = w0 at *
    have B_ := Lib.hid (Below.refl w0.heap.size w0)
    have D_ := Lib.hid (Below.drew B_.out)
    have c0 := HC.out
    have M_ := Lib.hid (show ∀ w', Below w0.heap.size w0 w' → w'.cell? ⟨w.heap.size, 0, none⟩ = some (.slice a n c) from fun w' h => (h.cell (p := ⟨w.heap.size, 0, none⟩) (by show w.heap.size < _; omega)).trans HC.out)
    have s0 : (0 : Int) ≤ 1 ∧ (1 : Int) ≤ 18446744073709551615 := by omega
    have s1 : n ≤ 1000 := by omega
    have szD := D_.out.size
    go_region_held3 (fun w' => w'.cell? ⟨w.heap.size, 0, none⟩ = some (.slice a n c))
      (first | (with_reducible exact M_.out _ D_.out) | (with_reducible exact M_.out _ T0.out) | (with_reducible exact M_.out _ T1.out) | (with_reducible exact M_.out _ T2.out) | (with_reducible exact M_.out _ T3.out))
      (first
      | (go_at_call 46; ((with_reducible refine (ofWord_any 1 s0 _).mono ?_); rintro e w1 ⟨v1, k1, rfl, hR, hk1, hB⟩; obtain ⟨x1, y1, rfl⟩ := hR.form; have R1 := Lib.hid hR.nr; have T0 := Lib.hid (Below.up D_.out hB); clear hB hR; have sz1 : k1 ≤ 1000000 := (by omega)))
      | (go_at_call 100; ((with_reducible refine (bitLength_any a n c N _ (HN.out.below (HK.out.trans (T0.out.mono (Nat.le_of_lt_succ (by omega))))) hpos s1).mono ?_); rintro e w2 ⟨l, rfl, hl, hl2, rfl⟩; have T1 := T0; obtain ⟨ee, hee⟩ : ∃ ee : Nat, (l + 1) / 2 = ee := ⟨_, rfl⟩; have wl : IntKind.i64.wrap ((l : Int) + 1) = (l : Int) + 1 := (by rw [IntWalk.i64_in _ (by omega)]); have wq : Int.tdiv ((l : Int) + 1) 2 = (ee : Int) := (by rw [Int.tdiv_eq_ediv_of_nonneg (by omega)]; omega); have wq2 : ((l : Int) + 1) / 2 = (ee : Int) := (by omega); have wq3 : IntKind.i64.wrap (ee : Int) = (ee : Int) := (by rw [IntWalk.i64_in _ (by omega)]); have HL := Lib.hid hl; clear hl; have s2 : ee ≤ 1000000 := (by omega)))
      | (go_at_call 73; ((with_reducible refine (shiftLeft_nr ee R1.out sz1 s2).mono ?_); rintro e w3 ⟨v3, k3, rfl, hR, hk3, hB⟩; obtain ⟨x3, y3, rfl⟩ := hR.form; have T2 := Lib.hid (Below.up T1.out hB); have sz2 := T2.out.size; have szA := T1.out.size; have R3 := Lib.hid (hR.mono (show w.heap.size ≤ _ by omega)); have r5 := Lib.hid (root_start HL.out hee); have r6 := Lib.hid (root_len hl2 hee); clear hB hR))
      | (go_at_call 99; ((with_reducible refine (descend_any w.heap.size w.heap.size n c k3 (n + 1) a N (2 ^ ee * 1) _ _ (M_.out _ T2.out) (by omega) (HN.out.below (HK.out.trans (T2.out.mono (Nat.le_of_lt_succ (by omega))))) (by omega) R3.out r5.out.1 hpos r5.out.2 s1 r6.out (by omega)).mono ?_); rintro e w4 ⟨v4, k4, RR, rfl, hR, hR0, hRK, hR1, hR2, hB⟩; obtain ⟨x4, y4, rfl⟩ := hR.form; have R4 := Lib.hid hR; have RT := Lib.hid (show RtOf N RR from ⟨by omega, hR1, hR2⟩); have hl4 := hR.nr.len (root_half hR1 HNl.out); have T3 := Lib.hid (Below.up T2.out hB); clear hB hR hR0 hRK hR1 hR2)))
    go_wp2_with fail
    go_ret
    exact ⟨_, k4, RR, rfl, R4.out, RT.out, hl4, HK.out.trans (T3.out.mono (by omega))⟩

theorem sg_zero' (b : Bool) : sg b 0 = 0 := by cases b <;> rfl
set_option maxHeartbeats 3200000 in
theorem Root_any (g : Bool) (a : Option Addr) (n c : Nat) (p : Int) (w : World) (hu : AI w (.agg #[.bool g, .slice a n c]) n p) (hn : n ≤ 900) (hp : 0 ≤ p) :
    Calls Tryd.prog 51 #[.agg #[.bool g, .slice a n c]] w fun e w' => ∃ g2 a2 c2 j R, e = .returned (.tuple #[.agg #[.bool g2, .slice a2 j c2], .int .i64 0]) ∧ AI w' (.agg #[.bool g2, .slice a2 j c2]) j R ∧ RtOf p R ∧ j ≤ n / 2 + 1 ∧ Below w.heap.size w w' := by
  have V1 := Lib.hid (show Box2 ((w.alloc (.cells #[.bool g, .slice a n c] 24)).alloc (.cells #[.bool false, .slice none 0 0] 24)) (w.heap.size + 1) from Box2.new1 w (.cells #[.bool g, .slice a n c] 24) false none 0 0)
  have HW := Lib.hid (show Below w.heap.size w ((w.alloc (.cells #[.bool g, .slice a n c] 24)).alloc (.cells #[.bool false, .slice none 0 0] 24)) from Below.alloc2 _ _ _)
  obtain ⟨k, bb, hk, hbn, hb, hN, hS⟩ := split_sg hu (by omega)
  have hbf : bb = false := by cases bb with | false => rfl | true => have := hbn rfl; omega
  subst hbf
  rw [sg_false] at hb
  rw [hb] at hN
  have S1 := Lib.hid hS
  have N1 := Lib.hid hN
  clear hS hN hu hbn hb
  go_enter Tryd.func51, Tryd.ntmps51
  go_wp2_with fail
  refine (S1.out _ HW.out).mono ?_
  rintro e w1 ⟨rfl, rfl⟩
  go_wp2_with fail
  refine calls_at (fun W => Below w.heap.size w W ∧ Box2 W (w.heap.size + 1) ∧ Nr W (.slice a k c) k p) ⟨Below.up HW.out (Below.alloc' (Below.refl _ _) _), V1.out.alloc _, N1.out.below (Below.up HW.out (Below.alloc' (Below.refl _ _) _))⟩ ?_
  clear HW V1 N1 S1
  rintro w2 ⟨k0, k1, k2⟩
  have HW := Lib.hid k0
  have V1 := Lib.hid k1
  have N1 := Lib.hid k2
  clear k0 k1 k2
  refine (rootOf_any a k c p _ N1.out (by omega)).mono ?_
  rintro e w3 ⟨v, j, R, rfl, hR, hRt, hj, hB⟩
  obtain ⟨x, y, rfl⟩ := hR.form
  have NR := Lib.hid hR
  have RT := Lib.hid hRt
  have HW3 := Lib.hid (Below.up HW.out hB)
  have V3 := Lib.hid (V1.out.below hB)
  clear hR hRt hB HW V1 N1
  go_wp2_with fail
  refine (signed_nr false NR.out (by omega)).mono ?_
  rintro e w4 ⟨r, rfl, hR, hB⟩
  obtain ⟨g4, x4, y4, rfl⟩ := hR.form
  have RA := Lib.hid hR.ai
  have HW4 := Lib.hid (Below.up HW3.out hB)
  have V4 := Lib.hid (V3.out.below hB)
  clear hR hB HW3 V3 NR
  obtain ⟨zu, zv, zc, zd, ze, zf⟩ := V4.out.open
  go_wp2_with fail
  have f1 := IV.put V4.out RA.out
  exact bodyPost_ret (v := .tuple #[.agg #[.bool g4, .slice x4 j y4], .int .i64 0]) (by simp [results, Tryd.results51, go_sem, f1.1, f1.2.1, zc, zd]) rfl ⟨g4, x4, y4, j, R, rfl, f1.2.2.2, RT.out, by omega, (HW4.out.setCell (p := ⟨w.heap.size + 1, 0, none⟩) (by show _ ≤ w.heap.size + 1; omega) _).setCell (p := ⟨w.heap.size + 1, 1, none⟩) (by show _ ≤ w.heap.size + 1; omega) _⟩
end Go.Proofs.YtpkjpepnjlcgoaaDoor
end

section
set_option linter.unusedVariables false
set_option linter.unusedSimpArgs false
set_option maxRecDepth 100000
namespace Go.Proofs.YtpkjpepnjlcgoaaDoor
open Go.RowKit

theorem double_z (u : Value) (n k : Nat) (z p : Int) (w : World) (hu : AI w u n p) (hn : n ≤ 1000) (hk : k ≤ 1000) (hz : z = (k : Int)) :
    Calls Tryd.prog 45 #[u, .int .i64 z] w (Gf w (p * 2 ^ k) (k / 32 + n + 1)) := hz ▸ double_gf u n k p w hu hn hk
theorem root_arg {X Y Q R : Int} {k : Nat} (hX : 0 ≤ X) (hY : 0 < Y) (h : DvS (X * 2 ^ k) Y Q R) : 0 ≤ Q := by
  have h2 : (0 : Int) < 2 ^ k := Int.pow_pos (by decide)
  have h3 := Int.mul_nonneg hX (Int.le_of_lt h2)
  obtain ⟨e, f, _⟩ := h
  obtain ⟨r0, r1⟩ := f hY
  rcases Int.lt_or_le Q 0 with g | g
  · have k1 := Int.mul_le_mul_of_nonneg_right (show Q ≤ -1 by omega) (Int.le_of_lt hY)
    omega
  · exact g
set_option maxHeartbeats 3200000 in
theorem RootFixed_no (g h : Bool) (a b : Option Addr) (n m c d k : Nat) (p q : Int) (w : World) (hu : AR w (.agg #[.bool g, .slice a n c, .bool h, .slice b m d]) n m p q) (hn : n ≤ 100) (hm : m ≤ 100) (hk : k ≤ 256) (hp : tP p q < 0) :
    Calls Tryd.prog 25 #[.agg #[.bool g, .slice a n c, .bool h, .slice b m d], .int .i64 k] w fun e w' => e = .returned (.tuple #[.agg #[.bool false, .slice none 0 0], .int .i64 2]) ∧ Below w.heap.size w w' := by
  have V0 := Lib.hid (show RV ((w.alloc (.cells #[.bool g, .slice a n c, .bool h, .slice b m d] 26)).alloc (.cells #[.bool false, .slice none 0 0] 24)) w.heap.size g a n c h b m d p q from (RV.new hu).below (Below.alloc' (Below.refl _ _) _))
  have V1 := Lib.hid (show Box2 ((w.alloc (.cells #[.bool g, .slice a n c, .bool h, .slice b m d] 26)).alloc (.cells #[.bool false, .slice none 0 0] 24)) (w.heap.size + 1) from Box2.new1 w (.cells #[.bool g, .slice a n c, .bool h, .slice b m d] 26) false none 0 0)
  have HW := Lib.hid (show Below w.heap.size w ((w.alloc (.cells #[.bool g, .slice a n c, .bool h, .slice b m d] 26)).alloc (.cells #[.bool false, .slice none 0 0] 24)) from Below.alloc2 _ _ _)
  have HQ := Lib.hid (tQ_pos q)
  clear hu
  go_enter Tryd.func25, Tryd.ntmps25
  go_wp2_with fail
  refine (areBits_yes k _ hk).mono ?_
  rintro e w' ⟨rfl, rfl⟩
  obtain ⟨e0, e1, e2, e3, e4, _⟩ := V0.out
  go_wp2_with fail
  refine calls_at (fun W => Below w.heap.size w W ∧ RV W w.heap.size g a n c h b m d p q ∧ Box2 W (w.heap.size + 1)) ⟨HW.out, V0.out, V1.out⟩ ?_
  clear HW V0 V1 e0 e1 e2 e3 e4
  rintro w0 ⟨k0, k1, k2⟩
  have HW := Lib.hid k0
  have V0 := Lib.hid k1
  have V1 := Lib.hid k2
  clear k0 k1 k2
  refine (Signum_any _ n m p q _ V0.out.2.2.2.2.2 (by omega) (by omega)).mono ?_
  rintro e wS ⟨rfl, hB⟩
  have HWS := Lib.hid (Below.up HW.out hB)
  have VS0 := Lib.hid (V0.out.below hB)
  have VS1 := Lib.hid (V1.out.below hB)
  clear hB HW V0 V1
  have dx : decide (ord (tP p q) 0 < 0) = true := decide_eq_true (by rw [ord_lt hp]; omega)
  obtain ⟨zu, zv, zc, zd, ze, zf⟩ := VS1.out.open
  go_wp2_with fail
  exact bodyPost_ret (v := .tuple #[.agg #[.bool false, .slice none 0 0], .int .i64 2]) (by simp [results, Tryd.results25, go_sem, zc, zd]) rfl ⟨rfl, (HWS.out.setCell (p := ⟨w.heap.size + 1, 0, none⟩) (by show _ ≤ w.heap.size + 1; omega) _).setCell (p := ⟨w.heap.size + 1, 1, none⟩) (by show _ ≤ w.heap.size + 1; omega) _⟩

set_option maxHeartbeats 6400000 in
theorem RootFixed_yes (g h : Bool) (a b : Option Addr) (n m c d k : Nat) (p q : Int) (w : World) (hu : AR w (.agg #[.bool g, .slice a n c, .bool h, .slice b m d]) n m p q) (hn : n ≤ 100) (hm : m ≤ 100) (hk : k ≤ 256) (hp : 0 ≤ tP p q) :
    Calls Tryd.prog 25 #[.agg #[.bool g, .slice a n c, .bool h, .slice b m d], .int .i64 k] w fun e w' => ∃ g2 a2 c2 j Q R Z, e = .returned (.tuple #[.agg #[.bool g2, .slice a2 j c2], .int .i64 0]) ∧ AI w' (.agg #[.bool g2, .slice a2 j c2]) j Z ∧ RtOf Q Z ∧ DvS (tP p q * 2 ^ (2 * k)) (tQ q) Q R ∧ j ≤ (n + 19) / 2 + 1 ∧ Below w.heap.size w w' := by
  have HP := Lib.hid hp
  have V0 := Lib.hid (show RV ((w.alloc (.cells #[.bool g, .slice a n c, .bool h, .slice b m d] 26)).alloc (.cells #[.bool false, .slice none 0 0] 24)) w.heap.size g a n c h b m d p q from (RV.new hu).below (Below.alloc' (Below.refl _ _) _))
  have V1 := Lib.hid (show Box2 ((w.alloc (.cells #[.bool g, .slice a n c, .bool h, .slice b m d] 26)).alloc (.cells #[.bool false, .slice none 0 0] 24)) (w.heap.size + 1) from Box2.new1 w (.cells #[.bool g, .slice a n c, .bool h, .slice b m d] 26) false none 0 0)
  have HW := Lib.hid (show Below w.heap.size w ((w.alloc (.cells #[.bool g, .slice a n c, .bool h, .slice b m d] 26)).alloc (.cells #[.bool false, .slice none 0 0] 24)) from Below.alloc2 _ _ _)
  have HQ := Lib.hid (tQ_pos q)
  clear hu
  go_enter Tryd.func25, Tryd.ntmps25
  go_wp2_with fail
  refine (areBits_yes k _ hk).mono ?_
  rintro e w' ⟨rfl, rfl⟩
  obtain ⟨e0, e1, e2, e3, e4, _⟩ := V0.out
  go_wp2_with fail
  refine calls_at (fun W => Below w.heap.size w W ∧ RV W w.heap.size g a n c h b m d p q ∧ Box2 W (w.heap.size + 1)) ⟨HW.out, V0.out, V1.out⟩ ?_
  clear HW V0 V1 e0 e1 e2 e3 e4
  rintro w0 ⟨k0, k1, k2⟩
  have HW := Lib.hid k0
  have V0 := Lib.hid k1
  have V1 := Lib.hid k2
  clear k0 k1 k2
  refine (Signum_any _ n m p q _ V0.out.2.2.2.2.2 (by omega) (by omega)).mono ?_
  rintro e wS ⟨rfl, hB⟩
  have HWS := Lib.hid (Below.up HW.out hB)
  have VS0 := Lib.hid (V0.out.below hB)
  have VS1 := Lib.hid (V1.out.below hB)
  clear hB HW V0 V1
  have dx : decide (ord (tP p q) 0 < 0) = false := decide_eq_false (by unfold ord; rw [if_neg (by omega)]; split <;> omega)
  clear hp
  obtain ⟨e0, e1, e2, e3, e4, _⟩ := VS0.out
  go_wp2_with fail
  refine (terms_gi _ n m p q _ VS0.out.2.2.2.2.2 (by omega) (by omega)).mono ?_
  rintro e w1 ⟨gp, xp, yp, gq, xq, yq, kp, kq, rfl, hP, hQ, hkp, hkq, hB⟩
  have NP := Lib.hid hP
  have NQ := Lib.hid hQ
  have HW1 := Lib.hid (Below.up HWS.out hB)
  have X1 := Lib.hid (VS1.out.below hB)
  clear hP hQ hB HWS VS0 VS1 e0 e1 e2 e3 e4
  obtain ⟨kk, hkk⟩ : ∃ kk : Nat, kk = 2 * k := ⟨_, rfl⟩
  have hkk2 : (2 : Int) * (k : Int) = (kk : Int) := by omega
  have s1 : kk ≤ 1000 := by omega
  have wk : IntKind.i64.wrap (kk : Int) = (kk : Int) := IntWalk.i64_in _ (by omega)
  have HKK := Lib.hid hkk
  clear hkk
  go_wp2_with fail
  refine wp_at (fun W => Below w.heap.size w W ∧ Box2 W (w.heap.size + 1) ∧ IV W w1.heap.size gp xp kp yp (tP p q) ∧ IV W (w1.heap.size + 1) gq xq kq yq (tQ q)) ⟨Below.up HW1.out (Below.alloc2 _ _ _), X1.out.below (Below.alloc2 _ _ _), (IV.new NP.out).below (Below.alloc' (Below.refl _ _) _), IV.new' (NQ.out.alloc _) (by simp)⟩ ?_
  have hlt := X1.out.lt
  clear HW1 X1 NP NQ
  rintro w2 ⟨k0, k1, k2, k3⟩
  have HW := Lib.hid k0
  have X1 := Lib.hid k1
  have VP := Lib.hid k2
  have VQ := Lib.hid k3
  clear k0 k1 k2 k3
  generalize hb7 : w1.heap.size + 1 = b7 at *
  generalize w1.heap.size = b6 at *
  have B_ := Lib.hid (Below.refl w2.heap.size w2)
  have D_ := Lib.hid (Below.drew B_.out)
  have M_ := Lib.hid (show ∀ w', Below w2.heap.size w2 w' → w'.cell? ⟨b6, 0, none⟩ = some (.bool gp) ∧ w'.cell? ⟨b6, 1, none⟩ = some (.slice xp kp yp) ∧ w'.cell? ⟨b7, 0, none⟩ = some (.bool gq) ∧ w'.cell? ⟨b7, 1, none⟩ = some (.slice xq kq yq) from fun w' h => ⟨(VP.out.below h).1, (VP.out.below h).2.1, (VQ.out.below h).1, (VQ.out.below h).2.1⟩)
  have MS := Lib.hid (show ∀ (w' : World) (i : Nat) (u : Value), (w'.cell? ⟨b6, 0, none⟩ = some (.bool gp) ∧ w'.cell? ⟨b6, 1, none⟩ = some (.slice xp kp yp) ∧ w'.cell? ⟨b7, 0, none⟩ = some (.bool gq) ∧ w'.cell? ⟨b7, 1, none⟩ = some (.slice xq kq yq)) → (fun w' => w'.cell? ⟨b6, 0, none⟩ = some (.bool gp) ∧ w'.cell? ⟨b6, 1, none⟩ = some (.slice xp kp yp) ∧ w'.cell? ⟨b7, 0, none⟩ = some (.bool gq) ∧ w'.cell? ⟨b7, 1, none⟩ = some (.slice xq kq yq)) (w'.setCell ⟨w.heap.size + 1, i, none⟩ u) from fun w' i u h => by
    have K : ∀ b o, w.heap.size + 1 < b → (w'.setCell ⟨w.heap.size + 1, i, none⟩ u).cell? ⟨b, o, none⟩ = w'.cell? ⟨b, o, none⟩ := fun b o hb => World.cell?_of_block (Below.heap_setCell _ _ _ _ (by show b ≠ w.heap.size + 1; omega))
    obtain ⟨q0, q1, q2, q3⟩ := h
    exact ⟨(K _ _ (by omega)).trans q0, (K _ _ (by omega)).trans q1, (K _ _ (by omega)).trans q2, (K _ _ (by omega)).trans q3⟩)
  obtain ⟨op0, op1, op2, _⟩ := VP.out
  obtain ⟨oq0, oq1, oq2, _⟩ := VQ.out
  have s0 : kp ≤ 1000 := by omega
  have s2 : kq ≤ 1000 := by omega
  have s3 : tQ q ≠ 0 := by have := HQ.out; omega
  go_region_held3 (fun w' => w'.cell? ⟨b6, 0, none⟩ = some (.bool gp) ∧ w'.cell? ⟨b6, 1, none⟩ = some (.slice xp kp yp) ∧ w'.cell? ⟨b7, 0, none⟩ = some (.bool gq) ∧ w'.cell? ⟨b7, 1, none⟩ = some (.slice xq kq yq))
    (((repeat (refine MS.out _ _ _ ?_)); (first | (with_reducible exact M_.out _ D_.out) | (with_reducible exact M_.out _ T0.out) | (with_reducible exact M_.out _ T1.out) | (with_reducible exact M_.out _ T2.out))))
    (first
    | (go_at_call 45; ((with_reducible refine (double_z (.agg #[.bool gp, .slice xp kp yp]) kp kk _ (tP p q) _ (VP.out.up D_.out) s0 s1 (by first | exact wk | rfl | exact hkk2)).mono ?_); rintro e wA ⟨gA, xA, yA, kA, rfl, hR, hkA, hB⟩; have RA := Lib.hid hR; have sA : kA ≤ 1000 := (by omega); have T0 := Lib.hid (Below.up D_.out hB); clear hB hR))
    | (go_at_call 43; ((with_reducible refine (floor_gi _ (.agg #[.bool gq, .slice xq kq yq]) kA kq (tP p q * 2 ^ kk) (tQ q) _ RA.out (VQ.out.up T0.out) sA s2 s3).mono ?_); rintro e wB ⟨gB, xB, yB, kB, Q, R, rfl, hR, hDV, hkB, hB⟩; have RB := Lib.hid hR.ai; have DV := Lib.hid hDV; have sB : kB ≤ 900 := (by omega); have T1 := Lib.hid (Below.up T0.out hB); have hQ0 := root_arg HP.out HQ.out hDV; clear hB hR hDV))
    | (go_at_call 51; ((with_reducible refine (Root_any gB xB kB yB Q _ RB.out sB hQ0).mono ?_); rintro e wC ⟨gC, xC, yC, kC, Z, rfl, hR, hRt, hkC, hB⟩; have RC := Lib.hid hR; have RT := Lib.hid hRt; have T2 := Lib.hid (Below.up T1.out hB); clear hB hR hRt; have zb := X1.out.below T2.out; obtain ⟨zu, zv, zc, zd, ze, zf⟩ := zb.open; have ZB := Lib.hid zb; clear zb)))
  go_wp2_with fail
  have f1 := IV.put ZB.out RC.out
  have f2 := Below.up HW.out T2.out
  exact bodyPost_ret (v := .tuple #[.agg #[.bool gC, .slice xC kC yC], .int .i64 0]) (by simp [results, Tryd.results25, go_sem, f1.1, f1.2.1, zc, zd]) rfl ⟨gC, xC, yC, kC, Q, R, Z, rfl, f1.2.2.2, RT.out, HKK.out ▸ DV.out, by omega, (f2.setCell (p := ⟨w.heap.size + 1, 0, none⟩) (by show _ ≤ w.heap.size + 1; omega) _).setCell (p := ⟨w.heap.size + 1, 1, none⟩) (by show _ ≤ w.heap.size + 1; omega) _⟩
end Go.Proofs.YtpkjpepnjlcgoaaDoor
end

section
set_option linter.unusedVariables false
set_option linter.unusedSimpArgs false
set_option maxRecDepth 100000
namespace Go.Proofs.YtpkjpepnjlcgoaaDoor
open Go.RowKit

/-- A variable that holds a ratio of the value X / Y. -/
def RW (w : World) (b : Nat) (g : Bool) (a : Option Addr) (n c : Nat) (g' : Bool) (a' : Option Addr) (n' c' : Nat) (X Y : Int) : Prop :=
  w.cell? ⟨b, 0, none⟩ = some (.bool g) ∧ w.cell? ⟨b, 1, none⟩ = some (.slice a n c) ∧ w.cell? ⟨b, 2, none⟩ = some (.bool g') ∧ w.cell? ⟨b, 3, none⟩ = some (.slice a' n' c') ∧ b < w.heap.size ∧ VR w (.agg #[.bool g, .slice a n c, .bool g', .slice a' n' c']) n n' X Y
theorem RW.below {w w' : World} {b : Nat} {g : Bool} {a : Option Addr} {n c : Nat} {g' : Bool} {a' : Option Addr} {n' c' : Nat} {X Y : Int} (h : RW w b g a n c g' a' n' c' X Y) (k : Below w.heap.size w w') : RW w' b g a n c g' a' n' c' X Y :=
  ⟨(k.cell (p := ⟨b, 0, none⟩) h.2.2.2.2.1).trans h.1, (k.cell (p := ⟨b, 1, none⟩) h.2.2.2.2.1).trans h.2.1, (k.cell (p := ⟨b, 2, none⟩) h.2.2.2.2.1).trans h.2.2.1, (k.cell (p := ⟨b, 3, none⟩) h.2.2.2.2.1).trans h.2.2.2.1, Nat.lt_of_lt_of_le h.2.2.2.2.1 k.size, h.2.2.2.2.2.below k⟩
theorem RW.up {w w' : World} {b : Nat} {g : Bool} {a : Option Addr} {n c : Nat} {g' : Bool} {a' : Option Addr} {n' c' : Nat} {X Y : Int} (h : RW w b g a n c g' a' n' c' X Y) (k : Below w.heap.size w w') : VR w' (.agg #[.bool g, .slice a n c, .bool g', .slice a' n' c']) n n' X Y := h.2.2.2.2.2.below k
theorem RW.new {w : World} {g : Bool} {a : Option Addr} {n c : Nat} {g' : Bool} {a' : Option Addr} {n' c' : Nat} {X Y : Int} (h : VR w (.agg #[.bool g, .slice a n c, .bool g', .slice a' n' c']) n n' X Y) :
    RW (w.alloc (.cells #[.bool g, .slice a n c, .bool g', .slice a' n' c'] 26)) w.heap.size g a n c g' a' n' c' X Y := by
  have e := World.alloc_heap_new w (.cells #[.bool g, .slice a n c, .bool g', .slice a' n' c'] 26)
  exact ⟨by unfold World.cell?; rw [e]; rfl, by unfold World.cell?; rw [e]; rfl, by unfold World.cell?; rw [e]; rfl, by unfold World.cell?; rw [e]; rfl, by simp, h.below ((Below.refl _ _).alloc (Nat.le_refl _) _)⟩
theorem Vi.open {w : World} {X Y : Int} {n m : Nat} {e : Ending} {w' : World} (h : Vi w X Y n m e w') : ∃ g a c g' a' c' k j, e = .returned (.agg #[.bool g, .slice a k c, .bool g', .slice a' j c']) ∧ VR w' (.agg #[.bool g, .slice a k c, .bool g', .slice a' j c']) k j X Y ∧ k ≤ n ∧ j ≤ m ∧ Below w.heap.size w w' := by
  obtain ⟨r, k, j, rfl, h1, h2, h3, h4⟩ := h
  obtain ⟨g, a, c, g', a', c', rfl⟩ := h1.form
  exact ⟨g, a, c, g', a', c', k, j, rfl, h1, h2, h3, h4⟩
theorem compare_vr2 (u v : Value) (n m n2 m2 : Nat) (X Y X2 Y2 o : Int) (w : World) (hu : VR w u n m X Y) (hv : VR w v n2 m2 X2 Y2) (hn : n ≤ 300) (hm : m ≤ 300) (hn2 : n2 ≤ 300) (hm2 : m2 ≤ 300) (k1 : n < 40 ∨ m2 < 38) (k2 : n2 < 40 ∨ m < 38) (ho : ord (X * Y2) (X2 * Y) = o) :
    Calls Tryd.prog 23 #[u, v] w fun e w' => e = .returned (.int .i64 o) ∧ Below w.heap.size w w' := by
  obtain ⟨p, q, h1, h2, h3⟩ := hu
  obtain ⟨p2, q2, g1, g2, g3⟩ := hv
  subst ho
  have e := ord_scale (a := tP p q * tQ q2) (b := tP p2 q2 * tQ q) (c := X * Y2) (d := X2 * Y) (Int.mul_pos h2 g2) (Int.mul_pos (tQ_pos q) (tQ_pos q2))
    (by have e1 : tP p q * tQ q2 * (Y * Y2) = (tP p q * Y) * (tQ q2 * Y2) := by grind
        rw [e1, h3]; grind)
    (by have e1 : tP p2 q2 * tQ q * (Y * Y2) = (tP p2 q2 * Y2) * (tQ q * Y) := by grind
        rw [e1, g3]; grind)
  rw [← e]
  exact Compare_any u v n m n2 m2 p q p2 q2 w h1 g1 hn hm hn2 hm2 k1 k2
theorem signum_vr2 (u : Value) (n m : Nat) (X Y o : Int) (w : World) (hu : VR w u n m X Y) (hn : n ≤ 1000000) (hm : m ≤ 1000000) (ho : ord X 0 = o) :
    Calls Tryd.prog 26 #[u] w fun e w' => e = .returned (.int .i64 o) ∧ Below w.heap.size w w' := by
  obtain ⟨p, q, h1, h2, h3⟩ := hu
  have e := ord_scale (a := tP p q) (b := 0) (c := X) (d := 0) h2 (tQ_pos q) h3 (by simp)
  rw [← ho, ← e]
  exact Signum_any u n m p q w h1 hn hm
theorem times_vr2 (u v : Value) (n m n2 m2 : Nat) (X Y X2 Y2 : Int) (w : World) (hT : Tab w) (hu : VR w u n m X Y) (hv : VR w v n2 m2 X2 Y2) (hn : n ≤ 39) (hm : m ≤ 39) (hn2 : n2 ≤ 39) (hm2 : m2 ≤ 39) :
    Calls Tryd.prog 27 #[u, v] w (Vi w (X * X2) (Y * Y2) (n + n2) (max m 2 + max m2 2)) := times_vr u v n m n2 m2 X Y X2 Y2 w hT hu hv (by omega) (by omega) hn2 hm2
theorem pos_forms {P Q : Int} (h : 0 < Q) : tP P Q = P ∧ tQ Q = Q := by
  unfold tP tQ
  exact ⟨by rw [if_neg (by omega), if_neg (by omega)], by rw [if_neg (by omega), if_neg (by omega)]⟩
theorem FromFixed_vr (g : Bool) (a : Option Addr) (n c k : Nat) (p : Int) (w : World) (hT : Tab w) (hu : AI w (.agg #[.bool g, .slice a n c]) n p) (hn : n ≤ 100) (hk : k ≤ 256) :
    Calls Tryd.prog 19 #[.agg #[.bool g, .slice a n c], .int .i64 k] w fun e w' => ∃ g2 a2 c2 g3 a3 c3 i j, e = .returned (.tuple #[.agg #[.bool g2, .slice a2 i c2, .bool g3, .slice a3 j c3], .int .i64 0]) ∧ VR w' (.agg #[.bool g2, .slice a2 i c2, .bool g3, .slice a3 j c3]) i j p (2 ^ k) ∧ i ≤ n ∧ j ≤ 11 ∧ Below w.heap.size w w' := by
  refine (FromFixed_any g a n c k p w hT hu hn hk).mono ?_
  rintro e w' ⟨g2, a2, c2, g3, a3, c3, i, j, P, Q, rfl, h1, h2, h3, h4, h5⟩
  refine ⟨g2, a2, c2, g3, a3, c3, i, j, rfl, ⟨P, Q, h1, Int.pow_pos (by decide), ?_⟩, h3, h4, h5⟩
  rw [(pos_forms (P := P) h2.1).1, (pos_forms (P := P) h2.1).2]
  exact h2.2

set_option maxHeartbeats 1600000 in
/-- An integer as a ratio. -/
theorem Whole_any (g : Bool) (a : Option Addr) (n c : Nat) (p : Int) (w : World) (hu : AI w (.agg #[.bool g, .slice a n c]) n p) (hn : n ≤ 900) : Calls Tryd.prog 24 #[.agg #[.bool g, .slice a n c]] w fun e w' => ∃ g2 a2 c2 g' a' c' k j, e = .returned (.agg #[.bool g2, .slice a2 k c2, .bool g', .slice a' j c']) ∧ VR w' (.agg #[.bool g2, .slice a2 k c2, .bool g', .slice a' j c']) k j p 1 ∧ k ≤ n ∧ j ≤ 2 ∧ Below w.heap.size w w' := by
  have X0 := Lib.hid (Box4.new' (w := w.alloc (.cells #[.bool g, .slice a n c] 24)) (b := w.heap.size + 1) (by simp) (g := false) (a := none) (n := 0) (c := 0) (g' := false) (a' := none) (n' := 0) (c' := 0))
  have HW := Lib.hid (show Below w.heap.size w ((w.alloc (.cells #[.bool g, .slice a n c] 24)).alloc (.cells #[.bool false, .slice none 0 0, .bool false, .slice none 0 0] 26)) from Below.alloc2 _ _ _)
  have A0 := Lib.hid (hu.below HW.out)
  clear hu
  go_enter Tryd.func24, Tryd.ntmps24
  go_wp2_with fail
  refine calls_at (fun W => Below w.heap.size w W ∧ Box4 W (w.heap.size + 1) ∧ AI W (.agg #[.bool g, .slice a n c]) n p) ⟨HW.out, X0.out, A0.out⟩ ?_
  clear HW X0 A0
  rintro w0 ⟨k0, k1, k2⟩
  have HW := Lib.hid k0
  have X0 := Lib.hid k1
  have A0 := Lib.hid k2
  clear k0 k1 k2
  refine (Normal_any _ n p _ A0.out (by omega)).mono ?_
  rintro e w1 ⟨r, k, rfl, hR, hk, hB⟩
  obtain ⟨g1, a1, c1, rfl⟩ := hR.form
  have RA := Lib.hid hR.ai
  have HW1 := Lib.hid (Below.up HW.out hB)
  have X1 := Lib.hid (X0.out.below hB)
  clear hR hB HW X0 A0
  go_wp2_with fail
  refine (of_gf 1 (by omega) _).mono ?_
  rintro e w2 ⟨g2, a2, c2, k2, rfl, hR, hk2, hB⟩
  have RB := Lib.hid hR
  have RA2 := Lib.hid (RA.out.below hB)
  have HW2 := Lib.hid (Below.up HW1.out hB)
  have X2 := Lib.hid (X1.out.below hB)
  clear hR hB HW1 X1 RA
  obtain ⟨zu0, zu1, zu2, zu3, zc0, zc1, zc2, zc3, zf0, zf1, zf2, zf3⟩ := X2.out.open
  go_wp2_with fail
  have f1 := RV.put X2.out RA2.out RB.out
  exact bodyPost_ret (v := .agg #[.bool g1, .slice a1 k c1, .bool g2, .slice a2 k2 c2]) (by simp [results, Tryd.results24, go_sem, f1.1, f1.2.1, f1.2.2.1, f1.2.2.2.1, zc0, zc1, zc2, zc3]) rfl ⟨g1, a1, c1, g2, a2, c2, k, k2, rfl, ⟨p, 1, f1.2.2.2.2.2, by omega, by rw [(pos_forms (P := p) (show (0 : Int) < 1 by omega)).1, (pos_forms (P := p) (show (0 : Int) < 1 by omega)).2]⟩, by omega, by omega, (((HW2.out.setCell (p := ⟨w.heap.size + 1, 0, none⟩) (by show _ ≤ w.heap.size + 1; omega) _).setCell (p := ⟨w.heap.size + 1, 1, none⟩) (by show _ ≤ w.heap.size + 1; omega) _).setCell (p := ⟨w.heap.size + 1, 2, none⟩) (by show _ ≤ w.heap.size + 1; omega) _).setCell (p := ⟨w.heap.size + 1, 3, none⟩) (by show _ ≤ w.heap.size + 1; omega) _⟩

/-- Off by half a unit at most. -/
theorem near_le {X Y K A R : Int} (hY : 0 < Y) (hK : 0 < K) (h : DvS (X * K * 2 + Y) (Y * 2) A R) :
    ((A * Y - X * K) * (K * Y) + (A * Y - X * K) * (K * Y)) * K ≤ 1 * ((K * Y) * (K * Y)) := by
  obtain ⟨e, f, _⟩ := h
  obtain ⟨r0, r1⟩ := f (by omega)
  have h1 : 2 * (A * Y - X * K) ≤ Y := by
    have e1 : A * (Y * 2) = 2 * (A * Y) := by grind
    have e2 : X * K * 2 = 2 * (X * K) := by grind
    omega
  have hp : 0 < K * Y * K := Int.mul_pos (Int.mul_pos hK hY) hK
  have h2 := Int.mul_le_mul_of_nonneg_left h1 (Int.le_of_lt hp)
  have e3 : ((A * Y - X * K) * (K * Y) + (A * Y - X * K) * (K * Y)) * K = K * Y * K * (2 * (A * Y - X * K)) := by grind
  have e4 : 1 * ((K * Y) * (K * Y)) = K * Y * K * Y := by grind
  omega
theorem near_gt {X Y K A R : Int} (hY : 0 < Y) (hK : 0 < K) (h : DvS (X * K * 2 + Y) (Y * 2) A R) :
    (0 * K - 1 * 1) * ((K * Y) * (K * Y)) < ((A * Y - X * K) * (K * Y) + (A * Y - X * K) * (K * Y)) * (1 * K) := by
  obtain ⟨e, f, _⟩ := h
  obtain ⟨r0, r1⟩ := f (by omega)
  have h1 : -Y < 2 * (A * Y - X * K) := by
    have e1 : A * (Y * 2) = 2 * (A * Y) := by grind
    have e2 : X * K * 2 = 2 * (X * K) := by grind
    omega
  have hp : 0 < K * Y * K := Int.mul_pos (Int.mul_pos hK hY) hK
  have h2 := Int.mul_lt_mul_of_pos_left h1 hp
  have e3 : ((A * Y - X * K) * (K * Y) + (A * Y - X * K) * (K * Y)) * (1 * K) = K * Y * K * (2 * (A * Y - X * K)) := by grind
  have e4 : (0 * K - 1 * 1) * ((K * Y) * (K * Y)) = K * Y * K * (-Y) := by grind
  omega
/-- A number that has no more bits is itself. -/
theorem fixed_same {P Q K z M R : Int} (hQ : 0 < Q) (hPQ : P * K = z * Q) (h : DvS (P * K * 2 + Q) (Q * 2) M R) : M = z := by
  obtain ⟨e, f, _⟩ := h
  obtain ⟨r0, r1⟩ := f (by omega)
  rw [hPQ] at e
  have h1 : M * (Q * 2) ≤ z * Q * 2 + Q := by omega
  have h2 : z * Q * 2 + Q < (M + 1) * (Q * 2) := by
    have : (M + 1) * (Q * 2) = M * (Q * 2) + Q * 2 := by grind
    omega
  have k1 : M < z + 1 := by
    refine lt_of_mul_lt (k := Q * 2) (by omega) ?_
    have e1 : Q * 2 * M = M * (Q * 2) := by grind
    have e2 : Q * 2 * (z + 1) = z * Q * 2 + Q * 2 := by grind
    omega
  have k2 : z < M + 1 := by
    refine lt_of_mul_lt (k := Q * 2) (by omega) ?_
    have e1 : Q * 2 * z = z * Q * 2 := by grind
    have e2 : Q * 2 * (M + 1) = (M + 1) * (Q * 2) := by grind
    omega
  omega
/-- The root's square, and that of the next one. -/
theorem root_le {X Y K Q R Z : Int} (hY : 0 < Y) (hK : 0 < K) (h : DvS (X * (K * K)) Y Q R) (hz : RtOf Q Z) : (Z * Z) * Y ≤ X * (K * K) := by
  obtain ⟨e, f, _⟩ := h
  obtain ⟨r0, r1⟩ := f hY
  have h1 := Int.mul_le_mul_of_nonneg_right hz.2.1 (Int.le_of_lt hY)
  omega
theorem root_gt {X Y K Q R Z : Int} (hY : 0 < Y) (hK : 0 < K) (h : DvS (X * (K * K)) Y Q R) (hz : RtOf Q Z) : X * ((K * K) * (K * K)) < ((Z * K + 1 * K) * (Z * K + 1 * K)) * Y := by
  obtain ⟨e, f, _⟩ := h
  obtain ⟨r0, r1⟩ := f hY
  have h1 : Q + 1 ≤ (Z + 1) * (Z + 1) := by have := hz.2.2; omega
  have h2 := Int.mul_le_mul_of_nonneg_right h1 (Int.le_of_lt hY)
  have h3 : X * (K * K) < (Z + 1) * (Z + 1) * Y := by
    have : (Q + 1) * Y = Q * Y + Y := by grind
    omega
  have hp : 0 < K * K := Int.mul_pos hK hK
  have h4 := Int.mul_lt_mul_of_pos_left h3 hp
  have e3 : X * ((K * K) * (K * K)) = K * K * (X * (K * K)) := by grind
  have e4 : ((Z * K + 1 * K) * (Z * K + 1 * K)) * Y = K * K * ((Z + 1) * (Z + 1) * Y) := by grind
  omega
end Go.Proofs.YtpkjpepnjlcgoaaDoor
end
