/- The loop of longDivide: what is true between two rounds. -/
import Derived.Test.YtkhchaoehlefdaaDoorEyH
set_option linter.unusedVariables false
set_option linter.unusedSimpArgs false
namespace Go.Proofs.YtkhchaoehlefdaaDoor
open Go.RowKit

theorem V_cons (x : Nat → Int) (k m : Nat) : V (sh x k) (m + 1) = x k + 4294967296 * V (sh x (k + 1)) m := by
  rw [Nat.add_comm m 1, V_add]
  have e1 : V (sh x k) 1 = x k := by rw [V_succ, V_zero, P_zero]; show 0 + sh x k 0 * 1 = x k; unfold sh; simp
  have e2 : sh (sh x k) 1 = sh x (k + 1) := by funext i; unfold sh; rw [Nat.add_assoc]
  rw [e1, e2]; rfl

/-- What is true between two rounds of longDivide: the words of the quotient from k on are there. -/
def LdRel (u : World) (bR bQ L j : Nat) (T W : Int) (k : Nat) (wr : World) : Prop :=
  ∃ x z, Own wr bR (L + (j + 2)) x ∧ Own wr bQ L z ∧ Dg x ∧ Dg z ∧ (∀ i, k + (j + 2) ≤ i → i < L + (j + 2) → x i = 0) ∧ V (sh x k) (j + 2) < W ∧ T = V x (k + (j + 2)) + W * (V (sh z k) (L - k) * P k) ∧ Below u.heap.size u wr

theorem ld_step {U W V1 X0 Pk Zk T Z1 : Int} (h1 : T = X0 + U * Pk + W * (Z1 * (4294967296 * Pk))) (h2 : Zk = U / W + 4294967296 * Z1) : T = X0 + (U % W) * Pk + W * (Zk * Pk) := by
  have e := Int.mul_ediv_add_emod U W
  have e3 : U * Pk = W * (U / W) * Pk + (U % W) * Pk := by rw [← Int.add_mul, e]
  rw [h1, h2, e3]
  grind

theorem ldRel_step {u : World} {bR bQ L j : Nat} {T W : Int} {k : Nat} {wr w2 : World} {x z : Nat → Int} (hO2 : Own wr bQ L z) (hx : Dg x) (hz : Dg z) (h0 : ∀ i, k + 1 + (j + 2) ≤ i → i < L + (j + 2) → x i = 0) (hlt : V (sh x (k + 1)) (j + 2) < W)
    (hT : T = V x (k + 1 + (j + 2)) + W * (V (sh z (k + 1)) (L - (k + 1)) * P (k + 1))) (hB : Below u.heap.size u wr) (hk : k < L) (hR : u.heap.size ≤ bR) (hQ : u.heap.size ≤ bQ) (hne : bQ ≠ bR) (hW : 0 < W) (hWK : W < P (j + 2))
    (h : QuoRel bR k j (L + (j + 2)) x (V (sh x k) (j + 3) % W) wr w2) (hq : V (sh x k) (j + 3) < W * 4294967296) :
    LdRel u bR bQ L j T W k (w2.setCell ⟨bQ, k, none⟩ (.int .u32 (V (sh x k) (j + 3) / W))) := by
  obtain ⟨x', hO, hd, hf, hv, hC⟩ := h
  have hsx : Dg (sh x k) := fun i => hx (k + i)
  have hsx' : Dg (sh x' k) := fun i => hd (k + i)
  have U0 := V_nonneg hsx (j + 3)
  have q0 : 0 ≤ V (sh x k) (j + 3) / W := Int.ediv_nonneg U0 (by omega)
  have q1 : V (sh x k) (j + 3) / W < 4294967296 := Int.ediv_lt_of_lt_mul hW (by rw [Int.mul_comm]; exact hq)
  have m0 := Int.emod_nonneg (V (sh x k) (j + 3)) (show W ≠ 0 by omega)
  have m1 := Int.emod_lt_of_pos (V (sh x k) (j + 3)) hW
  have es : V (sh x' k) (j + 3) = V (sh x' k) (j + 2) + x' (k + (j + 2)) * P (j + 2) := V_succ _ _
  have n2 := V_nonneg hsx' (j + 2)
  have t0 := hd (k + (j + 2))
  have kp := P_pos (j + 2)
  have ht : x' (k + (j + 2)) = 0 := by
    by_cases h : x' (k + (j + 2)) = 0
    · exact h
    · exfalso
      have : 1 * P (j + 2) ≤ x' (k + (j + 2)) * P (j + 2) := Int.mul_le_mul_of_nonneg_right (by omega) (by omega)
      omega
  rw [ht, Int.zero_mul, Int.add_zero] at es
  have hO3 : Own w2 bQ L z := hO2.chg hC hne
  refine ⟨x', upd z k (V (sh x k) (j + 3) / W), hO.setOther (fun h => hne h) _, hO3.set hk _, hd, hz.upd _ q0 (by omega), fun i hi hi2 => ?_, by rw [← es, hv]; exact m1, ?_, (Chg.below hB hC hB.size hR).setCell (p := ⟨bQ, k, none⟩) hQ _⟩
  · by_cases e : i = k + (j + 2)
    · rw [e]; exact ht
    · rw [hf i (by omega)]; exact h0 i (by omega) hi2
  · have a1 : V x (k + 1 + (j + 2)) = V x k + V (sh x k) (j + 3) * P k := by rw [show k + 1 + (j + 2) = k + (j + 3) by omega, V_add, Int.mul_comm]
    have a2 : V x' (k + (j + 2)) = V x k + (V (sh x k) (j + 3) % W) * P k := by rw [V_add, ← es, hv, V_congr (x := x') (y := x) (fun i hi => hf i (by omega)), Int.mul_comm (P k)]
    have a3 : V (sh (upd z k (V (sh x k) (j + 3) / W)) k) (L - k) = V (sh x k) (j + 3) / W + 4294967296 * V (sh z (k + 1)) (L - (k + 1)) := by
      obtain ⟨d, hd'⟩ : ∃ d, L - k = d + 1 := ⟨L - k - 1, by omega⟩
      rw [hd', show L - (k + 1) = d by omega, V_cons, upd_same, V_congr (x := sh (upd z k (V (sh x k) (j + 3) / W)) (k + 1)) (y := sh z (k + 1)) (fun i hi => show upd z k (V (sh x k) (j + 3) / W) (k + 1 + i) = z (k + 1 + i) from upd_other (by omega))]
    rw [a2]
    refine ld_step (V1 := 0) (Z1 := V (sh z (k + 1)) (L - (k + 1))) ?_ a3
    rw [hT, a1, P_succ]

/-- A part is short enough for the next word. -/
theorem ld_part {x : Nat → Int} {k j : Nat} {W : Int} (hx : Dg x) (h : V (sh x (k + 1)) (j + 2) < W) : V (sh x k) (j + 3) < W * 4294967296 := by
  rw [V_cons]
  have := hx k
  omega
/-- The end: quotient and rest. -/
theorem ld_end {T W X Z S p q : Int} (hS : 0 < S) (hT : T = X + W * Z) (x0 : 0 ≤ X) (x1 : X < W) (eT : T = S * p) (eW : W = S * q) (hq : 0 < q) : Z = p / q ∧ X / S = p % q := by
  have e1 : Z * q = p / q * q + (Z - p / q) * q := by rw [← Int.add_mul]; congr 1; omega
  have em := Int.mul_ediv_add_emod p q
  have m0 := Int.emod_nonneg p (show q ≠ 0 by omega)
  have m1 := Int.emod_lt_of_pos p hq
  have hX : X = S * (p - q * Z) := by rw [Int.mul_sub, ← eT, hT, ← Int.mul_assoc, ← eW]; omega
  have r0 : 0 ≤ p - q * Z := by
    by_cases h : 0 ≤ p - q * Z
    · exact h
    · exfalso
      have := Int.mul_le_mul_of_nonneg_left (show p - q * Z ≤ -1 by omega) (Int.le_of_lt hS)
      omega
  have r1 : p - q * Z < q := by
    rw [hX, eW] at x1
    exact Int.lt_of_mul_lt_mul_left x1 (by omega)
  obtain ⟨d1, d2⟩ := div_mod_is (U := p) (W := q) (q := Z) (r := p - q * Z) (by rw [Int.mul_comm Z]; omega) r0 r1
  refine ⟨d1, ?_⟩
  rw [hX, Int.mul_ediv_cancel_left _ (by omega)]
  exact d2
end Go.Proofs.YtkhchaoehlefdaaDoor
