/- Contract: takeQuotient. -/
import Derived.Test.YtkhchaoehlefdaaDoorEyF
set_option linter.unusedVariables false
set_option linter.unusedSimpArgs false
namespace Go.Proofs.YtkhchaoehlefdaaDoor
open Go.RowKit

theorem div_mod_is {U W q r : Int} (h : U = q * W + r) (r0 : 0 ≤ r) (r1 : r < W) : q = U / W ∧ r = U % W := by
  subst h
  rw [Int.add_comm, Int.add_mul_ediv_right _ _ (by omega), Int.add_mul_emod_self_right, Int.ediv_eq_zero_of_lt r0 r1, Int.emod_eq_of_lt r0 r1]
  omega
theorem quo_fits {g W U V0 V1 t c K : Int} (hW : 0 < W) (hWK : W < K) (hU : U = V0 + t * K) (h1 : V1 + g * W = V0 + c * K) (a0 : 0 ≤ V1) (a1 : V1 < K) (hhi : U < (g + 1) * W) (hct : c ≤ t) : t = c ∧ g = U / W ∧ V1 = U % W := by
  have e : (g + 1) * W = g * W + W := by rw [Int.add_mul, Int.one_mul]
  have h2 : t = c := by
    by_cases h : t = c
    · exact h
    · exfalso
      have h3 : (c + 1) * K ≤ t * K := Int.mul_le_mul_of_nonneg_right (by omega) (by omega)
      rw [Int.add_mul, Int.one_mul] at h3
      omega
  subst h2
  exact ⟨rfl, div_mod_is (by omega) a0 (by omega)⟩
theorem quo_over {g W U V0 V1 t c K : Int} (hW : 0 < W) (hWK : W < K) (hU : U = V0 + t * K) (hU0 : 0 ≤ U) (h1 : V1 + g * W = V0 + c * K) (a0 : 0 ≤ V1) (a1 : V1 < K) (hlo : g = 0 ∨ (g - 1) * W ≤ U) (g0 : 0 ≤ g) (hct : t < c) : c = t + 1 ∧ 1 ≤ g ∧ g - 1 = U / W ∧ V1 + W - K = U % W := by
  have h3 : (t + 1) * K ≤ c * K := Int.mul_le_mul_of_nonneg_right (by omega) (by omega)
  rw [Int.add_mul, Int.one_mul] at h3
  have hg : 1 ≤ g := by
    by_cases h : g = 0
    · subst h; rw [Int.zero_mul] at h1; omega
    · omega
  have hl : (g - 1) * W ≤ U := by rcases hlo with h | h <;> omega
  have e : (g - 1) * W = g * W - W := by rw [Int.sub_mul, Int.one_mul]
  have h2 : c = t + 1 := by
    by_cases h : c = t + 1
    · exact h
    · exfalso
      have h4 : (t + 2) * K ≤ c * K := Int.mul_le_mul_of_nonneg_right (by omega) (by omega)
      rw [Int.add_mul] at h4
      omega
  subst h2
  rw [Int.add_mul, Int.one_mul] at h1
  exact ⟨rfl, hg, div_mod_is (by omega) (by omega) (by omega)⟩
theorem sum_over {W V1 V2 c K : Int} (hWK : W < K) (r0 : 0 ≤ V1 + W - K) (r1 : V1 + W - K < W) (h : V2 + c * K = V1 + W) (c0 : 0 ≤ c) (c1 : c ≤ 1) (a1 : V2 < K) : c = 1 ∧ V2 = V1 + W - K := by
  by_cases h0 : c = 0
  · subst h0; rw [Int.zero_mul] at h; omega
  · have : c = 1 := by omega
    subst this; rw [Int.one_mul] at h; omega

/-- What a part and a divisor give the guess. -/
theorem guess_good {x y : Nat → Int} {off j : Nat} {g : Int} (hx : Dg x) (hy : Dg y) (hv1 : 2147483648 ≤ y (j + 1)) (hU : V (sh x off) (j + 3) < V y (j + 2) * 4294967296)
    (hg : GF (y (j + 1)) (y j) (x (off + (j + 2)) * 4294967296 + x (off + (j + 1))) (x (off + j)) g) : 0 ≤ g ∧ g ≤ 4294967295 ∧ (g = 0 ∨ (g - 1) * V y (j + 2) ≤ V (sh x off) (j + 3)) ∧ V (sh x off) (j + 3) < (g + 1) * V y (j + 2) := by
  have hsx : Dg (sh x off) := fun i => hx (off + i)
  have ku := V_nonneg hsx j
  have ku1 := V_lt hsx j
  have kv := V_nonneg hy j
  have kv1 := V_lt hy j
  have k0 := P_pos j
  have ev : V y (j + 2) = (y (j + 1) * 4294967296 + y j) * P j + V y j := by rw [V_succ, V_succ, P_succ]; grind
  have eu : V (sh x off) (j + 3) = ((x (off + (j + 2)) * 4294967296 + x (off + (j + 1))) * 4294967296 + x (off + j)) * P j + V (sh x off) j := by
    have p2 : P (j + 2) = 4294967296 * (4294967296 * P j) := by rw [P_succ (j + 1), P_succ j]
    rw [V_succ, V_succ, V_succ, p2, P_succ]
    show V (sh x off) j + x (off + j) * P j + x (off + (j + 1)) * _ + x (off + (j + 2)) * _ = _
    grind
  obtain ⟨r, e, g0, g1, hl, hq⟩ := hg
  have b1 := hy (j + 1)
  have b2 := hy j
  generalize V (sh x off) (j + 3) = U at *
  generalize V y (j + 2) = W at *
  generalize x (off + (j + 2)) * 4294967296 + x (off + (j + 1)) = top at *
  have hW : 0 < W := by
    have : 0 ≤ (y (j + 1) * 4294967296 + y j - 1) * P j := Int.mul_nonneg (by omega) (by omega)
    rw [Int.sub_mul] at this
    omega
  have hU0 : 0 ≤ U ∨ U < 0 := by omega
  refine ⟨g0, g1, ?_, ?_⟩
  · by_cases h : g = 0
    · exact Or.inl h
    · exact Or.inr (guess_last k0 kv1 ku ev eu e hl (by omega) (by omega))
  · rcases hU0 with hU0 | hU0
    · have q0 : 0 ≤ U / W := Int.ediv_nonneg hU0 (by omega)
      have q1 : U / W < 4294967296 := Int.ediv_lt_of_lt_mul hW (by rw [Int.mul_comm]; exact hU)
      have em := Int.mul_ediv_add_emod U W
      have m0 := Int.emod_nonneg U (show W ≠ 0 by omega)
      have m1 := Int.emod_lt_of_pos U hW
      have h1 : U / W * W ≤ U := by rw [Int.mul_comm]; omega
      have h2 := hq (U / W) q0 (by omega) (guess_upper k0 kv ku1 ev eu h1 q0)
      have h3 : (U / W + 1) * W ≤ (g + 1) * W := Int.mul_le_mul_of_nonneg_right (by omega) (by omega)
      rw [Int.add_mul (U / W), Int.one_mul, Int.mul_comm (U / W)] at h3
      omega
    · have : 0 ≤ (g + 1) * W := Int.mul_nonneg (by omega) (by omega)
      omega
theorem top_small {x y : Nat → Int} {off j : Nat} (hx : Dg x) (hy : Dg y) (hU : V (sh x off) (j + 3) < V y (j + 2) * 4294967296) :
    x (off + (j + 2)) * 4294967296 + x (off + (j + 1)) < (y (j + 1) + 1) * 4294967296 := by
  have hsx : Dg (sh x off) := fun i => hx (off + i)
  have k0 := P_pos (j + 1)
  have ku := V_nonneg hsx (j + 1)
  have kv := V_lt hy (j + 1)
  have ev : V y (j + 2) = V y (j + 1) + y (j + 1) * P (j + 1) := V_succ _ _
  have eu : V (sh x off) (j + 3) = V (sh x off) (j + 1) + (x (off + (j + 2)) * 4294967296 + x (off + (j + 1))) * P (j + 1) := by
    rw [V_succ, V_succ _ (j + 1), P_succ (j + 1)]
    show V (sh x off) (j + 1) + x (off + (j + 1)) * P (j + 1) + x (off + (j + 2)) * _ = _
    grind
  have h : (x (off + (j + 2)) * 4294967296 + x (off + (j + 1))) * P (j + 1) < ((y (j + 1) + 1) * 4294967296) * P (j + 1) := by
    have e2 : ((y (j + 1) + 1) * 4294967296) * P (j + 1) = (y (j + 1) * P (j + 1) + P (j + 1)) * 4294967296 := by grind
    rw [e2]
    omega
  exact Int.lt_of_mul_lt_mul_right h (by omega)
end Go.Proofs.YtkhchaoehlefdaaDoor
