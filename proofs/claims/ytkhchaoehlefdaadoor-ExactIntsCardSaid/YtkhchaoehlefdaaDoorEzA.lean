/- Plain facts: Euclid's steps that are found from the highest bits of two numbers, by Collins' condition. -/
import Derived.Test.YtkhchaoehlefdaaDoorExA
set_option linter.unusedVariables false
set_option linter.unusedSimpArgs false
namespace Go.Proofs.YtkhchaoehlefdaaDoor

/-- What is true between two of Euclid's steps from the highest bits X, Y: x and y are what they lead to. -/
def LI (X Y x y U V u v : Int) (o : Bool) : Prop :=
  0 ≤ y ∧ y ≤ x ∧ x ≤ X ∧ 0 ≤ U ∧ 0 ≤ V ∧ 0 ≤ u ∧ 1 ≤ v ∧ V ≤ v ∧ u ≤ v ∧ U ≤ v ∧ (U ≤ V ∨ (U = 1 ∧ V = 0 ∧ u = 0 ∧ v = 1 ∧ o = true)) ∧ (V = 0 ∨ 1 ≤ u) ∧ 1 ≤ U + u ∧
  ((o = true ∧ x = U * X - V * Y ∧ y = v * Y - u * X ∧ U * v - V * u = 1) ∨ (o = false ∧ x = V * Y - U * X ∧ y = u * X - v * Y ∧ V * u - U * v = 1))

theorem LI_start {X Y : Int} (h0 : 0 ≤ Y) (h1 : Y ≤ X) : LI X Y X Y 1 0 0 1 true := by
  refine ⟨h0, h1, Int.le_refl _, by decide, by decide, by decide, by decide, by decide, by decide, by decide, .inr ⟨rfl, rfl, rfl, rfl, rfl⟩, .inl rfl, by decide, .inl ⟨rfl, by omega, by omega, by decide⟩⟩

/-- The highest bits from what the steps lead to. -/
theorem LI_back {X Y x y U V u v : Int} {o : Bool} (h : LI X Y x y U V u v o) : v * x + V * y = X := by
  obtain ⟨_, _, _, _, _, _, _, _, _, _, _, _, _, h⟩ := h
  rcases h with ⟨_, h1, h2, h3⟩ | ⟨_, h1, h2, h3⟩
  · have e : v * x + V * y = (U * v - V * u) * X := by rw [h1, h2]; grind
    rw [e, h3, Int.one_mul]
  · have e : v * x + V * y = (V * u - U * v) * X := by rw [h1, h2]; grind
    rw [e, h3, Int.one_mul]

/-- Where a step may be done the factors are below the base. -/
theorem LI_small {X Y x y U V u v : Int} {o : Bool} (h : LI X Y x y U V u v o) (hX : X ≤ 18446744073709551615) (hy : v ≤ y) : v ≤ 4294967295 := by
  have e := LI_back h
  obtain ⟨h0, h1, _, _, hV, _, hv, _⟩ := h
  have a1 : 0 ≤ V * y := Int.mul_nonneg hV h0
  have a2 : v * v ≤ v * x := Int.mul_le_mul_of_nonneg_left (by omega) (by omega)
  by_cases g : v ≤ 4294967295
  · exact g
  · exfalso
    have : 4294967296 * 4294967296 ≤ v * v := Int.mul_le_mul (by omega) (by omega) (by omega) (by omega)
    omega

theorem LI_step {X Y x y U V u v : Int} {o : Bool} (h : LI X Y x y U V u v o) (hy : v ≤ y) :
    LI X Y y (x % y) u v (U + x / y * u) (V + x / y * v) (!o) ∧ 1 ≤ x / y ∧ x / y * y ≤ x ∧ x - x / y * y = x % y ∧ V + x / y * v ≤ X := by
  have e := LI_back h
  obtain ⟨h0, h1, hxX, hU, hV, hu, hv, hVv, huv, hUv, hUV, hVu, hUu, hs⟩ := h
  have hy0 : 0 < y := by omega
  have q1 : 1 ≤ x / y := (Int.le_ediv_iff_mul_le hy0).2 (by omega)
  have r0 := Int.emod_nonneg x (show y ≠ 0 by omega)
  have r1 := Int.emod_lt_of_pos x hy0
  have e1 := Int.mul_ediv_add_emod x y
  rw [Int.mul_comm] at e1
  generalize x / y = q at *
  generalize x % y = r at *
  have b1 : 1 * u ≤ q * u := Int.mul_le_mul_of_nonneg_right q1 hu
  have b2 : 1 * v ≤ q * v := Int.mul_le_mul_of_nonneg_right q1 (by omega)
  have b3 : q * u ≤ q * v := Int.mul_le_mul_of_nonneg_left huv (by omega)
  have b4 : V + q * v ≤ X := by
    have e2 : v * x + V * y = (V + q * v) * y + v * r := by rw [← e1]; grind
    have c1 : 0 ≤ v * r := Int.mul_nonneg (by omega) r0
    have c2 : (V + q * v) * 1 ≤ (V + q * v) * y := Int.mul_le_mul_of_nonneg_left (by omega) (by omega)
    omega
  have b5 : U + q * u ≤ V + q * v := by
    rcases hUV with g | ⟨g1, g2, g3, g4, _⟩
    · omega
    · subst g1; subst g2; subst g3; subst g4; omega
  refine ⟨⟨r0, by omega, by omega, hu, by omega, by omega, by omega, by omega, b5, by omega, .inl huv, .inr (by omega), by omega, ?_⟩, q1, by omega, by omega, b4⟩
  rcases hs with ⟨ho, g1, g2, g3⟩ | ⟨ho, g1, g2, g3⟩
  · right
    subst ho
    refine ⟨rfl, g2, ?_, ?_⟩
    · have : r = x - q * y := by omega
      rw [this, g1, g2]; grind
    · rw [← g3]; grind
  · left
    subst ho
    refine ⟨rfl, g2, ?_, ?_⟩
    · have : r = x - q * y := by omega
      rw [this, g1, g2]; grind
    · rw [← g3]; grind

/-- Steps that are certain. -/
def GQ (X Y u0 v0 u1 v1 : Int) (o : Bool) : Prop := ∃ x y, LI X Y x y u0 v0 u1 v1 (!o) ∧ v1 ≤ y ∧ v0 + v1 ≤ x - y

/-- What the steps make of both numbers. -/
def aft (o : Bool) (u0 v0 a b : Int) : Int := if o = true then v0 * b - u0 * a else u0 * a - v0 * b
def bft (o : Bool) (u1 v1 a b : Int) : Int := if o = true then u1 * a - v1 * b else v1 * b - u1 * a

theorem gcd_steps {a b A B p q r s p' q' r' s' : Int} (h1 : A = p * a + q * b) (h2 : B = r * a + s * b) (h3 : a = p' * A + q' * B) (h4 : b = r' * A + s' * B) : Int.gcd A B = Int.gcd a b := by
  apply Nat.dvd_antisymm
  · have d1 := Int.gcd_dvd_left (a := A) (b := B)
    have d2 := Int.gcd_dvd_right (a := A) (b := B)
    apply Int.natCast_dvd_natCast.1
    apply Int.dvd_coe_gcd
    · exact (congrArg (_ ∣ ·) h3).mpr (Int.dvd_add (Int.dvd_mul_of_dvd_right d1) (Int.dvd_mul_of_dvd_right d2))
    · exact (congrArg (_ ∣ ·) h4).mpr (Int.dvd_add (Int.dvd_mul_of_dvd_right d1) (Int.dvd_mul_of_dvd_right d2))
  · have d1 := Int.gcd_dvd_left (a := a) (b := b)
    have d2 := Int.gcd_dvd_right (a := a) (b := b)
    apply Int.natCast_dvd_natCast.1
    apply Int.dvd_coe_gcd
    · exact (congrArg (_ ∣ ·) h1).mpr (Int.dvd_add (Int.dvd_mul_of_dvd_right d1) (Int.dvd_mul_of_dvd_right d2))
    · exact (congrArg (_ ∣ ·) h2).mpr (Int.dvd_add (Int.dvd_mul_of_dvd_right d1) (Int.dvd_mul_of_dvd_right d2))

theorem steps_good {X Y u0 v0 u1 v1 a b a' b' D : Int} {o : Bool} (h : GQ X Y u0 v0 u1 v1 o) (hv : v0 ≠ 0) (hD : 0 < D) (ha : a = X * D + a') (hb : b = Y * D + b') (ha0 : 0 ≤ a') (ha1 : a' < D) (hb0 : 0 ≤ b') (hb1 : b' < D) :
    0 ≤ bft o u1 v1 a b ∧ bft o u1 v1 a b < aft o u0 v0 a b ∧ aft o u0 v0 a b ≤ b ∧ Int.gcd (aft o u0 v0 a b) (bft o u1 v1 a b) = Int.gcd a b := by
  obtain ⟨x, y, hL, hy, hxy⟩ := h
  obtain ⟨h0, h1, hxX, hU, hV, hu, hv1, hVv, huv, hUv, hUV, hVu, hUu, hs⟩ := hL
  have hu1 : 1 ≤ u1 := by omega
  have f1 : (v0 + v1) * D ≤ (x - y) * D := Int.mul_le_mul_of_nonneg_right hxy (by omega)
  have f2 : v1 * D ≤ y * D := Int.mul_le_mul_of_nonneg_right hy (by omega)
  have f3 : (u0 + u1) * D ≤ (v0 + v1) * D := Int.mul_le_mul_of_nonneg_right (by omega) (by omega)
  have f4 : u1 * D ≤ v1 * D := Int.mul_le_mul_of_nonneg_right huv (by omega)
  have g1 : 0 ≤ (u0 + u1) * a' := Int.mul_nonneg (by omega) ha0
  have g2 : 0 ≤ (v0 + v1) * b' := Int.mul_nonneg (by omega) hb0
  have g3 : (u0 + u1) * a' ≤ (u0 + u1) * (D - 1) := Int.mul_le_mul_of_nonneg_left (by omega) (by omega)
  have g4 : (v0 + v1) * b' ≤ (v0 + v1) * (D - 1) := Int.mul_le_mul_of_nonneg_left (by omega) (by omega)
  have g5 : 0 ≤ u1 * a' := Int.mul_nonneg hu ha0
  have g6 : 0 ≤ v1 * b' := Int.mul_nonneg (by omega) hb0
  have g7 : u1 * a' ≤ u1 * (D - 1) := Int.mul_le_mul_of_nonneg_left (by omega) hu
  have g8 : v1 * b' ≤ v1 * (D - 1) := Int.mul_le_mul_of_nonneg_left (by omega) (by omega)
  rw [Int.mul_sub, Int.mul_one] at g3 g4 g7 g8
  rcases hs with ⟨ho, e1, e2, e3⟩ | ⟨ho, e1, e2, e3⟩
  · have ho' : o = false := by cases o <;> simp_all
    subst ho'
    have hA : aft false u0 v0 a b = u0 * a - v0 * b := rfl
    have hB : bft false u1 v1 a b = v1 * b - u1 * a := rfl
    rw [hA, hB]
    have k1 : u0 * a - v0 * b - (v1 * b - u1 * a) = (x - y) * D + (u0 + u1) * a' - (v0 + v1) * b' := by rw [e1, e2, ha, hb]; grind
    have k2 : v1 * b - u1 * a = y * D + v1 * b' - u1 * a' := by rw [e2, ha, hb]; grind
    have k3 : b = u1 * (u0 * a - v0 * b) + u0 * (v1 * b - u1 * a) := by
      have : u1 * (u0 * a - v0 * b) + u0 * (v1 * b - u1 * a) = (u0 * v1 - v0 * u1) * b := by grind
      rw [this, e3, Int.one_mul]
    have k4 : a = v1 * (u0 * a - v0 * b) + v0 * (v1 * b - u1 * a) := by
      have : v1 * (u0 * a - v0 * b) + v0 * (v1 * b - u1 * a) = (u0 * v1 - v0 * u1) * a := by grind
      rw [this, e3, Int.one_mul]
    have b0 : 0 ≤ v1 * b - u1 * a := by omega
    have b1 : v1 * b - u1 * a < u0 * a - v0 * b := by omega
    refine ⟨b0, b1, ?_, gcd_steps (p := u0) (q := - v0) (r := - u1) (s := v1) (by grind) (by grind) k4 k3⟩
    have m1 : 1 * (u0 * a - v0 * b) ≤ u1 * (u0 * a - v0 * b) := Int.mul_le_mul_of_nonneg_right hu1 (by omega)
    have m2 : 0 ≤ u0 * (v1 * b - u1 * a) := Int.mul_nonneg hU b0
    omega
  · have ho' : o = true := by cases o <;> simp_all
    subst ho'
    have hUV' : u0 ≤ v0 := by
      rcases hUV with g | ⟨_, _, _, _, g⟩
      · exact g
      · exact absurd g (by decide)
    have hA : aft true u0 v0 a b = v0 * b - u0 * a := rfl
    have hB : bft true u1 v1 a b = u1 * a - v1 * b := rfl
    rw [hA, hB]
    have k1 : v0 * b - u0 * a - (u1 * a - v1 * b) = (x - y) * D + (v0 + v1) * b' - (u0 + u1) * a' := by rw [e1, e2, ha, hb]; grind
    have k2 : u1 * a - v1 * b = y * D + u1 * a' - v1 * b' := by rw [e2, ha, hb]; grind
    have k3 : b = u1 * (v0 * b - u0 * a) + u0 * (u1 * a - v1 * b) := by
      have : u1 * (v0 * b - u0 * a) + u0 * (u1 * a - v1 * b) = (v0 * u1 - u0 * v1) * b := by grind
      rw [this, e3, Int.one_mul]
    have k4 : a = v1 * (v0 * b - u0 * a) + v0 * (u1 * a - v1 * b) := by
      have : v1 * (v0 * b - u0 * a) + v0 * (u1 * a - v1 * b) = (v0 * u1 - u0 * v1) * a := by grind
      rw [this, e3, Int.one_mul]
    have b0 : 0 ≤ u1 * a - v1 * b := by omega
    have b1 : u1 * a - v1 * b < v0 * b - u0 * a := by omega
    refine ⟨b0, b1, ?_, gcd_steps (p := - u0) (q := v0) (r := u1) (s := - v1) (by grind) (by grind) k4 k3⟩
    have m1 : 1 * (v0 * b - u0 * a) ≤ u1 * (v0 * b - u0 * a) := Int.mul_le_mul_of_nonneg_right hu1 (by omega)
    have m2 : 0 ≤ u0 * (u1 * a - v1 * b) := Int.mul_nonneg hU b0
    omega

/-! ### The highest bits -/
/-- The highest 64 bits of a number of k + 3 words, of which s bits are 0. -/
def hi64 (w1 w2 w3 S T : Int) : Int := (w1 * 4294967296 + w2) * S + w3 / T
theorem high_is {x : Nat → Int} (hx : Dg x) (k : Nat) {S T : Int} (hS : 0 < S) (hT : 0 < T) (hST : S * T = 4294967296) :
    V x (k + 3) / (T * P k) = hi64 (x (k + 2)) (x (k + 1)) (x k) S T := by
  have hp := P_pos k
  have e : V x (k + 3) = V x k + ((x (k + 2) * 4294967296 + x (k + 1)) * S * T + x k) * P k := by
    rw [Int.mul_assoc _ S T, hST]
    have p1 : P (k + 1) = 4294967296 * P k := P_succ k
    have p2 : P (k + 2) = 4294967296 * (4294967296 * P k) := by rw [← p1]; exact P_succ (k + 1)
    rw [V_succ, V_succ, V_succ, p1, p2]
    grind
  rw [Int.mul_comm T (P k), ← Int.ediv_ediv_of_nonneg (by omega), e, Int.add_mul_ediv_right _ _ (by omega), Int.ediv_eq_zero_of_lt (V_nonneg hx k) (V_lt hx k), Int.zero_add]
  unfold hi64
  rw [Int.add_comm, Int.add_mul_ediv_right _ _ (by omega), Int.add_comm]
/-- Words behind a number are 0. -/
def wd (x : Nat → Int) (n : Nat) : Nat → Int := fun j => if j < n then x j else 0
theorem wd_dg {x : Nat → Int} (h : Dg x) (n : Nat) : Dg (wd x n) := by
  intro j
  unfold wd
  split
  · exact h j
  · omega
theorem wd_V (x : Nat → Int) (n d : Nat) : V (wd x n) (n + d) = V x n := by
  induction d with
  | zero => exact V_congr fun j hj => by unfold wd; rw [if_pos (by omega)]
  | succ d ih => rw [← Nat.add_assoc, V_succ, ih]; unfold wd; rw [if_neg (by omega)]; omega
end Go.Proofs.YtkhchaoehlefdaaDoor
