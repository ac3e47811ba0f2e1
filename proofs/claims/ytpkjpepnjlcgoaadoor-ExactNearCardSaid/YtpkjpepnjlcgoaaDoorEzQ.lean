/- Signum, Quotient, Wide, of ratios of any length. -/
import Derived.Test.YtpkjpepnjlcgoaaDoorEzP
set_option linter.unusedVariables false
set_option linter.unusedSimpArgs false
namespace Go.Proofs.YtpkjpepnjlcgoaaDoor
open Go.RowKit

theorem sgn_parts (p q : Int) : IntKind.i64.wrap (ord p 0 * ord q 0) = ord (tP p q) 0 := by
  have e : ord p 0 * ord q 0 = ord (tP p q) 0 := by
    unfold tP
    rcases Int.lt_trichotomy q 0 with h | h | h
    · rw [if_neg (by omega), if_pos h, ord_lt h]
      rcases Int.lt_trichotomy p 0 with g | g | g
      · rw [ord_lt g, ord_gt (show -p > 0 by omega)]; rfl
      · rw [ord_eq g, ord_eq (show -p = 0 by omega)]; rfl
      · rw [ord_gt g, ord_lt (show -p < 0 by omega)]; rfl
    · rw [if_pos h, ord_eq h, Int.mul_zero, ord_eq rfl]
    · rw [if_neg (by omega), if_neg (by omega), ord_gt h, Int.mul_one]
  rw [e]
  rcases ord_cases (tP p q) 0 with h | h | h <;> rw [h] <;> rfl

set_option maxHeartbeats 1600000 in
theorem Signum_any (u : Value) (n m : Nat) (p q : Int) (w : World) (hu : AR w u n m p q) (hn : n ≤ 1000000) (hm : m ≤ 1000000) :
    Calls Tryd.prog 26 #[u] w fun e w' => e = .returned (.int .i64 (ord (tP p q) 0)) ∧ Below w.heap.size w w' := by
  obtain ⟨c0, c1, c2, c3, rfl, hp, hq⟩ := hu
  obtain ⟨g, a, c, e⟩ := hp.form
  obtain ⟨g', a', c', e'⟩ := hq.form
  simp only [Value.agg.injEq, Array.mk.injEq, List.cons.injEq, and_true] at e e'
  obtain ⟨rfl, rfl⟩ := e
  obtain ⟨rfl, rfl⟩ := e'
  have BW := Lib.hid (show Below w.heap.size w (w.alloc (.cells #[.bool g, .slice a n c, .bool g', .slice a' m c'] 26)) from Below.alloc' (Below.refl _ _) _)
  have BX := Box4.new' (w := w) (b := w.heap.size) rfl (g := g) (a := a) (n := n) (c := c) (g' := g') (a' := a') (n' := m) (c' := c')
  have Vx := Lib.hid (RV.new (w := w) (g := g) (a := a) (n := n) (c := c) (g' := g') (a' := a') (n' := m) (c' := c') (p := p) (q := q) ⟨_, _, _, _, rfl, hp, hq⟩)
  have HP := Lib.hid hp
  have HQ := Lib.hid hq
  have hw := sgn_parts p q
  clear hp hq BX
  go_enter Tryd.func26, Tryd.ntmps26
  go_wp2_with fail
  refine wp_at (fun W => Below w.heap.size w W ∧ RV W w.heap.size g a n c g' a' m c' p q) ⟨BW.out, Vx.out⟩ ?_
  rintro w1 ⟨hB, hV⟩
  have HB := Lib.hid hB
  have V1 := Lib.hid hV
  clear hB hV BW Vx
  have M := Lib.hid (show ∀ w', Below w1.heap.size w1 w' → w'.cell? ⟨w.heap.size, 0, none⟩ = some (.bool g) ∧ w'.cell? ⟨w.heap.size, 1, none⟩ = some (.slice a n c) ∧ w'.cell? ⟨w.heap.size, 2, none⟩ = some (.bool g') ∧ w'.cell? ⟨w.heap.size, 3, none⟩ = some (.slice a' m c') from fun w' h => ⟨(V1.out.below h).1, (V1.out.below h).2.1, (V1.out.below h).2.2.1, (V1.out.below h).2.2.2.1⟩)
  obtain ⟨o0, o1, o2, o3, o4, _⟩ := V1.out
  have A1 := Lib.hid (fun W (h : Below w.heap.size w W) => sign_is (.agg #[.bool g, .slice a n c]) n p (ord p 0) W (HP.out.below h) (by omega) rfl)
  have A2 := Lib.hid (fun W (h : Below w.heap.size w W) => sign_is (.agg #[.bool g', .slice a' m c']) m q (ord q 0) W (HQ.out.below h) (by omega) rfl)
  have D1 := Lib.hid (Below.drew' (Below.refl w1.heap.size w1))
  go_region_held3 (fun w' => w'.cell? ⟨w.heap.size, 0, none⟩ = some (.bool g) ∧ w'.cell? ⟨w.heap.size, 1, none⟩ = some (.slice a n c) ∧ w'.cell? ⟨w.heap.size, 2, none⟩ = some (.bool g') ∧ w'.cell? ⟨w.heap.size, 3, none⟩ = some (.slice a' m c'))
    (first | (with_reducible exact M.out _ D1.out) | (with_reducible exact M.out _ T0.out) | (with_reducible exact M.out _ T1.out))
    (first
    | (go_at_call 9; ((with_reducible refine (A1.out _ (Below.up HB.out D1.out)).mono ?_); rintro e w2 ⟨rfl, hB⟩; have T0 := Lib.hid (Below.up D1.out hB); clear hB))
    | (go_at_call 9; ((with_reducible refine (A2.out _ (Below.up HB.out T0.out)).mono ?_); rintro e w3 ⟨rfl, hB⟩; have T1 := Lib.hid (Below.up T0.out hB); clear hB)))
  go_wp2_with fail
  go_ret
  exact ⟨rfl, Below.up HB.out T1.out⟩

/-- What Wide gives. -/
def WideP (n m : Nat) (w : World) (e : Ending) (w' : World) : Prop := (∃ L : Nat, e = .returned (.int .i64 (L : Int)) ∧ L = max n m) ∧ Below w.heap.size w w'
/-- The length of a ratio. -/
theorem Wide_any (u : Value) (n m : Nat) (p q : Int) (w : World) (hu : AR w u n m p q) :
    Calls Tryd.prog 7 #[u] w (WideP n m w) := by
  obtain ⟨g, a, c, g', a', c', rfl⟩ := hu.form
  clear hu
  by_cases h : m ≤ n
  · have h' : (m : Int) ≤ (n : Int) := by omega
    go_enter Tryd.func7, Tryd.ntmps7
    go_wp2_with fail
    go_ret
    exact ⟨⟨n, ret_int (by omega), by omega⟩, (by repeat (first | exact Below.refl _ _ | exact Nat.le_refl _ | (apply Below.alloc) | (refine Below.setCell ?_ (by first | exact Nat.le_refl _ | (simp <;> omega)) _) | (simp <;> omega)))⟩
  · have h' : ¬ (m : Int) ≤ (n : Int) := by omega
    go_enter Tryd.func7, Tryd.ntmps7
    go_wp2_with fail
    go_ret
    exact ⟨⟨m, ret_int (by omega), by omega⟩, (by repeat (first | exact Below.refl _ _ | exact Nat.le_refl _ | (apply Below.alloc) | (refine Below.setCell ?_ (by first | exact Nat.le_refl _ | (simp <;> omega)) _) | (simp <;> omega)))⟩

theorem quot_frac {X Y p q : Int} (hp : p ≠ 0) (hq : q ≠ 0) : 0 < tP p q * ord (tP p q) 0 ∧ ∀ t, X * tP q p * (t * (tP p q * ord (tP p q) 0)) = X * ord (tP p q) 0 * tQ q * (t * tQ p) := by
  unfold tP tQ
  rcases Int.lt_or_lt_of_ne hp with h | h <;> rcases Int.lt_or_lt_of_ne hq with g | g
  · rw [if_neg hq, if_pos g, if_neg hp, if_pos h, if_neg hq, if_pos g, if_neg hp, if_pos h, ord_gt (show -p > 0 by omega)]
    exact ⟨by omega, fun t => by grind⟩
  · rw [if_neg hq, if_neg (by omega), if_neg hp, if_pos h, if_neg hq, if_neg (by omega), if_neg hp, if_pos h, ord_lt h]
    exact ⟨by omega, fun t => by grind⟩
  · rw [if_neg hq, if_pos g, if_neg hp, if_neg (by omega), if_neg hq, if_pos g, if_neg hp, if_neg (by omega), ord_lt (show -p < 0 by omega)]
    exact ⟨by omega, fun t => by grind⟩
  · rw [if_neg hq, if_neg (by omega), if_neg hp, if_neg (by omega), if_neg hq, if_neg (by omega), if_neg hp, if_neg (by omega), ord_gt (show p > 0 by omega)]
    exact ⟨by omega, fun t => by grind⟩

end Go.Proofs.YtpkjpepnjlcgoaaDoor
