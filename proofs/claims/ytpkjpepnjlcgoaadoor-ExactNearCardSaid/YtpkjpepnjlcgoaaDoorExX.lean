/- equal, and how order goes with sums and products. -/
import Derived.Test.YtpkjpepnjlcgoaaDoorExW
import Derived.Deep.RegionHeld3
set_option linter.unusedVariables false
set_option linter.unusedSimpArgs false
namespace Go.Proofs.YtpkjpepnjlcgoaaDoor
open Go.RowKit

theorem ord_add (p q r : Int) : ord (p + r) (q + r) = ord p q := by
  rcases Int.lt_trichotomy p q with h | h | h
  · rw [ord_lt h, ord_lt (by omega)]
  · rw [ord_eq h, ord_eq (by omega)]
  · rw [ord_gt h, ord_gt (by omega)]
theorem ord_swap (p q : Int) : ord q p = - ord p q := by
  rcases Int.lt_trichotomy p q with h | h | h
  · rw [ord_lt h, ord_gt h]; rfl
  · rw [ord_eq h, ord_eq h.symm]; rfl
  · rw [ord_lt h, ord_gt h]
theorem ord_mul (p q r : Int) : ord (p * r) (q * r) = ord p q * ord r 0 := by
  rcases Int.lt_trichotomy r 0 with h | h | h
  · rw [ord_lt h]
    rcases Int.lt_trichotomy p q with g | g | g
    · rw [ord_lt g, ord_gt (Int.mul_lt_mul_of_neg_right g h)]; rfl
    · rw [ord_eq g, ord_eq (by rw [g])]; rfl
    · rw [ord_gt g, ord_lt (Int.mul_lt_mul_of_neg_right g h)]; rfl
  · subst h
    rw [ord_eq (a := 0) (b := 0) rfl, Int.mul_zero, Int.mul_zero, Int.mul_zero, ord_eq rfl]
  · rw [ord_gt h, Int.mul_one]
    rcases Int.lt_trichotomy p q with g | g | g
    · rw [ord_lt g, ord_lt (Int.mul_lt_mul_of_pos_right g h)]
    · rw [ord_eq g, ord_eq (by rw [g])]
    · rw [ord_gt g, ord_gt (Int.mul_lt_mul_of_pos_right g h)]
theorem ord_range (p q : Int) : -1 ≤ ord p q ∧ ord p q ≤ 1 := by
  rcases Int.lt_trichotomy p q with h | h | h
  · rw [ord_lt h]; omega
  · rw [ord_eq h]; omega
  · rw [ord_gt h]; omega

theorem ord_cases (p q : Int) : ord p q = -1 ∨ ord p q = 0 ∨ ord p q = 1 := by have := ord_range p q; omega
theorem ord_wrap (p q r : Int) : IntKind.i64.wrap (ord p q * ord r 0) = ord p q * ord r 0 := by
  rcases ord_cases p q with h | h | h <;> rcases ord_cases r 0 with g | g | g <;> (rw [h, g]; rfl)
theorem ord_wrapn (p q : Int) : IntKind.i64.wrap (- ord p q) = - ord p q := by
  rcases ord_cases p q with h | h | h <;> (rw [h]; rfl)

set_option maxHeartbeats 800000 in
theorem equal_true (u v : Value) (n m : Nat) (p q : Int) (w : World) (hu : AI w u n p) (hv : AI w v m q) (hn : n ≤ 1000000000) (hm : m ≤ 1000000000) (hpq : p = q) :
    Calls Tryd.prog 13 #[u, v] w fun e w' => e = .returned (.bool true) ∧ Below w.heap.size w w' := by
  obtain ⟨g, a, c, rfl⟩ := hu.form
  obtain ⟨g', a', c', rfl⟩ := hv.form
  have HU := Lib.hid hu
  have HV := Lib.hid hv
  have HO := Lib.hid (ord_eq hpq)
  clear hu hv hpq
  go_enter Tryd.func13, Tryd.ntmps13
  go_wp2_with fail
  refine (Cmp_any _ _ n m p q _ (HU.out.below (by repeat (first | exact Below.refl _ _ | exact Nat.le_refl _ | (apply Below.alloc) | (simp <;> omega)))) (HV.out.below (by repeat (first | exact Below.refl _ _ | exact Nat.le_refl _ | (apply Below.alloc) | (simp <;> omega)))) hn hm).mono ?_
  rintro e w1 ⟨rfl, hB⟩
  rw [HO.out]
  have HB := Lib.hid (Below.up (u := w) (by repeat (first | exact Below.refl _ _ | exact Nat.le_refl _ | (apply Below.alloc) | (simp <;> omega))) hB)
  clear hB
  go_wp2_with fail
  go_ret
  exact ⟨rfl, HB.out⟩
theorem cmp_is (u v : Value) (n m : Nat) (p q o : Int) (w : World) (hu : AI w u n p) (hv : AI w v m q) (hn : n ≤ 1000000000) (hm : m ≤ 1000000000) (ho : ord p q = o) :
    Calls Tryd.prog 29 #[u, v] w fun e w' => e = .returned (.int .i64 o) ∧ Below w.heap.size w w' := ho ▸ Cmp_any u v n m p q w hu hv hn hm
theorem sign_is (u : Value) (n : Nat) (p o : Int) (w : World) (hu : AI w u n p) (hn : n ≤ 1000000000) (ho : ord p 0 = o) :
    Calls Tryd.prog 9 #[u] w fun e w' => e = .returned (.int .i64 o) ∧ Below w.heap.size w w' := ho ▸ Sign_any u n p w hu hn
/-- An integer is returned. -/
def Gi (w : World) (z : Int) (n : Nat) (e : Ending) (w' : World) : Prop := ∃ r k, e = .returned r ∧ AI w' r k z ∧ k ≤ n ∧ Below w.heap.size w w'
theorem add_gi (u v : Value) (n m : Nat) (p q : Int) (w : World) (hu : AI w u n p) (hv : AI w v m q) (hn : n ≤ 1000) (hm : m ≤ 1000) :
    Calls Tryd.prog 49 #[u, v] w (Gi w (p + q) (max n m + 1)) :=
  (Add_any u v n m p q w hu hv (by omega) (by omega)).mono fun _ _ ⟨r, k, h1, h2, h3, h4⟩ => ⟨r, k, h1, h2.ai, h3, h4⟩
theorem sub_gi (u v : Value) (n m : Nat) (p q : Int) (w : World) (hu : AI w u n p) (hv : AI w v m q) (hn : n ≤ 1000) (hm : m ≤ 1000) :
    Calls Tryd.prog 48 #[u, v] w (Gi w (p - q) (max n m + 1)) :=
  (Sub_any u v n m p q w hu hv (by omega) (by omega)).mono fun _ _ ⟨r, k, h1, h2, h3, h4⟩ => ⟨r, k, h1, h2.ai, h3, h4⟩
theorem mul_gi (u v : Value) (n m : Nat) (p q : Int) (w : World) (hu : AI w u n p) (hv : AI w v m q) (hn : n ≤ 1000) (hm : m ≤ 1000) (h : n < 40 ∨ m < 40) :
    Calls Tryd.prog 10 #[u, v] w (Gi w (p * q) (n + m)) :=
  (Mul_any u v n m p q w hu hv (by omega) (by omega) h).mono fun _ _ ⟨r, k, h1, h2, h3, h4⟩ => ⟨r, k, h1, h2.ai, h3, h4⟩
theorem neg_gi (u : Value) (n : Nat) (p : Int) (w : World) (hu : AI w u n p) (hn : n ≤ 1000) :
    Calls Tryd.prog 53 #[u] w (Gi w (-p) n) :=
  (Neg_any u n p w hu (by omega)).mono fun _ _ ⟨r, k, h1, h2, h3, h4⟩ => ⟨r, k, h1, h2.ai, h3, h4⟩
end Go.Proofs.YtpkjpepnjlcgoaaDoor
