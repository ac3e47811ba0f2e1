/- Contracts: Div of any integers. -/
import Derived.Test.YtpkjpepnjlcgoaaDoorEzG
import Derived.Test.YtpkjpepnjlcgoaaDoorExW
set_option linter.unusedVariables false
set_option linter.unusedSimpArgs false
namespace Go.Proofs.YtpkjpepnjlcgoaaDoor
open Go.RowKit

/-- A quotient, rounded down, and its rest. -/
def DvS (p q Q R : Int) : Prop := Q * q + R = p ∧ (0 < q → 0 ≤ R ∧ R < q) ∧ (q < 0 → q < R ∧ R ≤ 0)
theorem dv_plain {b1 b2 : Bool} {A D p q : Int} (hD : 0 < D) (hA : 0 ≤ A) (hp : sg b1 A = p) (hq : sg b2 D = q) (h : (b1 != b2) = false ∨ A % D = 0) : DvS p q (sg (b1 != b2) (A / D)) (sg b2 (A % D)) := by
  have e := Int.mul_ediv_add_emod A D
  have r0 := Int.emod_nonneg A (show D ≠ 0 by omega)
  have r1 := Int.emod_lt_of_pos A hD
  rw [Int.mul_comm] at e
  generalize A / D = t at *
  generalize A % D = r at *
  subst hp
  subst hq
  cases b1 <;> cases b2 <;> simp [sg, DvS] at h ⊢ <;> (try subst h) <;> (try simp at e) <;> (try subst e) <;> refine ⟨?_, ?_⟩ <;> first | omega | (simp only [Int.neg_mul, Int.mul_neg, Int.neg_neg]; omega) | grind
theorem dv_mixed {b1 b2 : Bool} {A D p q : Int} (hD : 0 < D) (hA : 0 ≤ A) (hp : sg b1 A = p) (hq : sg b2 D = q) (h : (b1 != b2) = true) (hr : A % D ≠ 0) : DvS p q (sg true (A / D + 1)) (sg b2 (D - A % D)) := by
  have e := Int.mul_ediv_add_emod A D
  have r0 := Int.emod_nonneg A (show D ≠ 0 by omega)
  have r1 := Int.emod_lt_of_pos A hD
  rw [Int.mul_comm] at e
  generalize A / D = t at *
  generalize A % D = r at *
  subst hp
  subst hq
  have e2 : (t + 1) * D = t * D + D := by rw [Int.add_mul, Int.one_mul]
  cases b1 <;> cases b2 <;> simp [sg, DvS] at h ⊢ <;> refine ⟨?_, ?_⟩ <;> first | omega | (simp only [Int.neg_mul, Int.mul_neg, Int.neg_neg]; omega) | grind

/-- What Div gives, of a divisor other than 0. -/
def DvA (w : World) (p q : Int) (n m : Nat) (e : Ending) (w' : World) : Prop :=
  ∃ r s k j Q R, e = .returned (.tuple #[r, s, .int .i64 0]) ∧ RI w' w.heap.size r k Q ∧ RI w' w.heap.size s j R ∧ DvS p q Q R ∧ k ≤ n + 2 ∧ j ≤ m ∧ Below w.heap.size w w'

set_option maxRecDepth 100000 in
set_option maxHeartbeats 1600000 in
theorem Div_mixed_ft (ng ng2 : Bool) (a a2 : Option Addr) (n m cap cap2 k k2 : Nat) (A D p q : Int) (w : World) (N1 : Hid (Nr w (.slice a k cap) k A)) (N2 : Hid (Nr w (.slice a2 k2 cap2) k2 D)) (hk : k ≤ n) (hk2 : k2 ≤ m) (hn : n ≤ 100000) (hm : m ≤ 100000) (HQ : Hid (0 < D)) (HP : Hid (sg false A = p)) (HP2 : Hid (sg true D = q))
    (S1 : Hid (∀ W, Below w.heap.size w W → Calls Tryd.prog 33 #[.agg #[.bool ng, .slice a n cap]] W fun e w' => e = .returned (.tuple #[.bool false, .slice a k cap]) ∧ w' = W.alloc (.cells #[.bool ng, .slice a n cap] 24)))
    (S2 : Hid (∀ W, Below w.heap.size w W → Calls Tryd.prog 33 #[.agg #[.bool ng2, .slice a2 m cap2]] W fun e w' => e = .returned (.tuple #[.bool true, .slice a2 k2 cap2]) ∧ w' = W.alloc (.cells #[.bool ng2, .slice a2 m cap2] 24)))
     (hr : A % D ≠ 0) :
    Calls Tryd.prog 30 #[.agg #[.bool ng, .slice a n cap], .agg #[.bool ng2, .slice a2 m cap2]] w (DvA w p q n m) := by
  have hk0 : ¬ (k2 = 0) := fun h => by have := N2.out.zero.1 h; have := HQ.out; omega
  have HL := Lib.hid (show 0 ≤ A % D ∧ A % D < D from ⟨Int.emod_nonneg A (by have := HQ.out; omega), Int.emod_lt_of_pos A HQ.out⟩)
  have HF := Lib.hid (dv_mixed HQ.out N1.out.nonneg HP.out HP2.out rfl hr)
  have HR := Lib.hid hr
  clear hr
  go_enter Tryd.func30, Tryd.ntmps30
  go_wp2_with fail
  refine (S1.out _ (by repeat (first | exact Below.refl _ _ | exact Nat.le_refl _ | (apply Below.alloc) | (refine Below.setCell ?_ (by first | exact Nat.le_refl _ | (simp <;> omega)) _) | (simp <;> omega)))).mono ?_
  rintro e w1 ⟨rfl, rfl⟩
  go_wp2_with fail
  refine (S2.out _ (by repeat (first | exact Below.refl _ _ | exact Nat.le_refl _ | (apply Below.alloc) | (refine Below.setCell ?_ (by first | exact Nat.le_refl _ | (simp <;> omega)) _) | (simp <;> omega)))).mono ?_
  rintro e w1 ⟨rfl, rfl⟩
  go_wp2_with fail
  refine (divide_any 900000 (Nat.le_refl _) _ _ _ _ _ _ _ (N1.out.below (by repeat (first | exact Below.refl _ _ | exact Nat.le_refl _ | (apply Below.alloc) | (refine Below.setCell ?_ (by first | exact Nat.le_refl _ | (simp <;> omega)) _) | (simp <;> omega)))) (N2.out.below (by repeat (first | exact Below.refl _ _ | exact Nat.le_refl _ | (apply Below.alloc) | (refine Below.setCell ?_ (by first | exact Nat.le_refl _ | (simp <;> omega)) _) | (simp <;> omega)))) HQ.out (by omega) (by omega)).mono ?_
  rintro e w3 ⟨r1, s1, k3, j3, rfl, hR1, hS1, hk3, hj3, hB⟩
  obtain ⟨a3, cap3, rfl⟩ := hR1.form
  obtain ⟨a4, cap4, rfl⟩ := hS1.form
  have hj4 : j3 ≤ k2 := hS1.nr.len (by have := N2.out.lt; have := HL.out; omega)
  have hj0 : ¬ (j3 = 0) := fun h => HR.out (hS1.nr.zero.1 h)
  have hj1 : 0 < j3 := by omega
  have hj2 : (0 : Int) < (j3 : Int) := by omega
  have R1 := Lib.hid hR1
  have S3 := Lib.hid hS1
  have B0 := Lib.hid hB
  have BT := Lib.hid (Below.up (u := w) (by repeat (first | exact Below.refl _ _ | exact Nat.le_refl _ | (apply Below.alloc) | (refine Below.setCell ?_ (by first | exact Nat.le_refl _ | (simp <;> omega)) _) | (simp <;> omega))) hB)
  clear hR1 hS1 hB
  go_wp2_with fail
  refine (ofWord_any 1 (by omega) _).mono ?_
  rintro e w4 ⟨v1, n1, rfl, hO, hn1, hB⟩
  have O1 := Lib.hid hO
  have B1 := Lib.hid hB
  clear hO hB
  go_wp2_with fail
  refine (sum_nr (R1.out.nr.below B1.out) O1.out.nr (by omega) (by omega)).mono ?_
  rintro e w5 ⟨v2, n2, rfl, hO, hn2, hB⟩
  have hl2 : n2 ≤ k3 + 2 := by
    have h1 := O1.out.nr.len (k := 1) (by decide)
    omega
  have O2 := Lib.hid hO
  have B2 := Lib.hid hB
  clear hO hB
  go_wp2_with fail
  refine (difference_nr (N2.out.below (Below.up BT.out (Below.up B1.out B2.out))) (S3.out.nr.below (Below.up B1.out B2.out)) (by omega) (by have := HL.out; omega)).mono ?_
  rintro e w6 ⟨v3, n3, rfl, hO, hn3, hB⟩
  have O3 := Lib.hid hO
  have B3 := Lib.hid hB
  clear hO hB
  go_wp2_with fail
  refine (signed_nr true (O2.out.below B3.out) (by omega)).mono ?_
  rintro e w7 ⟨v4, rfl, hO, hB⟩
  have O4 := Lib.hid hO
  have B4 := Lib.hid hB
  clear hO hB
  go_wp2_with fail
  refine (signed_nr true (O3.out.below B4.out) (by omega)).mono ?_
  rintro e w8 ⟨v5, rfl, hO, hB⟩
  have HZ0 := Lib.hid B0.out.size
  have HR1 := Lib.hid ((O4.out.below hB).mono (B1.out.size))
  have HR2 := Lib.hid (hO.mono (Nat.le_trans B1.out.size B2.out.size))
  have BT2 := Lib.hid (Below.up B0.out (Below.up B1.out (Below.up B2.out (Below.up B3.out (Below.up B4.out hB)))))
  clear hO hB
  obtain ⟨ng5, a5, cap5, rfl⟩ := HR1.out.form
  obtain ⟨ng6, a6, cap6, rfl⟩ := HR2.out.form
  obtain ⟨hcc, hff⟩ := bcell BT2.out
  have hz := HZ0.out
  simp at hz
  have hd1 : w.heap.size + 1 + 1 < w3.heap.size := by omega
  have hd2 : w.heap.size + 1 + 1 + 1 < w3.heap.size := by omega
  have HD1 := Lib.hid hd1
  have HD2 := Lib.hid hd2
  have hb3 : w.heap.size ≤ w3.heap.size := by omega
  clear hz
  go_wp2_with fail
  exact bodyPost_ret (v := .tuple #[.agg #[.bool ng5, .slice a5 n2 cap5], .agg #[.bool ng6, .slice a6 n3 cap6], .int .i64 0]) (by simp [results, Tryd.results30, go_sem, hcc]) rfl
    ⟨_, _, n2, n3, _, _, rfl, (((((HR1.out).setOther (a := ⟨w.heap.size + 1 + 1, 0, none⟩) HD1.out _).setOther (a := ⟨w.heap.size + 1 + 1, 1, none⟩) HD1.out _).setOther (a := ⟨w.heap.size + 1 + 1 + 1, 0, none⟩) HD2.out _).setOther (a := ⟨w.heap.size + 1 + 1 + 1, 1, none⟩) HD2.out _).mono hb3, (((((HR2.out).setOther (a := ⟨w.heap.size + 1 + 1, 0, none⟩) HD1.out _).setOther (a := ⟨w.heap.size + 1 + 1, 1, none⟩) HD1.out _).setOther (a := ⟨w.heap.size + 1 + 1 + 1, 0, none⟩) HD2.out _).setOther (a := ⟨w.heap.size + 1 + 1 + 1, 1, none⟩) HD2.out _).mono hb3, HF.out, by omega, by omega, (((((Below.up (u := w) (by repeat (first | exact Below.refl _ _ | exact Nat.le_refl _ | (apply Below.alloc) | (refine Below.setCell ?_ (by first | exact Nat.le_refl _ | (simp <;> omega)) _) | (simp <;> omega))) BT2.out).setCell (p := ⟨w.heap.size + 1 + 1, 0, none⟩) (by show w.heap.size ≤ w.heap.size + 1 + 1; omega) _).setCell (p := ⟨w.heap.size + 1 + 1, 1, none⟩) (by show w.heap.size ≤ w.heap.size + 1 + 1; omega) _).setCell (p := ⟨w.heap.size + 1 + 1 + 1, 0, none⟩) (by show w.heap.size ≤ w.heap.size + 1 + 1 + 1; omega) _).setCell (p := ⟨w.heap.size + 1 + 1 + 1, 1, none⟩) (by show w.heap.size ≤ w.heap.size + 1 + 1 + 1; omega) _)⟩

set_option maxRecDepth 100000 in
set_option maxHeartbeats 1600000 in
theorem Div_mixed_tf (ng ng2 : Bool) (a a2 : Option Addr) (n m cap cap2 k k2 : Nat) (A D p q : Int) (w : World) (N1 : Hid (Nr w (.slice a k cap) k A)) (N2 : Hid (Nr w (.slice a2 k2 cap2) k2 D)) (hk : k ≤ n) (hk2 : k2 ≤ m) (hn : n ≤ 100000) (hm : m ≤ 100000) (HQ : Hid (0 < D)) (HP : Hid (sg true A = p)) (HP2 : Hid (sg false D = q))
    (S1 : Hid (∀ W, Below w.heap.size w W → Calls Tryd.prog 33 #[.agg #[.bool ng, .slice a n cap]] W fun e w' => e = .returned (.tuple #[.bool true, .slice a k cap]) ∧ w' = W.alloc (.cells #[.bool ng, .slice a n cap] 24)))
    (S2 : Hid (∀ W, Below w.heap.size w W → Calls Tryd.prog 33 #[.agg #[.bool ng2, .slice a2 m cap2]] W fun e w' => e = .returned (.tuple #[.bool false, .slice a2 k2 cap2]) ∧ w' = W.alloc (.cells #[.bool ng2, .slice a2 m cap2] 24)))
     (hr : A % D ≠ 0) :
    Calls Tryd.prog 30 #[.agg #[.bool ng, .slice a n cap], .agg #[.bool ng2, .slice a2 m cap2]] w (DvA w p q n m) := by
  have hk0 : ¬ (k2 = 0) := fun h => by have := N2.out.zero.1 h; have := HQ.out; omega
  have HL := Lib.hid (show 0 ≤ A % D ∧ A % D < D from ⟨Int.emod_nonneg A (by have := HQ.out; omega), Int.emod_lt_of_pos A HQ.out⟩)
  have HF := Lib.hid (dv_mixed HQ.out N1.out.nonneg HP.out HP2.out rfl hr)
  have HR := Lib.hid hr
  clear hr
  go_enter Tryd.func30, Tryd.ntmps30
  go_wp2_with fail
  refine (S1.out _ (by repeat (first | exact Below.refl _ _ | exact Nat.le_refl _ | (apply Below.alloc) | (refine Below.setCell ?_ (by first | exact Nat.le_refl _ | (simp <;> omega)) _) | (simp <;> omega)))).mono ?_
  rintro e w1 ⟨rfl, rfl⟩
  go_wp2_with fail
  refine (S2.out _ (by repeat (first | exact Below.refl _ _ | exact Nat.le_refl _ | (apply Below.alloc) | (refine Below.setCell ?_ (by first | exact Nat.le_refl _ | (simp <;> omega)) _) | (simp <;> omega)))).mono ?_
  rintro e w1 ⟨rfl, rfl⟩
  go_wp2_with fail
  refine (divide_any 900000 (Nat.le_refl _) _ _ _ _ _ _ _ (N1.out.below (by repeat (first | exact Below.refl _ _ | exact Nat.le_refl _ | (apply Below.alloc) | (refine Below.setCell ?_ (by first | exact Nat.le_refl _ | (simp <;> omega)) _) | (simp <;> omega)))) (N2.out.below (by repeat (first | exact Below.refl _ _ | exact Nat.le_refl _ | (apply Below.alloc) | (refine Below.setCell ?_ (by first | exact Nat.le_refl _ | (simp <;> omega)) _) | (simp <;> omega)))) HQ.out (by omega) (by omega)).mono ?_
  rintro e w3 ⟨r1, s1, k3, j3, rfl, hR1, hS1, hk3, hj3, hB⟩
  obtain ⟨a3, cap3, rfl⟩ := hR1.form
  obtain ⟨a4, cap4, rfl⟩ := hS1.form
  have hj4 : j3 ≤ k2 := hS1.nr.len (by have := N2.out.lt; have := HL.out; omega)
  have hj0 : ¬ (j3 = 0) := fun h => HR.out (hS1.nr.zero.1 h)
  have hj1 : 0 < j3 := by omega
  have hj2 : (0 : Int) < (j3 : Int) := by omega
  have R1 := Lib.hid hR1
  have S3 := Lib.hid hS1
  have B0 := Lib.hid hB
  have BT := Lib.hid (Below.up (u := w) (by repeat (first | exact Below.refl _ _ | exact Nat.le_refl _ | (apply Below.alloc) | (refine Below.setCell ?_ (by first | exact Nat.le_refl _ | (simp <;> omega)) _) | (simp <;> omega))) hB)
  clear hR1 hS1 hB
  go_wp2_with fail
  refine (ofWord_any 1 (by omega) _).mono ?_
  rintro e w4 ⟨v1, n1, rfl, hO, hn1, hB⟩
  have O1 := Lib.hid hO
  have B1 := Lib.hid hB
  clear hO hB
  go_wp2_with fail
  refine (sum_nr (R1.out.nr.below B1.out) O1.out.nr (by omega) (by omega)).mono ?_
  rintro e w5 ⟨v2, n2, rfl, hO, hn2, hB⟩
  have hl2 : n2 ≤ k3 + 2 := by
    have h1 := O1.out.nr.len (k := 1) (by decide)
    omega
  have O2 := Lib.hid hO
  have B2 := Lib.hid hB
  clear hO hB
  go_wp2_with fail
  refine (difference_nr (N2.out.below (Below.up BT.out (Below.up B1.out B2.out))) (S3.out.nr.below (Below.up B1.out B2.out)) (by omega) (by have := HL.out; omega)).mono ?_
  rintro e w6 ⟨v3, n3, rfl, hO, hn3, hB⟩
  have O3 := Lib.hid hO
  have B3 := Lib.hid hB
  clear hO hB
  go_wp2_with fail
  refine (signed_nr true (O2.out.below B3.out) (by omega)).mono ?_
  rintro e w7 ⟨v4, rfl, hO, hB⟩
  have O4 := Lib.hid hO
  have B4 := Lib.hid hB
  clear hO hB
  go_wp2_with fail
  refine (signed_nr false (O3.out.below B4.out) (by omega)).mono ?_
  rintro e w8 ⟨v5, rfl, hO, hB⟩
  have HZ0 := Lib.hid B0.out.size
  have HR1 := Lib.hid ((O4.out.below hB).mono (B1.out.size))
  have HR2 := Lib.hid (hO.mono (Nat.le_trans B1.out.size B2.out.size))
  have BT2 := Lib.hid (Below.up B0.out (Below.up B1.out (Below.up B2.out (Below.up B3.out (Below.up B4.out hB)))))
  clear hO hB
  obtain ⟨ng5, a5, cap5, rfl⟩ := HR1.out.form
  obtain ⟨ng6, a6, cap6, rfl⟩ := HR2.out.form
  obtain ⟨hcc, hff⟩ := bcell BT2.out
  have hz := HZ0.out
  simp at hz
  have hd1 : w.heap.size + 1 + 1 < w3.heap.size := by omega
  have hd2 : w.heap.size + 1 + 1 + 1 < w3.heap.size := by omega
  have HD1 := Lib.hid hd1
  have HD2 := Lib.hid hd2
  have hb3 : w.heap.size ≤ w3.heap.size := by omega
  clear hz
  go_wp2_with fail
  exact bodyPost_ret (v := .tuple #[.agg #[.bool ng5, .slice a5 n2 cap5], .agg #[.bool ng6, .slice a6 n3 cap6], .int .i64 0]) (by simp [results, Tryd.results30, go_sem, hcc]) rfl
    ⟨_, _, n2, n3, _, _, rfl, (((((HR1.out).setOther (a := ⟨w.heap.size + 1 + 1, 0, none⟩) HD1.out _).setOther (a := ⟨w.heap.size + 1 + 1, 1, none⟩) HD1.out _).setOther (a := ⟨w.heap.size + 1 + 1 + 1, 0, none⟩) HD2.out _).setOther (a := ⟨w.heap.size + 1 + 1 + 1, 1, none⟩) HD2.out _).mono hb3, (((((HR2.out).setOther (a := ⟨w.heap.size + 1 + 1, 0, none⟩) HD1.out _).setOther (a := ⟨w.heap.size + 1 + 1, 1, none⟩) HD1.out _).setOther (a := ⟨w.heap.size + 1 + 1 + 1, 0, none⟩) HD2.out _).setOther (a := ⟨w.heap.size + 1 + 1 + 1, 1, none⟩) HD2.out _).mono hb3, HF.out, by omega, by omega, (((((Below.up (u := w) (by repeat (first | exact Below.refl _ _ | exact Nat.le_refl _ | (apply Below.alloc) | (refine Below.setCell ?_ (by first | exact Nat.le_refl _ | (simp <;> omega)) _) | (simp <;> omega))) BT2.out).setCell (p := ⟨w.heap.size + 1 + 1, 0, none⟩) (by show w.heap.size ≤ w.heap.size + 1 + 1; omega) _).setCell (p := ⟨w.heap.size + 1 + 1, 1, none⟩) (by show w.heap.size ≤ w.heap.size + 1 + 1; omega) _).setCell (p := ⟨w.heap.size + 1 + 1 + 1, 0, none⟩) (by show w.heap.size ≤ w.heap.size + 1 + 1 + 1; omega) _).setCell (p := ⟨w.heap.size + 1 + 1 + 1, 1, none⟩) (by show w.heap.size ≤ w.heap.size + 1 + 1 + 1; omega) _)⟩

set_option maxRecDepth 100000 in
set_option maxHeartbeats 1600000 in
theorem Div_even_ft (ng ng2 : Bool) (a a2 : Option Addr) (n m cap cap2 k k2 : Nat) (A D p q : Int) (w : World) (N1 : Hid (Nr w (.slice a k cap) k A)) (N2 : Hid (Nr w (.slice a2 k2 cap2) k2 D)) (hk : k ≤ n) (hk2 : k2 ≤ m) (hn : n ≤ 100000) (hm : m ≤ 100000) (HQ : Hid (0 < D)) (HP : Hid (sg false A = p)) (HP2 : Hid (sg true D = q))
    (S1 : Hid (∀ W, Below w.heap.size w W → Calls Tryd.prog 33 #[.agg #[.bool ng, .slice a n cap]] W fun e w' => e = .returned (.tuple #[.bool false, .slice a k cap]) ∧ w' = W.alloc (.cells #[.bool ng, .slice a n cap] 24)))
    (S2 : Hid (∀ W, Below w.heap.size w W → Calls Tryd.prog 33 #[.agg #[.bool ng2, .slice a2 m cap2]] W fun e w' => e = .returned (.tuple #[.bool true, .slice a2 k2 cap2]) ∧ w' = W.alloc (.cells #[.bool ng2, .slice a2 m cap2] 24)))
     (hr : A % D = 0) :
    Calls Tryd.prog 30 #[.agg #[.bool ng, .slice a n cap], .agg #[.bool ng2, .slice a2 m cap2]] w (DvA w p q n m) := by
  have hk0 : ¬ (k2 = 0) := fun h => by have := N2.out.zero.1 h; have := HQ.out; omega
  have HL := Lib.hid (show 0 ≤ A % D ∧ A % D < D from ⟨Int.emod_nonneg A (by have := HQ.out; omega), Int.emod_lt_of_pos A HQ.out⟩)
  have HF := Lib.hid (dv_plain HQ.out N1.out.nonneg HP.out HP2.out (Or.inr hr))
  simp only [show ((false : Bool) != true) = true from rfl] at HF
  have HR := Lib.hid hr
  clear hr
  go_enter Tryd.func30, Tryd.ntmps30
  go_wp2_with fail
  refine (S1.out _ (by repeat (first | exact Below.refl _ _ | exact Nat.le_refl _ | (apply Below.alloc) | (refine Below.setCell ?_ (by first | exact Nat.le_refl _ | (simp <;> omega)) _) | (simp <;> omega)))).mono ?_
  rintro e w1 ⟨rfl, rfl⟩
  go_wp2_with fail
  refine (S2.out _ (by repeat (first | exact Below.refl _ _ | exact Nat.le_refl _ | (apply Below.alloc) | (refine Below.setCell ?_ (by first | exact Nat.le_refl _ | (simp <;> omega)) _) | (simp <;> omega)))).mono ?_
  rintro e w1 ⟨rfl, rfl⟩
  go_wp2_with fail
  refine (divide_any 900000 (Nat.le_refl _) _ _ _ _ _ _ _ (N1.out.below (by repeat (first | exact Below.refl _ _ | exact Nat.le_refl _ | (apply Below.alloc) | (refine Below.setCell ?_ (by first | exact Nat.le_refl _ | (simp <;> omega)) _) | (simp <;> omega)))) (N2.out.below (by repeat (first | exact Below.refl _ _ | exact Nat.le_refl _ | (apply Below.alloc) | (refine Below.setCell ?_ (by first | exact Nat.le_refl _ | (simp <;> omega)) _) | (simp <;> omega)))) HQ.out (by omega) (by omega)).mono ?_
  rintro e w3 ⟨r1, s1, k3, j3, rfl, hR1, hS1, hk3, hj3, hB⟩
  obtain ⟨a3, cap3, rfl⟩ := hR1.form
  obtain ⟨a4, cap4, rfl⟩ := hS1.form
  have hj4 : j3 ≤ k2 := hS1.nr.len (by have := N2.out.lt; have := HL.out; omega)
  have hj0 : j3 = 0 := hS1.nr.zero.2 HR.out
  subst hj0
  have R1 := Lib.hid hR1
  have S3 := Lib.hid hS1
  have B0 := Lib.hid hB
  have BT := Lib.hid (Below.up (u := w) (by repeat (first | exact Below.refl _ _ | exact Nat.le_refl _ | (apply Below.alloc) | (refine Below.setCell ?_ (by first | exact Nat.le_refl _ | (simp <;> omega)) _) | (simp <;> omega))) hB)
  clear hR1 hS1 hB
  go_wp2_with fail
  refine (signed_nr true R1.out (by omega)).mono ?_
  rintro e w7 ⟨v4, rfl, hO, hB⟩
  have O4 := Lib.hid hO
  have B4 := Lib.hid hB
  clear hO hB
  go_wp2_with fail
  refine (signed_nr true (S3.out.below B4.out) (by omega)).mono ?_
  rintro e w8 ⟨v5, rfl, hO, hB⟩
  have HZ0 := Lib.hid B0.out.size
  have HR1 := Lib.hid ((O4.out.below hB))
  have HR2 := Lib.hid hO
  have BT2 := Lib.hid (Below.up B0.out (Below.up B4.out hB))
  clear hO hB
  obtain ⟨ng5, a5, cap5, rfl⟩ := HR1.out.form
  obtain ⟨ng6, a6, cap6, rfl⟩ := HR2.out.form
  obtain ⟨hcc, hff⟩ := bcell BT2.out
  have hz := HZ0.out
  simp at hz
  have HD1 := Lib.hid (show w.heap.size + 1 + 1 < w.heap.size + 1 + 1 + 1 + 1 + 1 + 1 by omega)
  have HD2 := Lib.hid (show w.heap.size + 1 + 1 + 1 < w.heap.size + 1 + 1 + 1 + 1 + 1 + 1 by omega)
  simp only [World.size_alloc] at HR1 HR2
  have hb3 : w.heap.size ≤ w.heap.size + 1 + 1 + 1 + 1 + 1 + 1 := by omega
  clear hz
  go_wp2_with fail
  exact bodyPost_ret (v := .tuple #[.agg #[.bool ng5, .slice a5 k3 cap5], .agg #[.bool ng6, .slice a6 0 cap6], .int .i64 0]) (by simp [results, Tryd.results30, go_sem, hcc]) rfl
    ⟨_, _, k3, 0, _, _, rfl, (((((HR1.out).setOther (a := ⟨w.heap.size + 1 + 1, 0, none⟩) HD1.out _).setOther (a := ⟨w.heap.size + 1 + 1, 1, none⟩) HD1.out _).setOther (a := ⟨w.heap.size + 1 + 1 + 1, 0, none⟩) HD2.out _).setOther (a := ⟨w.heap.size + 1 + 1 + 1, 1, none⟩) HD2.out _).mono hb3, (((((HR2.out).setOther (a := ⟨w.heap.size + 1 + 1, 0, none⟩) HD1.out _).setOther (a := ⟨w.heap.size + 1 + 1, 1, none⟩) HD1.out _).setOther (a := ⟨w.heap.size + 1 + 1 + 1, 0, none⟩) HD2.out _).setOther (a := ⟨w.heap.size + 1 + 1 + 1, 1, none⟩) HD2.out _).mono hb3, HF.out, by omega, by omega, (((((Below.up (u := w) (by repeat (first | exact Below.refl _ _ | exact Nat.le_refl _ | (apply Below.alloc) | (refine Below.setCell ?_ (by first | exact Nat.le_refl _ | (simp <;> omega)) _) | (simp <;> omega))) BT2.out).setCell (p := ⟨w.heap.size + 1 + 1, 0, none⟩) (by show w.heap.size ≤ w.heap.size + 1 + 1; omega) _).setCell (p := ⟨w.heap.size + 1 + 1, 1, none⟩) (by show w.heap.size ≤ w.heap.size + 1 + 1; omega) _).setCell (p := ⟨w.heap.size + 1 + 1 + 1, 0, none⟩) (by show w.heap.size ≤ w.heap.size + 1 + 1 + 1; omega) _).setCell (p := ⟨w.heap.size + 1 + 1 + 1, 1, none⟩) (by show w.heap.size ≤ w.heap.size + 1 + 1 + 1; omega) _)⟩

set_option maxRecDepth 100000 in
set_option maxHeartbeats 1600000 in
theorem Div_even_tf (ng ng2 : Bool) (a a2 : Option Addr) (n m cap cap2 k k2 : Nat) (A D p q : Int) (w : World) (N1 : Hid (Nr w (.slice a k cap) k A)) (N2 : Hid (Nr w (.slice a2 k2 cap2) k2 D)) (hk : k ≤ n) (hk2 : k2 ≤ m) (hn : n ≤ 100000) (hm : m ≤ 100000) (HQ : Hid (0 < D)) (HP : Hid (sg true A = p)) (HP2 : Hid (sg false D = q))
    (S1 : Hid (∀ W, Below w.heap.size w W → Calls Tryd.prog 33 #[.agg #[.bool ng, .slice a n cap]] W fun e w' => e = .returned (.tuple #[.bool true, .slice a k cap]) ∧ w' = W.alloc (.cells #[.bool ng, .slice a n cap] 24)))
    (S2 : Hid (∀ W, Below w.heap.size w W → Calls Tryd.prog 33 #[.agg #[.bool ng2, .slice a2 m cap2]] W fun e w' => e = .returned (.tuple #[.bool false, .slice a2 k2 cap2]) ∧ w' = W.alloc (.cells #[.bool ng2, .slice a2 m cap2] 24)))
     (hr : A % D = 0) :
    Calls Tryd.prog 30 #[.agg #[.bool ng, .slice a n cap], .agg #[.bool ng2, .slice a2 m cap2]] w (DvA w p q n m) := by
  have hk0 : ¬ (k2 = 0) := fun h => by have := N2.out.zero.1 h; have := HQ.out; omega
  have HL := Lib.hid (show 0 ≤ A % D ∧ A % D < D from ⟨Int.emod_nonneg A (by have := HQ.out; omega), Int.emod_lt_of_pos A HQ.out⟩)
  have HF := Lib.hid (dv_plain HQ.out N1.out.nonneg HP.out HP2.out (Or.inr hr))
  simp only [show ((true : Bool) != false) = true from rfl] at HF
  have HR := Lib.hid hr
  clear hr
  go_enter Tryd.func30, Tryd.ntmps30
  go_wp2_with fail
  refine (S1.out _ (by repeat (first | exact Below.refl _ _ | exact Nat.le_refl _ | (apply Below.alloc) | (refine Below.setCell ?_ (by first | exact Nat.le_refl _ | (simp <;> omega)) _) | (simp <;> omega)))).mono ?_
  rintro e w1 ⟨rfl, rfl⟩
  go_wp2_with fail
  refine (S2.out _ (by repeat (first | exact Below.refl _ _ | exact Nat.le_refl _ | (apply Below.alloc) | (refine Below.setCell ?_ (by first | exact Nat.le_refl _ | (simp <;> omega)) _) | (simp <;> omega)))).mono ?_
  rintro e w1 ⟨rfl, rfl⟩
  go_wp2_with fail
  refine (divide_any 900000 (Nat.le_refl _) _ _ _ _ _ _ _ (N1.out.below (by repeat (first | exact Below.refl _ _ | exact Nat.le_refl _ | (apply Below.alloc) | (refine Below.setCell ?_ (by first | exact Nat.le_refl _ | (simp <;> omega)) _) | (simp <;> omega)))) (N2.out.below (by repeat (first | exact Below.refl _ _ | exact Nat.le_refl _ | (apply Below.alloc) | (refine Below.setCell ?_ (by first | exact Nat.le_refl _ | (simp <;> omega)) _) | (simp <;> omega)))) HQ.out (by omega) (by omega)).mono ?_
  rintro e w3 ⟨r1, s1, k3, j3, rfl, hR1, hS1, hk3, hj3, hB⟩
  obtain ⟨a3, cap3, rfl⟩ := hR1.form
  obtain ⟨a4, cap4, rfl⟩ := hS1.form
  have hj4 : j3 ≤ k2 := hS1.nr.len (by have := N2.out.lt; have := HL.out; omega)
  have hj0 : j3 = 0 := hS1.nr.zero.2 HR.out
  subst hj0
  have R1 := Lib.hid hR1
  have S3 := Lib.hid hS1
  have B0 := Lib.hid hB
  have BT := Lib.hid (Below.up (u := w) (by repeat (first | exact Below.refl _ _ | exact Nat.le_refl _ | (apply Below.alloc) | (refine Below.setCell ?_ (by first | exact Nat.le_refl _ | (simp <;> omega)) _) | (simp <;> omega))) hB)
  clear hR1 hS1 hB
  go_wp2_with fail
  refine (signed_nr true R1.out (by omega)).mono ?_
  rintro e w7 ⟨v4, rfl, hO, hB⟩
  have O4 := Lib.hid hO
  have B4 := Lib.hid hB
  clear hO hB
  go_wp2_with fail
  refine (signed_nr false (S3.out.below B4.out) (by omega)).mono ?_
  rintro e w8 ⟨v5, rfl, hO, hB⟩
  have HZ0 := Lib.hid B0.out.size
  have HR1 := Lib.hid ((O4.out.below hB))
  have HR2 := Lib.hid hO
  have BT2 := Lib.hid (Below.up B0.out (Below.up B4.out hB))
  clear hO hB
  obtain ⟨ng5, a5, cap5, rfl⟩ := HR1.out.form
  obtain ⟨ng6, a6, cap6, rfl⟩ := HR2.out.form
  obtain ⟨hcc, hff⟩ := bcell BT2.out
  have hz := HZ0.out
  simp at hz
  have HD1 := Lib.hid (show w.heap.size + 1 + 1 < w.heap.size + 1 + 1 + 1 + 1 + 1 + 1 by omega)
  have HD2 := Lib.hid (show w.heap.size + 1 + 1 + 1 < w.heap.size + 1 + 1 + 1 + 1 + 1 + 1 by omega)
  simp only [World.size_alloc] at HR1 HR2
  have hb3 : w.heap.size ≤ w.heap.size + 1 + 1 + 1 + 1 + 1 + 1 := by omega
  clear hz
  go_wp2_with fail
  exact bodyPost_ret (v := .tuple #[.agg #[.bool ng5, .slice a5 k3 cap5], .agg #[.bool ng6, .slice a6 0 cap6], .int .i64 0]) (by simp [results, Tryd.results30, go_sem, hcc]) rfl
    ⟨_, _, k3, 0, _, _, rfl, (((((HR1.out).setOther (a := ⟨w.heap.size + 1 + 1, 0, none⟩) HD1.out _).setOther (a := ⟨w.heap.size + 1 + 1, 1, none⟩) HD1.out _).setOther (a := ⟨w.heap.size + 1 + 1 + 1, 0, none⟩) HD2.out _).setOther (a := ⟨w.heap.size + 1 + 1 + 1, 1, none⟩) HD2.out _).mono hb3, (((((HR2.out).setOther (a := ⟨w.heap.size + 1 + 1, 0, none⟩) HD1.out _).setOther (a := ⟨w.heap.size + 1 + 1, 1, none⟩) HD1.out _).setOther (a := ⟨w.heap.size + 1 + 1 + 1, 0, none⟩) HD2.out _).setOther (a := ⟨w.heap.size + 1 + 1 + 1, 1, none⟩) HD2.out _).mono hb3, HF.out, by omega, by omega, (((((Below.up (u := w) (by repeat (first | exact Below.refl _ _ | exact Nat.le_refl _ | (apply Below.alloc) | (refine Below.setCell ?_ (by first | exact Nat.le_refl _ | (simp <;> omega)) _) | (simp <;> omega))) BT2.out).setCell (p := ⟨w.heap.size + 1 + 1, 0, none⟩) (by show w.heap.size ≤ w.heap.size + 1 + 1; omega) _).setCell (p := ⟨w.heap.size + 1 + 1, 1, none⟩) (by show w.heap.size ≤ w.heap.size + 1 + 1; omega) _).setCell (p := ⟨w.heap.size + 1 + 1 + 1, 0, none⟩) (by show w.heap.size ≤ w.heap.size + 1 + 1 + 1; omega) _).setCell (p := ⟨w.heap.size + 1 + 1 + 1, 1, none⟩) (by show w.heap.size ≤ w.heap.size + 1 + 1 + 1; omega) _)⟩

set_option maxRecDepth 100000 in
set_option maxHeartbeats 1600000 in
theorem Div_same_ff (ng ng2 : Bool) (a a2 : Option Addr) (n m cap cap2 k k2 : Nat) (A D p q : Int) (w : World) (N1 : Hid (Nr w (.slice a k cap) k A)) (N2 : Hid (Nr w (.slice a2 k2 cap2) k2 D)) (hk : k ≤ n) (hk2 : k2 ≤ m) (hn : n ≤ 100000) (hm : m ≤ 100000) (HQ : Hid (0 < D)) (HP : Hid (sg false A = p)) (HP2 : Hid (sg false D = q))
    (S1 : Hid (∀ W, Below w.heap.size w W → Calls Tryd.prog 33 #[.agg #[.bool ng, .slice a n cap]] W fun e w' => e = .returned (.tuple #[.bool false, .slice a k cap]) ∧ w' = W.alloc (.cells #[.bool ng, .slice a n cap] 24)))
    (S2 : Hid (∀ W, Below w.heap.size w W → Calls Tryd.prog 33 #[.agg #[.bool ng2, .slice a2 m cap2]] W fun e w' => e = .returned (.tuple #[.bool false, .slice a2 k2 cap2]) ∧ w' = W.alloc (.cells #[.bool ng2, .slice a2 m cap2] 24)))
     :
    Calls Tryd.prog 30 #[.agg #[.bool ng, .slice a n cap], .agg #[.bool ng2, .slice a2 m cap2]] w (DvA w p q n m) := by
  have hk0 : ¬ (k2 = 0) := fun h => by have := N2.out.zero.1 h; have := HQ.out; omega
  have HL := Lib.hid (show 0 ≤ A % D ∧ A % D < D from ⟨Int.emod_nonneg A (by have := HQ.out; omega), Int.emod_lt_of_pos A HQ.out⟩)
  have HF := Lib.hid (dv_plain HQ.out N1.out.nonneg HP.out HP2.out (Or.inl rfl))
  simp only [show ((false : Bool) != false) = false from rfl] at HF
  go_enter Tryd.func30, Tryd.ntmps30
  go_wp2_with fail
  refine (S1.out _ (by repeat (first | exact Below.refl _ _ | exact Nat.le_refl _ | (apply Below.alloc) | (refine Below.setCell ?_ (by first | exact Nat.le_refl _ | (simp <;> omega)) _) | (simp <;> omega)))).mono ?_
  rintro e w1 ⟨rfl, rfl⟩
  go_wp2_with fail
  refine (S2.out _ (by repeat (first | exact Below.refl _ _ | exact Nat.le_refl _ | (apply Below.alloc) | (refine Below.setCell ?_ (by first | exact Nat.le_refl _ | (simp <;> omega)) _) | (simp <;> omega)))).mono ?_
  rintro e w1 ⟨rfl, rfl⟩
  go_wp2_with fail
  refine (divide_any 900000 (Nat.le_refl _) _ _ _ _ _ _ _ (N1.out.below (by repeat (first | exact Below.refl _ _ | exact Nat.le_refl _ | (apply Below.alloc) | (refine Below.setCell ?_ (by first | exact Nat.le_refl _ | (simp <;> omega)) _) | (simp <;> omega)))) (N2.out.below (by repeat (first | exact Below.refl _ _ | exact Nat.le_refl _ | (apply Below.alloc) | (refine Below.setCell ?_ (by first | exact Nat.le_refl _ | (simp <;> omega)) _) | (simp <;> omega)))) HQ.out (by omega) (by omega)).mono ?_
  rintro e w3 ⟨r1, s1, k3, j3, rfl, hR1, hS1, hk3, hj3, hB⟩
  obtain ⟨a3, cap3, rfl⟩ := hR1.form
  obtain ⟨a4, cap4, rfl⟩ := hS1.form
  have hj4 : j3 ≤ k2 := hS1.nr.len (by have := N2.out.lt; have := HL.out; omega)
  have R1 := Lib.hid hR1
  have S3 := Lib.hid hS1
  have B0 := Lib.hid hB
  have BT := Lib.hid (Below.up (u := w) (by repeat (first | exact Below.refl _ _ | exact Nat.le_refl _ | (apply Below.alloc) | (refine Below.setCell ?_ (by first | exact Nat.le_refl _ | (simp <;> omega)) _) | (simp <;> omega))) hB)
  clear hR1 hS1 hB
  go_wp2_with fail
  refine (signed_nr false R1.out (by omega)).mono ?_
  rintro e w7 ⟨v4, rfl, hO, hB⟩
  have O4 := Lib.hid hO
  have B4 := Lib.hid hB
  clear hO hB
  go_wp2_with fail
  refine (signed_nr false (S3.out.below B4.out) (by omega)).mono ?_
  rintro e w8 ⟨v5, rfl, hO, hB⟩
  have HZ0 := Lib.hid B0.out.size
  have HR1 := Lib.hid ((O4.out.below hB))
  have HR2 := Lib.hid hO
  have BT2 := Lib.hid (Below.up B0.out (Below.up B4.out hB))
  clear hO hB
  obtain ⟨ng5, a5, cap5, rfl⟩ := HR1.out.form
  obtain ⟨ng6, a6, cap6, rfl⟩ := HR2.out.form
  obtain ⟨hcc, hff⟩ := bcell BT2.out
  have hz := HZ0.out
  simp at hz
  have HD1 := Lib.hid (show w.heap.size + 1 + 1 < w.heap.size + 1 + 1 + 1 + 1 + 1 + 1 by omega)
  have HD2 := Lib.hid (show w.heap.size + 1 + 1 + 1 < w.heap.size + 1 + 1 + 1 + 1 + 1 + 1 by omega)
  simp only [World.size_alloc] at HR1 HR2
  have hb3 : w.heap.size ≤ w.heap.size + 1 + 1 + 1 + 1 + 1 + 1 := by omega
  clear hz
  go_wp2_with fail
  exact bodyPost_ret (v := .tuple #[.agg #[.bool ng5, .slice a5 k3 cap5], .agg #[.bool ng6, .slice a6 j3 cap6], .int .i64 0]) (by simp [results, Tryd.results30, go_sem, hcc]) rfl
    ⟨_, _, k3, j3, _, _, rfl, (((((HR1.out).setOther (a := ⟨w.heap.size + 1 + 1, 0, none⟩) HD1.out _).setOther (a := ⟨w.heap.size + 1 + 1, 1, none⟩) HD1.out _).setOther (a := ⟨w.heap.size + 1 + 1 + 1, 0, none⟩) HD2.out _).setOther (a := ⟨w.heap.size + 1 + 1 + 1, 1, none⟩) HD2.out _).mono hb3, (((((HR2.out).setOther (a := ⟨w.heap.size + 1 + 1, 0, none⟩) HD1.out _).setOther (a := ⟨w.heap.size + 1 + 1, 1, none⟩) HD1.out _).setOther (a := ⟨w.heap.size + 1 + 1 + 1, 0, none⟩) HD2.out _).setOther (a := ⟨w.heap.size + 1 + 1 + 1, 1, none⟩) HD2.out _).mono hb3, HF.out, by omega, by omega, (((((Below.up (u := w) (by repeat (first | exact Below.refl _ _ | exact Nat.le_refl _ | (apply Below.alloc) | (refine Below.setCell ?_ (by first | exact Nat.le_refl _ | (simp <;> omega)) _) | (simp <;> omega))) BT2.out).setCell (p := ⟨w.heap.size + 1 + 1, 0, none⟩) (by show w.heap.size ≤ w.heap.size + 1 + 1; omega) _).setCell (p := ⟨w.heap.size + 1 + 1, 1, none⟩) (by show w.heap.size ≤ w.heap.size + 1 + 1; omega) _).setCell (p := ⟨w.heap.size + 1 + 1 + 1, 0, none⟩) (by show w.heap.size ≤ w.heap.size + 1 + 1 + 1; omega) _).setCell (p := ⟨w.heap.size + 1 + 1 + 1, 1, none⟩) (by show w.heap.size ≤ w.heap.size + 1 + 1 + 1; omega) _)⟩

set_option maxRecDepth 100000 in
set_option maxHeartbeats 1600000 in
theorem Div_same_tt (ng ng2 : Bool) (a a2 : Option Addr) (n m cap cap2 k k2 : Nat) (A D p q : Int) (w : World) (N1 : Hid (Nr w (.slice a k cap) k A)) (N2 : Hid (Nr w (.slice a2 k2 cap2) k2 D)) (hk : k ≤ n) (hk2 : k2 ≤ m) (hn : n ≤ 100000) (hm : m ≤ 100000) (HQ : Hid (0 < D)) (HP : Hid (sg true A = p)) (HP2 : Hid (sg true D = q))
    (S1 : Hid (∀ W, Below w.heap.size w W → Calls Tryd.prog 33 #[.agg #[.bool ng, .slice a n cap]] W fun e w' => e = .returned (.tuple #[.bool true, .slice a k cap]) ∧ w' = W.alloc (.cells #[.bool ng, .slice a n cap] 24)))
    (S2 : Hid (∀ W, Below w.heap.size w W → Calls Tryd.prog 33 #[.agg #[.bool ng2, .slice a2 m cap2]] W fun e w' => e = .returned (.tuple #[.bool true, .slice a2 k2 cap2]) ∧ w' = W.alloc (.cells #[.bool ng2, .slice a2 m cap2] 24)))
     :
    Calls Tryd.prog 30 #[.agg #[.bool ng, .slice a n cap], .agg #[.bool ng2, .slice a2 m cap2]] w (DvA w p q n m) := by
  have hk0 : ¬ (k2 = 0) := fun h => by have := N2.out.zero.1 h; have := HQ.out; omega
  have HL := Lib.hid (show 0 ≤ A % D ∧ A % D < D from ⟨Int.emod_nonneg A (by have := HQ.out; omega), Int.emod_lt_of_pos A HQ.out⟩)
  have HF := Lib.hid (dv_plain HQ.out N1.out.nonneg HP.out HP2.out (Or.inl rfl))
  simp only [show ((true : Bool) != true) = false from rfl] at HF
  go_enter Tryd.func30, Tryd.ntmps30
  go_wp2_with fail
  refine (S1.out _ (by repeat (first | exact Below.refl _ _ | exact Nat.le_refl _ | (apply Below.alloc) | (refine Below.setCell ?_ (by first | exact Nat.le_refl _ | (simp <;> omega)) _) | (simp <;> omega)))).mono ?_
  rintro e w1 ⟨rfl, rfl⟩
  go_wp2_with fail
  refine (S2.out _ (by repeat (first | exact Below.refl _ _ | exact Nat.le_refl _ | (apply Below.alloc) | (refine Below.setCell ?_ (by first | exact Nat.le_refl _ | (simp <;> omega)) _) | (simp <;> omega)))).mono ?_
  rintro e w1 ⟨rfl, rfl⟩
  go_wp2_with fail
  refine (divide_any 900000 (Nat.le_refl _) _ _ _ _ _ _ _ (N1.out.below (by repeat (first | exact Below.refl _ _ | exact Nat.le_refl _ | (apply Below.alloc) | (refine Below.setCell ?_ (by first | exact Nat.le_refl _ | (simp <;> omega)) _) | (simp <;> omega)))) (N2.out.below (by repeat (first | exact Below.refl _ _ | exact Nat.le_refl _ | (apply Below.alloc) | (refine Below.setCell ?_ (by first | exact Nat.le_refl _ | (simp <;> omega)) _) | (simp <;> omega)))) HQ.out (by omega) (by omega)).mono ?_
  rintro e w3 ⟨r1, s1, k3, j3, rfl, hR1, hS1, hk3, hj3, hB⟩
  obtain ⟨a3, cap3, rfl⟩ := hR1.form
  obtain ⟨a4, cap4, rfl⟩ := hS1.form
  have hj4 : j3 ≤ k2 := hS1.nr.len (by have := N2.out.lt; have := HL.out; omega)
  have R1 := Lib.hid hR1
  have S3 := Lib.hid hS1
  have B0 := Lib.hid hB
  have BT := Lib.hid (Below.up (u := w) (by repeat (first | exact Below.refl _ _ | exact Nat.le_refl _ | (apply Below.alloc) | (refine Below.setCell ?_ (by first | exact Nat.le_refl _ | (simp <;> omega)) _) | (simp <;> omega))) hB)
  clear hR1 hS1 hB
  go_wp2_with fail
  refine (signed_nr false R1.out (by omega)).mono ?_
  rintro e w7 ⟨v4, rfl, hO, hB⟩
  have O4 := Lib.hid hO
  have B4 := Lib.hid hB
  clear hO hB
  go_wp2_with fail
  refine (signed_nr true (S3.out.below B4.out) (by omega)).mono ?_
  rintro e w8 ⟨v5, rfl, hO, hB⟩
  have HZ0 := Lib.hid B0.out.size
  have HR1 := Lib.hid ((O4.out.below hB))
  have HR2 := Lib.hid hO
  have BT2 := Lib.hid (Below.up B0.out (Below.up B4.out hB))
  clear hO hB
  obtain ⟨ng5, a5, cap5, rfl⟩ := HR1.out.form
  obtain ⟨ng6, a6, cap6, rfl⟩ := HR2.out.form
  obtain ⟨hcc, hff⟩ := bcell BT2.out
  have hz := HZ0.out
  simp at hz
  have HD1 := Lib.hid (show w.heap.size + 1 + 1 < w.heap.size + 1 + 1 + 1 + 1 + 1 + 1 by omega)
  have HD2 := Lib.hid (show w.heap.size + 1 + 1 + 1 < w.heap.size + 1 + 1 + 1 + 1 + 1 + 1 by omega)
  simp only [World.size_alloc] at HR1 HR2
  have hb3 : w.heap.size ≤ w.heap.size + 1 + 1 + 1 + 1 + 1 + 1 := by omega
  clear hz
  go_wp2_with fail
  exact bodyPost_ret (v := .tuple #[.agg #[.bool ng5, .slice a5 k3 cap5], .agg #[.bool ng6, .slice a6 j3 cap6], .int .i64 0]) (by simp [results, Tryd.results30, go_sem, hcc]) rfl
    ⟨_, _, k3, j3, _, _, rfl, (((((HR1.out).setOther (a := ⟨w.heap.size + 1 + 1, 0, none⟩) HD1.out _).setOther (a := ⟨w.heap.size + 1 + 1, 1, none⟩) HD1.out _).setOther (a := ⟨w.heap.size + 1 + 1 + 1, 0, none⟩) HD2.out _).setOther (a := ⟨w.heap.size + 1 + 1 + 1, 1, none⟩) HD2.out _).mono hb3, (((((HR2.out).setOther (a := ⟨w.heap.size + 1 + 1, 0, none⟩) HD1.out _).setOther (a := ⟨w.heap.size + 1 + 1, 1, none⟩) HD1.out _).setOther (a := ⟨w.heap.size + 1 + 1 + 1, 0, none⟩) HD2.out _).setOther (a := ⟨w.heap.size + 1 + 1 + 1, 1, none⟩) HD2.out _).mono hb3, HF.out, by omega, by omega, (((((Below.up (u := w) (by repeat (first | exact Below.refl _ _ | exact Nat.le_refl _ | (apply Below.alloc) | (refine Below.setCell ?_ (by first | exact Nat.le_refl _ | (simp <;> omega)) _) | (simp <;> omega))) BT2.out).setCell (p := ⟨w.heap.size + 1 + 1, 0, none⟩) (by show w.heap.size ≤ w.heap.size + 1 + 1; omega) _).setCell (p := ⟨w.heap.size + 1 + 1, 1, none⟩) (by show w.heap.size ≤ w.heap.size + 1 + 1; omega) _).setCell (p := ⟨w.heap.size + 1 + 1 + 1, 0, none⟩) (by show w.heap.size ≤ w.heap.size + 1 + 1 + 1; omega) _).setCell (p := ⟨w.heap.size + 1 + 1 + 1, 1, none⟩) (by show w.heap.size ≤ w.heap.size + 1 + 1 + 1; omega) _)⟩

theorem Div_any (u v : Value) (n m : Nat) (p q : Int) (w : World) (hu : AI w u n p) (hv : AI w v m q) (hn : n ≤ 100000) (hm : m ≤ 100000) (hq : q ≠ 0) :
    Calls Tryd.prog 30 #[u, v] w (DvA w p q n m) := by
  obtain ⟨ng, a, cap, rfl⟩ := hu.form
  obtain ⟨ng2, a2, cap2, rfl⟩ := hv.form
  obtain ⟨k, b1, hk, hb, hN, hS⟩ := split_ai hu (by omega)
  obtain ⟨k2, b2, hk2, hb2, hN2, hS2⟩ := split_ai hv (by omega)
  have hD : (0 : Int) < (q.natAbs : Int) := by omega
  by_cases hr : (p.natAbs : Int) % (q.natAbs : Int) = 0
  · cases b1 <;> cases b2
    · exact Div_same_ff ng ng2 a a2 n m cap cap2 k k2 _ _ p q w hN hN2 hk hk2 hn hm hD hb hb2 hS hS2
    · exact Div_even_ft ng ng2 a a2 n m cap cap2 k k2 _ _ p q w hN hN2 hk hk2 hn hm hD hb hb2 hS hS2 hr
    · exact Div_even_tf ng ng2 a a2 n m cap cap2 k k2 _ _ p q w hN hN2 hk hk2 hn hm hD hb hb2 hS hS2 hr
    · exact Div_same_tt ng ng2 a a2 n m cap cap2 k k2 _ _ p q w hN hN2 hk hk2 hn hm hD hb hb2 hS hS2
  · cases b1 <;> cases b2
    · exact Div_same_ff ng ng2 a a2 n m cap cap2 k k2 _ _ p q w hN hN2 hk hk2 hn hm hD hb hb2 hS hS2
    · exact Div_mixed_ft ng ng2 a a2 n m cap cap2 k k2 _ _ p q w hN hN2 hk hk2 hn hm hD hb hb2 hS hS2 hr
    · exact Div_mixed_tf ng ng2 a a2 n m cap cap2 k k2 _ _ p q w hN hN2 hk hk2 hn hm hD hb hb2 hS hS2 hr
    · exact Div_same_tt ng ng2 a a2 n m cap cap2 k k2 _ _ p q w hN hN2 hk hk2 hn hm hD hb hb2 hS hS2

set_option maxRecDepth 100000 in
set_option maxHeartbeats 1600000 in
/-- Div by 0. -/
theorem Div_zero (u v : Value) (n m : Nat) (p : Int) (w : World) (hu : AI w u n p) (hv : AI w v m 0) (hn : n ≤ 100000) (hm : m ≤ 100000) :
    Calls Tryd.prog 30 #[u, v] w fun e w' => e = .returned (.tuple #[.agg #[.bool false, .slice none 0 0], .agg #[.bool false, .slice none 0 0], .int .i64 10]) ∧ Below w.heap.size w w' := by
  obtain ⟨ng, a, cap, rfl⟩ := hu.form
  obtain ⟨ng2, a2, cap2, rfl⟩ := hv.form
  obtain ⟨k, b1, hk, hb, hN, hS⟩ := split_ai hu (by omega)
  obtain ⟨k2, b2, hk2, hb2, hN2, hS2⟩ := split_ai hv (by omega)
  have hk0 : k2 = 0 := hN2.zero.2 rfl
  subst hk0
  have S1 := Lib.hid hS
  have S2 := Lib.hid hS2
  clear hu hv hS hS2 hN hN2 hb hb2
  go_enter Tryd.func30, Tryd.ntmps30
  go_wp2_with fail
  refine (S1.out _ (by repeat (first | exact Below.refl _ _ | exact Nat.le_refl _ | (apply Below.alloc) | (refine Below.setCell ?_ (by first | exact Nat.le_refl _ | (simp <;> omega)) _) | (simp <;> omega)))).mono ?_
  rintro e w1 ⟨rfl, rfl⟩
  go_wp2_with fail
  refine (S2.out _ (by repeat (first | exact Below.refl _ _ | exact Nat.le_refl _ | (apply Below.alloc) | (refine Below.setCell ?_ (by first | exact Nat.le_refl _ | (simp <;> omega)) _) | (simp <;> omega)))).mono ?_
  rintro e w1 ⟨rfl, rfl⟩
  go_wp2_with fail
  exact bodyPost_ret (v := .tuple #[.agg #[.bool false, .slice none 0 0], .agg #[.bool false, .slice none 0 0], .int .i64 10]) (by simp [results, Tryd.results30, go_sem]) rfl
    ⟨rfl, (by repeat (first | exact Below.refl _ _ | exact Nat.le_refl _ | (apply Below.alloc) | (refine Below.setCell ?_ (by first | exact Nat.le_refl _ | (simp <;> omega)) _) | (simp <;> omega)))⟩

end Go.Proofs.YtpkjpepnjlcgoaaDoor
