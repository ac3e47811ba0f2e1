/- Texts of short numbers. -/
import Derived.Test.YtpkjpepnjlcgoaaDoorExS
set_option linter.unusedVariables false
set_option linter.unusedSimpArgs false
namespace Go.Proofs.YtpkjpepnjlcgoaaDoor
open Go.RowKit

theorem T10_big {m : Nat} (h : m ≠ 0) : 10 ≤ T10 m := by
  obtain ⟨k, rfl⟩ : ∃ k, m = k + 1 := ⟨m - 1, by omega⟩
  rw [T10_succ]; have := T10_pos k; omega
theorem digits_small (u : Value) (n : Nat) (z : Int) (c : UInt8) (w : World) (hz : Nr w u n z) (hn : n ≤ 100000000) (hpos : 0 < z ∧ z ≤ 9) (hc : strOfNums (dig 0 z) = ⟨#[c]⟩) :
    Calls Tryd.prog 39 #[u] w fun e w' => e = .returned (.string ⟨#[c]⟩) ∧ Below w.heap.size w w' := by
  have hz' := hz
  obtain ⟨a, cap, x, rfl, _⟩ := hz
  refine (digitsOf_pos a n cap z w hz' hn hpos.1).mono ?_
  rintro e w' ⟨m, rfl, h1, h2, hB⟩
  have hm : m = 0 := by
    by_cases h : m = 0
    · exact h
    · rw [Int.ediv_eq_zero_of_lt (by omega) (by have := T10_big h; omega)] at h2
      omega
  subst hm
  rw [hc]
  exact ⟨rfl, hB⟩
theorem sg_is_true {b : Bool} {p : Int} (h : sg b (p.natAbs : Int) = p) (hp : p < 0) : b = true := by
  cases b
  · rw [sg_false] at h; omega
  · rfl
theorem sg_is_false {b : Bool} {p : Int} (h : sg b (p.natAbs : Int) = p) (hp : 0 < p) : b = false := by
  cases b
  · rfl
  · rw [sg_true] at h; omega

set_option maxHeartbeats 800000 in
theorem Text_neg (u : Value) (n : Nat) (p z : Int) (c : UInt8) (w : World) (hu : AI w u n p) (hn : n ≤ 100000000) (hp : p = -z) (hpos : 0 < z ∧ z ≤ 9) (hc : strOfNums (dig 0 z) = ⟨#[c]⟩) :
    Calls Tryd.prog 12 #[u] w fun e w' => e = .returned (.string ⟨#[45, c]⟩) ∧ Below w.heap.size w w' := by
  obtain ⟨g, a, cap, rfl⟩ := hu.form
  obtain ⟨k, b, hk, hb, hN, hS⟩ := split_ai hu (by omega)
  have := sg_is_true hb (by omega)
  subst this
  rw [show (p.natAbs : Int) = z by omega] at hN
  have S1 := Lib.hid hS
  have N1 := Lib.hid hN
  have HZ := Lib.hid hpos
  have HC := Lib.hid hc
  clear hS hN hb hu hp hpos hc
  go_enter Tryd.func12, Tryd.ntmps12
  go_wp2_with fail
  refine (S1.out _ (by repeat (first | exact Below.refl _ _ | exact Nat.le_refl _ | (apply Below.alloc) | (refine Below.setCell ?_ (by first | exact Nat.le_refl _ | (simp <;> omega)) _) | (simp <;> omega)))).mono ?_
  rintro e w1 ⟨rfl, rfl⟩
  go_wp2_with fail
  refine (digits_small _ k z c _ (N1.out.below (by repeat (first | exact Below.refl _ _ | exact Nat.le_refl _ | (apply Below.alloc) | (refine Below.setCell ?_ (by first | exact Nat.le_refl _ | (simp <;> omega)) _) | (simp <;> omega)))) (by omega) HZ.out HC.out).mono ?_
  rintro e w2 ⟨rfl, hB⟩
  have HB := Lib.hid (Below.up (u := w) (by repeat (first | exact Below.refl _ _ | exact Nat.le_refl _ | (apply Below.alloc) | (refine Below.setCell ?_ (by first | exact Nat.le_refl _ | (simp <;> omega)) _) | (simp <;> omega))) hB)
  clear hB
  go_wp2_with fail
  go_ret
  exact ⟨rfl, HB.out⟩

set_option maxHeartbeats 800000 in
theorem Text_pos (u : Value) (n : Nat) (z : Int) (c : UInt8) (w : World) (hu : AI w u n z) (hn : n ≤ 100000000) (hpos : 0 < z ∧ z ≤ 9) (hc : strOfNums (dig 0 z) = ⟨#[c]⟩) :
    Calls Tryd.prog 12 #[u] w fun e w' => e = .returned (.string ⟨#[c]⟩) ∧ Below w.heap.size w w' := by
  obtain ⟨g, a, cap, rfl⟩ := hu.form
  obtain ⟨k, b, hk, hb, hN, hS⟩ := split_ai hu (by omega)
  have := sg_is_false hb (by omega)
  subst this
  rw [show (z.natAbs : Int) = z by omega] at hN
  have S1 := Lib.hid hS
  have N1 := Lib.hid hN
  have HZ := Lib.hid hpos
  have HC := Lib.hid hc
  clear hS hN hb hu hpos hc
  go_enter Tryd.func12, Tryd.ntmps12
  go_wp2_with fail
  refine (S1.out _ (by repeat (first | exact Below.refl _ _ | exact Nat.le_refl _ | (apply Below.alloc) | (refine Below.setCell ?_ (by first | exact Nat.le_refl _ | (simp <;> omega)) _) | (simp <;> omega)))).mono ?_
  rintro e w1 ⟨rfl, rfl⟩
  go_wp2_with fail
  refine (digits_small _ k z c _ (N1.out.below (by repeat (first | exact Below.refl _ _ | exact Nat.le_refl _ | (apply Below.alloc) | (refine Below.setCell ?_ (by first | exact Nat.le_refl _ | (simp <;> omega)) _) | (simp <;> omega)))) (by omega) HZ.out HC.out).mono ?_
  rintro e w2 ⟨rfl, hB⟩
  have HB := Lib.hid (Below.up (u := w) (by repeat (first | exact Below.refl _ _ | exact Nat.le_refl _ | (apply Below.alloc) | (refine Below.setCell ?_ (by first | exact Nat.le_refl _ | (simp <;> omega)) _) | (simp <;> omega))) hB)
  clear hB
  go_wp2_with fail
  go_ret
  exact ⟨rfl, HB.out⟩

theorem RR.parts {w : World} {base : Nat} {g : Bool} {a : Option Addr} {c : Nat} {g' : Bool} {a' : Option Addr} {c' : Nat} {n m : Nat} {p q : Int} (h : RR w base (.agg #[.bool g, .slice a n c, .bool g', .slice a' m c']) n m p q) :
    AI w (.agg #[.bool g, .slice a n c]) n p ∧ AI w (.agg #[.bool g', .slice a' m c']) m q ∧ Nr w (.slice a' m c') m q.natAbs := by
  obtain ⟨c0, c1, c2, c3, e, h1, h2⟩ := h
  simp only [Value.agg.injEq, Array.mk.injEq, List.cons.injEq, and_true] at e
  obtain ⟨rfl, rfl, rfl, rfl⟩ := e
  refine ⟨h1.ai, h2.ai, ?_⟩
  obtain ⟨u, e, hN⟩ := h2
  simp only [Value.agg.injEq, Array.mk.injEq, List.cons.injEq, and_true] at e
  obtain ⟨_, rfl⟩ := e
  exact hN.nr

set_option maxHeartbeats 1600000 in
theorem Show_whole (u : Value) (n m : Nat) (p q z y : Int) (c d : UInt8) (w : World) (hT : Tab w) (hu : AR w u n m p q) (hn : n ≤ 2) (hm : m ≤ 2) (hp : lP p q = -z) (hq : lQ p q = y) (hz : 0 < z ∧ z ≤ 9) (hc : strOfNums (dig 0 z) = ⟨#[c]⟩) (hy : y = 1) :
    Calls Tryd.prog 15 #[u] w fun e w' => e = .returned (.string ⟨#[45, c]⟩) ∧ Below w.heap.size w w' := by
  obtain ⟨g, a, cp, g', a', cp', rfl⟩ := hu.form
  have HU := Lib.hid hu
  have HT := Lib.hid hT
  have HZ := Lib.hid hz
  have HC := Lib.hid hc
  have HP := Lib.hid hp
  have HQ := Lib.hid hq
  clear hu hT hz hc hp hq
  go_enter Tryd.func15, Tryd.ntmps15
  go_wp2_with fail
  refine (Lowest_any common_short divide_short _ n m p q _ (HT.out.up (by repeat (first | exact Below.refl _ _ | exact Nat.le_refl _ | (apply Below.alloc) | (refine Below.setCell ?_ (by first | exact Nat.le_refl _ | (simp <;> omega)) _) | (simp <;> omega)))) (HU.out.below (by repeat (first | exact Below.refl _ _ | exact Nat.le_refl _ | (apply Below.alloc) | (refine Below.setCell ?_ (by first | exact Nat.le_refl _ | (simp <;> omega)) _) | (simp <;> omega)))) hn (by omega) (by omega)).mono ?_
  rintro e w1 ⟨r, k, j, rfl, hR, hk, hj, hB⟩
  obtain ⟨g3, a3, c3, g4, a4, c4, rfl⟩ := hR.form
  rw [HP.out, HQ.out] at hR
  obtain ⟨hcc, hff⟩ := bcell hB
  have hz := hB.size
  simp at hz
  have hd1 : w.heap.size < w1.heap.size := by omega
  have HZ1 := Lib.hid hz
  have HR := Lib.hid hR
  have HB := Lib.hid hB
  clear hR hB hz
  go_wp2_with fail
  obtain ⟨f1, f2⟩ := fin_RR (w := w) (t := w.heap.size) HR.out (by simp) (by omega) (by simp) (Below.up (u := w) (by repeat (first | exact Below.refl _ _ | exact Nat.le_refl _ | (apply Below.alloc) | (refine Below.setCell ?_ (by first | exact Nat.le_refl _ | (simp <;> omega)) _) | (simp <;> omega))) HB.out) (.bool g3) (.slice a3 k c3) (.bool g4) (.slice a4 j c4)
  obtain ⟨P1, P2, P3⟩ := f1.parts
  have HN := Lib.hid P1
  have HD := Lib.hid P2
  have HB2 := Lib.hid f2
  rw [show (y.natAbs : Int) = 1 by omega] at P3
  have C := isOne_nr P3 (by omega)
  rw [show decide ((1 : Int) = 1) = true from rfl] at C
  have HO := Lib.hid C
  clear f1 f2 P1 P2 P3 C
  refine HO.out.mono ?_
  rintro e w2 ⟨rfl, rfl⟩
  go_wp2_with fail
  refine (Text_neg _ k (-z) z c _ HN.out (by omega) rfl HZ.out HC.out).mono ?_
  rintro e w2 ⟨rfl, hB3⟩
  have HB3 := Lib.hid (Below.up HB2.out hB3)
  clear hB3
  go_wp2_with fail
  go_ret
  exact ⟨rfl, HB3.out⟩

set_option maxHeartbeats 1600000 in
theorem Show_parts (u : Value) (n m : Nat) (p q z y : Int) (c d : UInt8) (w : World) (hT : Tab w) (hu : AR w u n m p q) (hn : n ≤ 2) (hm : m ≤ 2) (hp : lP p q = -z) (hq : lQ p q = y) (hz : 0 < z ∧ z ≤ 9) (hc : strOfNums (dig 0 z) = ⟨#[c]⟩) (hy : 1 < y ∧ y ≤ 9) (hd : strOfNums (dig 0 y) = ⟨#[d]⟩) :
    Calls Tryd.prog 15 #[u] w fun e w' => e = .returned (.string ⟨#[45, c, 47, d]⟩) ∧ Below w.heap.size w w' := by
  obtain ⟨g, a, cp, g', a', cp', rfl⟩ := hu.form
  have HU := Lib.hid hu
  have HT := Lib.hid hT
  have HZ := Lib.hid hz
  have HC := Lib.hid hc
  have HP := Lib.hid hp
  have HQ := Lib.hid hq
  clear hu hT hz hc hp hq
  go_enter Tryd.func15, Tryd.ntmps15
  go_wp2_with fail
  refine (Lowest_any common_short divide_short _ n m p q _ (HT.out.up (by repeat (first | exact Below.refl _ _ | exact Nat.le_refl _ | (apply Below.alloc) | (refine Below.setCell ?_ (by first | exact Nat.le_refl _ | (simp <;> omega)) _) | (simp <;> omega)))) (HU.out.below (by repeat (first | exact Below.refl _ _ | exact Nat.le_refl _ | (apply Below.alloc) | (refine Below.setCell ?_ (by first | exact Nat.le_refl _ | (simp <;> omega)) _) | (simp <;> omega)))) hn (by omega) (by omega)).mono ?_
  rintro e w1 ⟨r, k, j, rfl, hR, hk, hj, hB⟩
  obtain ⟨g3, a3, c3, g4, a4, c4, rfl⟩ := hR.form
  rw [HP.out, HQ.out] at hR
  obtain ⟨hcc, hff⟩ := bcell hB
  have hz := hB.size
  simp at hz
  have hd1 : w.heap.size < w1.heap.size := by omega
  have HZ1 := Lib.hid hz
  have HR := Lib.hid hR
  have HB := Lib.hid hB
  clear hR hB hz
  go_wp2_with fail
  have HDD := Lib.hid hd
  have HY := Lib.hid hy
  clear hd
  obtain ⟨f1, f2⟩ := fin_RR (w := w) (t := w.heap.size) HR.out (by simp) (by omega) (by simp) (Below.up (u := w) (by repeat (first | exact Below.refl _ _ | exact Nat.le_refl _ | (apply Below.alloc) | (refine Below.setCell ?_ (by first | exact Nat.le_refl _ | (simp <;> omega)) _) | (simp <;> omega))) HB.out) (.bool g3) (.slice a3 k c3) (.bool g4) (.slice a4 j c4)
  obtain ⟨P1, P2, P3⟩ := f1.parts
  have HN := Lib.hid P1
  have HD := Lib.hid P2
  have HB2 := Lib.hid f2
  rw [show (y.natAbs : Int) = y by omega] at P3
  have C := isOne_nr P3 (by omega)
  rw [show decide (y = 1) = false from decide_eq_false (by omega)] at C
  have HO := Lib.hid C
  clear f1 f2 P1 P2 P3 C
  refine HO.out.mono ?_
  rintro e w2 ⟨rfl, rfl⟩
  go_wp2_with fail
  have hn8 : k ≤ 100000000 := by omega
  have hm8 : j ≤ 100000000 := by omega
  have cw0 : ((((w1.setCell ⟨w.heap.size, 0, none⟩ (.bool g3)).setCell ⟨w.heap.size, 1, none⟩ (.slice a3 k c3)).setCell ⟨w.heap.size, 2, none⟩ (.bool g4)).setCell ⟨w.heap.size, 3, none⟩ (.slice a4 j c4)).cell? ⟨w.heap.size, 0, none⟩ = some (.bool g3) := by simp [go_sem, hcc]
  have cw1 : ((((w1.setCell ⟨w.heap.size, 0, none⟩ (.bool g3)).setCell ⟨w.heap.size, 1, none⟩ (.slice a3 k c3)).setCell ⟨w.heap.size, 2, none⟩ (.bool g4)).setCell ⟨w.heap.size, 3, none⟩ (.slice a4 j c4)).cell? ⟨w.heap.size, 1, none⟩ = some (.slice a3 k c3) := by simp [go_sem, hcc]
  have cw2 : ((((w1.setCell ⟨w.heap.size, 0, none⟩ (.bool g3)).setCell ⟨w.heap.size, 1, none⟩ (.slice a3 k c3)).setCell ⟨w.heap.size, 2, none⟩ (.bool g4)).setCell ⟨w.heap.size, 3, none⟩ (.slice a4 j c4)).cell? ⟨w.heap.size, 2, none⟩ = some (.bool g4) := by simp [go_sem, hcc]
  have cw3 : ((((w1.setCell ⟨w.heap.size, 0, none⟩ (.bool g3)).setCell ⟨w.heap.size, 1, none⟩ (.slice a3 k c3)).setCell ⟨w.heap.size, 2, none⟩ (.bool g4)).setCell ⟨w.heap.size, 3, none⟩ (.slice a4 j c4)).cell? ⟨w.heap.size, 3, none⟩ = some (.slice a4 j c4) := by simp [go_sem, hcc]
  have hs1 : w.heap.size < ((((w1.setCell ⟨w.heap.size, 0, none⟩ (.bool g3)).setCell ⟨w.heap.size, 1, none⟩ (.slice a3 k c3)).setCell ⟨w.heap.size, 2, none⟩ (.bool g4)).setCell ⟨w.heap.size, 3, none⟩ (.slice a4 j c4)).heap.size := by simpa using hd1
  clear hcc hff
  generalize ((((w1.setCell ⟨w.heap.size, 0, none⟩ (.bool g3)).setCell ⟨w.heap.size, 1, none⟩ (.slice a3 k c3)).setCell ⟨w.heap.size, 2, none⟩ (.bool g4)).setCell ⟨w.heap.size, 3, none⟩ (.slice a4 j c4)) = W at *
  have A1 := Lib.hid (fun w1 (h : AI w1 (.agg #[.bool g3, .slice a3 k c3]) k (-z)) => Text_neg (.agg #[.bool g3, .slice a3 k c3]) k (-z) z c w1 h hn8 rfl HZ.out HC.out)
  have A2 := Lib.hid (fun w1 (h : AI w1 (.agg #[.bool g4, .slice a4 j c4]) j y) => Text_pos (.agg #[.bool g4, .slice a4 j c4]) j y d w1 h hm8 ⟨by have := HY.out; omega, HY.out.2⟩ HDD.out)
  have HNd := Lib.hid (HN.out.below (Below.drew (Below.refl W.heap.size W)))
  clear HO
  go_region_with (first
    | (go_at_call 12; ((with_reducible refine (A1.out _ HNd.out).mono ?_); rintro e w2 ⟨rfl, hB1⟩; obtain ⟨hc1, hf1⟩ := bcell hB1; have g0' := (hc1 _ _ hs1).trans cw0; have g1' := (hc1 _ _ hs1).trans cw1; have g2' := (hc1 _ _ hs1).trans cw2; have g3' := (hc1 _ _ hs1).trans cw3; have HB1 := Lib.hid hB1; have HDd := Lib.hid (HD.out.below (Below.up (Below.drew (Below.refl _ _)) hB1)); clear hc1 hf1 hB1))
    | (go_at_call 12; ((with_reducible refine (A2.out _ HDd.out).mono ?_); rintro e w3 ⟨rfl, hB2⟩; have HB4 := Lib.hid hB2; clear hB2)))
  all_goals
    go_wp2_with fail
    go_ret
    exact ⟨rfl, Below.up HB2.out (Below.up (Below.drew (Below.refl W.heap.size W)) (Below.up HB1.out HB4.out))⟩
end Go.Proofs.YtpkjpepnjlcgoaaDoor
