/- Integers: Of, Sign, Cmp, Neg, Add, Sub, Mul. -/
import Derived.Test.YtkhchaoehlefdaaDoorExH
namespace Go.Proofs.YtkhchaoehlefdaaDoor
open Go.RowKit

theorem V_tl_zero {x : Nat → Int} {n : Nat} (h : tl x n = 0) : V x n = 0 := by rw [← V_tl, h]; rfl
theorem nr_split {w : World} {a : Option Addr} {n cap : Nat} {x : Nat → Int} (hc : n ≤ cap) (hd : Dg x) (hs : Sl w a n x) : Nr w (.slice a (tl x n) cap) (tl x n) (V x n) := by
  have := tl_le x n
  exact ⟨a, cap, x, rfl, by omega, hd, fun hn => let ⟨b, off, e, hr⟩ := hs (by omega); ⟨b, off, e, hr.take this⟩, tl_top x n, V_tl x n⟩
theorem sg_split (ng : Bool) (x : Nat → Int) (n : Nat) : sg (nb ng x n) (V x n) = sg ng (V x n) := by
  unfold nb
  by_cases h : tl x n = 0
  · rw [V_tl_zero h]; cases ng <;> simp [sg, h]
  · have : decide (0 < tl x n) = true := decide_eq_true (by omega)
    rw [this, Bool.and_true]


theorem sg_not (b : Bool) (p : Int) : sg (!b) p = - sg b p := by cases b <;> simp [sg]
theorem sg_mul (a b : Bool) (p q : Int) : sg (!a == b) (p * q) = sg a p * sg b q := by cases a <;> cases b <;> simp [sg, Int.neg_mul, Int.mul_neg]

set_option maxHeartbeats 800000 in
theorem Add_any (u v : Value) (n m : Nat) (p q : Int) (w : World) (hu : AI w u n p) (hv : AI w v m q) (hn : n ≤ 100000000) (hm : m ≤ 100000000) :
    Calls Tryd.prog 9 #[u, v] w fun e w' => ∃ r k, e = .returned r ∧ RI w' w.heap.size r k (p + q) ∧ k ≤ max n m + 1 ∧ Below w.heap.size w w' := by
  obtain ⟨ng, a, cap, x, rfl, hc, hd, hs, hp⟩ := hu
  obtain ⟨ng2, a2, cap2, y, rfl, hc2, hd2, hs2, hq⟩ := hv
  have l1 := tl_le x n
  have l2 := tl_le y m
  have HS := Lib.hid hs
  have HS2 := Lib.hid hs2
  have HP := Lib.hid (sg_split ng x n)
  have HQ := Lib.hid (sg_split ng2 y m)
  have HD := Lib.hid hd
  have HD2 := Lib.hid hd2
  subst hp hq
  clear hs hs2 hd hd2
  go_enter Tryd.func9, Tryd.ntmps9
  go_wp2_with fail
  refine (split_any ng a n cap x _ (by omega) hc (HS.out.below (by repeat (first | exact Below.refl _ _ | exact Nat.le_refl _ | (apply Below.alloc) | (simp <;> omega))))).mono ?_
  rintro e w1 ⟨rfl, rfl⟩
  go_wp2_with fail
  refine (split_any ng2 a2 m cap2 y _ (by omega) hc2 (HS2.out.below (by repeat (first | exact Below.refl _ _ | exact Nat.le_refl _ | (apply Below.alloc) | (simp <;> omega))))).mono ?_
  rintro e w1 ⟨rfl, rfl⟩
  go_wp2_with fail
  have N1 := Lib.hid (nr_split hc HD.out HS.out)
  have N2 := Lib.hid (nr_split hc2 HD2.out HS2.out)
  refine (signedSum_any _ _ _ _ _ _ (V x n) (V y m) _ (N1.out.below (by repeat (first | exact Below.refl _ _ | exact Nat.le_refl _ | (apply Below.alloc) | (simp <;> omega)))) (N2.out.below (by repeat (first | exact Below.refl _ _ | exact Nat.le_refl _ | (apply Below.alloc) | (simp <;> omega)))) (by omega) (by omega)).mono ?_
  rintro e w2 ⟨r, k, rfl, hR, hk, hB⟩
  obtain ⟨ng3, a3, cap3, rfl⟩ := hR.form
  obtain ⟨hcc, hff⟩ := bcell hB
  have hz := hB.size
  simp at hz
  have hz1 : w.heap.size + 1 + 1 < w2.heap.size := by omega
  have hz2 : 0 < w2.heap.size := by omega
  have hBt := Lib.hid (Below.up (u := w) (by repeat (first | exact Below.refl _ _ | exact Nat.le_refl _ | (apply Below.alloc) | (simp <;> omega))) hB)
  have HR := Lib.hid hR
  clear hR hB hz
  go_wp2_with fail
  obtain ⟨f1, f2⟩ := fin_RI HR.out (t := w.heap.size + 1 + 1) (by simp) (by omega) hBt.out (.bool ng3) (.slice a3 k cap3)
  exact bodyPost_ret (v := .agg #[.bool ng3, .slice a3 k cap3]) (by simp [results, Tryd.results9, go_sem, hcc]) rfl ⟨_, k, rfl, f1.z (by rw [HP.out, HQ.out]), by omega, f2⟩

set_option maxHeartbeats 800000 in
theorem Sub_any (u v : Value) (n m : Nat) (p q : Int) (w : World) (hu : AI w u n p) (hv : AI w v m q) (hn : n ≤ 100000000) (hm : m ≤ 100000000) :
    Calls Tryd.prog 10 #[u, v] w fun e w' => ∃ r k, e = .returned r ∧ RI w' w.heap.size r k (p - q) ∧ k ≤ max n m + 1 ∧ Below w.heap.size w w' := by
  obtain ⟨ng, a, cap, x, rfl, hc, hd, hs, hp⟩ := hu
  obtain ⟨ng2, a2, cap2, y, rfl, hc2, hd2, hs2, hq⟩ := hv
  have l1 := tl_le x n
  have l2 := tl_le y m
  have HS := Lib.hid hs
  have HS2 := Lib.hid hs2
  have HP := Lib.hid (sg_split ng x n)
  have HQ := Lib.hid (sg_split ng2 y m)
  have HD := Lib.hid hd
  have HD2 := Lib.hid hd2
  subst hp hq
  clear hs hs2 hd hd2
  go_enter Tryd.func10, Tryd.ntmps10
  go_wp2_with fail
  refine (split_any ng a n cap x _ (by omega) hc (HS.out.below (by repeat (first | exact Below.refl _ _ | exact Nat.le_refl _ | (apply Below.alloc) | (simp <;> omega))))).mono ?_
  rintro e w1 ⟨rfl, rfl⟩
  go_wp2_with fail
  refine (split_any ng2 a2 m cap2 y _ (by omega) hc2 (HS2.out.below (by repeat (first | exact Below.refl _ _ | exact Nat.le_refl _ | (apply Below.alloc) | (simp <;> omega))))).mono ?_
  rintro e w1 ⟨rfl, rfl⟩
  go_wp2_with fail
  have N1 := Lib.hid (nr_split hc HD.out HS.out)
  have N2 := Lib.hid (nr_split hc2 HD2.out HS2.out)
  refine (signedSum_any _ _ _ _ _ _ (V x n) (V y m) _ (N1.out.below (by repeat (first | exact Below.refl _ _ | exact Nat.le_refl _ | (apply Below.alloc) | (simp <;> omega)))) (N2.out.below (by repeat (first | exact Below.refl _ _ | exact Nat.le_refl _ | (apply Below.alloc) | (simp <;> omega)))) (by omega) (by omega)).mono ?_
  rintro e w2 ⟨r, k, rfl, hR, hk, hB⟩
  obtain ⟨ng3, a3, cap3, rfl⟩ := hR.form
  obtain ⟨hcc, hff⟩ := bcell hB
  have hz := hB.size
  simp at hz
  have hz1 : w.heap.size + 1 + 1 < w2.heap.size := by omega
  have hz2 : 0 < w2.heap.size := by omega
  have hBt := Lib.hid (Below.up (u := w) (by repeat (first | exact Below.refl _ _ | exact Nat.le_refl _ | (apply Below.alloc) | (simp <;> omega))) hB)
  have HR := Lib.hid hR
  clear hR hB hz
  go_wp2_with fail
  obtain ⟨f1, f2⟩ := fin_RI HR.out (t := w.heap.size + 1 + 1) (by simp) (by omega) hBt.out (.bool ng3) (.slice a3 k cap3)
  exact bodyPost_ret (v := .agg #[.bool ng3, .slice a3 k cap3]) (by simp [results, Tryd.results10, go_sem, hcc]) rfl ⟨_, k, rfl, f1.z (by rw [sg_not, HP.out, HQ.out]; omega), by omega, f2⟩

set_option maxHeartbeats 800000 in
theorem Mul_any (u v : Value) (n m : Nat) (p q : Int) (w : World) (hu : AI w u n p) (hv : AI w v m q) (hn : n ≤ 100000000) (hm : m ≤ 100000000) (h40 : n < 40 ∨ m < 40) :
    Calls Tryd.prog 11 #[u, v] w fun e w' => ∃ r k, e = .returned r ∧ RI w' w.heap.size r k (p * q) ∧ k ≤ n + m ∧ Below w.heap.size w w' := by
  obtain ⟨ng, a, cap, x, rfl, hc, hd, hs, hp⟩ := hu
  obtain ⟨ng2, a2, cap2, y, rfl, hc2, hd2, hs2, hq⟩ := hv
  have l1 := tl_le x n
  have l2 := tl_le y m
  have HS := Lib.hid hs
  have HS2 := Lib.hid hs2
  have HP := Lib.hid (sg_split ng x n)
  have HQ := Lib.hid (sg_split ng2 y m)
  have HD := Lib.hid hd
  have HD2 := Lib.hid hd2
  subst hp hq
  clear hs hs2 hd hd2
  go_enter Tryd.func11, Tryd.ntmps11
  go_wp2_with fail
  refine (split_any ng a n cap x _ (by omega) hc (HS.out.below (by repeat (first | exact Below.refl _ _ | exact Nat.le_refl _ | (apply Below.alloc) | (simp <;> omega))))).mono ?_
  rintro e w1 ⟨rfl, rfl⟩
  go_wp2_with fail
  refine (split_any ng2 a2 m cap2 y _ (by omega) hc2 (HS2.out.below (by repeat (first | exact Below.refl _ _ | exact Nat.le_refl _ | (apply Below.alloc) | (simp <;> omega))))).mono ?_
  rintro e w1 ⟨rfl, rfl⟩
  go_wp2_with fail
  have N1 := Lib.hid (nr_split hc HD.out HS.out)
  have N2 := Lib.hid (nr_split hc2 HD2.out HS2.out)
  refine (product_nr (N1.out.below (by repeat (first | exact Below.refl _ _ | exact Nat.le_refl _ | (apply Below.alloc) | (simp <;> omega)))) (N2.out.below (by repeat (first | exact Below.refl _ _ | exact Nat.le_refl _ | (apply Below.alloc) | (simp <;> omega)))) (by omega) (by omega) (by omega)).mono ?_
  rintro e w1 ⟨s, k, rfl, hN, hk, hB1⟩
  go_wp2_with fail
  refine (signed_nr _ hN (by omega)).mono ?_
  rintro e w2 ⟨r, rfl, hR, hB2⟩
  have hB := Below.up hB1 hB2
  clear hB1 hB2 hN
  obtain ⟨ng3, a3, cap3, rfl⟩ := hR.form
  obtain ⟨hcc, hff⟩ := bcell hB
  have hz := hB.size
  simp at hz
  have hz1 : w.heap.size + 1 + 1 < w2.heap.size := by omega
  have hz2 : 0 < w2.heap.size := by omega
  have hBt := Lib.hid (Below.up (u := w) (by repeat (first | exact Below.refl _ _ | exact Nat.le_refl _ | (apply Below.alloc) | (simp <;> omega))) hB)
  have HR := Lib.hid hR
  clear hR hB hz
  go_wp2_with fail
  obtain ⟨f1, f2⟩ := fin_RI HR.out (t := w.heap.size + 1 + 1) (by simp) (by omega) hBt.out (.bool ng3) (.slice a3 k cap3)
  exact bodyPost_ret (v := .agg #[.bool ng3, .slice a3 k cap3]) (by simp [results, Tryd.results11, go_sem, hcc]) rfl ⟨_, k, rfl, f1.z (by rw [sg_mul, HP.out, HQ.out]), by omega, f2⟩
end Go.Proofs.YtkhchaoehlefdaaDoor
