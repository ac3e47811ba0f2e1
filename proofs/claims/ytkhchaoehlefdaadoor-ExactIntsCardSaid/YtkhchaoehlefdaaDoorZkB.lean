/- Contract: Mul of any integers. -/
import Derived.Test.YtkhchaoehlefdaaDoorExJ
import Derived.Test.YtkhchaoehlefdaaDoorZkA
namespace Go.Proofs.YtkhchaoehlefdaaDoor
open Go.RowKit

set_option maxHeartbeats 800000 in
theorem Mul_all (u v : Value) (n m : Nat) (p q : Int) (w : World) (hu : AI w u n p) (hv : AI w v m q) (hn : n ≤ 10000000) (hm : m ≤ 10000000) :
    Calls Tryd.prog 11 #[u, v] w fun e w' => ∃ r k, e = .returned r ∧ RI w' w.heap.size r k (p * q) ∧ k ≤ n + m ∧ Below w.heap.size w w' := by
  obtain ⟨ng, a, cap, x, rfl, hc, hd, hs, hp⟩ := hu
  obtain ⟨ng2, a2, cap2, y, rfl, hc2, hd2, hs2, hq⟩ := hv
  have l1 := tl_le x n
  have l2 := tl_le y m
  have HS := Lib.hid hs
  have HS2 := Lib.hid hs2
  have HP := Lib.hid (sg_split ng x n)
  have HQ := Lib.hid (sg_split ng2 y m)
  have HD := Lib.hid hd
  have HD2 := Lib.hid hd2
  subst hp hq
  clear hs hs2 hd hd2
  go_enter Tryd.func11, Tryd.ntmps11
  go_wp2_with fail
  refine (split_any ng a n cap x _ (by omega) hc (HS.out.below (by repeat (first | exact Below.refl _ _ | exact Nat.le_refl _ | (apply Below.alloc) | (simp <;> omega))))).mono ?_
  rintro e w1 ⟨rfl, rfl⟩
  go_wp2_with fail
  refine (split_any ng2 a2 m cap2 y _ (by omega) hc2 (HS2.out.below (by repeat (first | exact Below.refl _ _ | exact Nat.le_refl _ | (apply Below.alloc) | (simp <;> omega))))).mono ?_
  rintro e w1 ⟨rfl, rfl⟩
  go_wp2_with fail
  have N1 := Lib.hid (nr_split hc HD.out HS.out)
  have N2 := Lib.hid (nr_split hc2 HD2.out HS2.out)
  refine (product_any _ _ _ _ _ _ _ (N1.out.below (by repeat (first | exact Below.refl _ _ | exact Nat.le_refl _ | (apply Below.alloc) | (simp <;> omega)))) (N2.out.below (by repeat (first | exact Below.refl _ _ | exact Nat.le_refl _ | (apply Below.alloc) | (simp <;> omega)))) (by omega) (by omega)).mono ?_
  rintro e w1 ⟨s, k, rfl, hN, hk, hB1⟩
  go_wp2_with fail
  refine (signed_nr _ hN (by omega)).mono ?_
  rintro e w2 ⟨r, rfl, hR, hB2⟩
  have hB := Below.up hB1 hB2
  clear hB1 hB2 hN
  obtain ⟨ng3, a3, cap3, rfl⟩ := hR.form
  obtain ⟨hcc, hff⟩ := bcell hB
  have hz := hB.size
  simp at hz
  have hz1 : w.heap.size + 1 + 1 < w2.heap.size := by omega
  have hz2 : 0 < w2.heap.size := by omega
  have hBt := Lib.hid (Below.up (u := w) (by repeat (first | exact Below.refl _ _ | exact Nat.le_refl _ | (apply Below.alloc) | (simp <;> omega))) hB)
  have HR := Lib.hid hR
  clear hR hB hz
  go_wp2_with fail
  obtain ⟨f1, f2⟩ := fin_RI HR.out (t := w.heap.size + 1 + 1) (by simp) (by omega) hBt.out (.bool ng3) (.slice a3 k cap3)
  exact bodyPost_ret (v := .agg #[.bool ng3, .slice a3 k cap3]) (by simp [results, Tryd.results11, go_sem, hcc]) rfl ⟨_, k, rfl, f1.z (by rw [sg_mul, HP.out, HQ.out]), by omega, f2⟩
theorem Normal_ri (u : Value) (n : Nat) (p : Int) (w : World) (hu : AI w u n p) (hn : n ≤ 1000000000) :
    Calls Tryd.prog 7 #[u] w fun e w' => ∃ r k, e = .returned r ∧ RI w' w.heap.size r k p ∧ k ≤ n ∧ Below w.heap.size w w' := by
  obtain ⟨ng, a, cap, x, rfl, hc, hd, hs, hp⟩ := hu
  have HS := Lib.hid hs
  have HP := Lib.hid (sg_split ng x n)
  have N1 := Lib.hid (nr_split hc hd hs)
  have l1 := tl_le x n
  subst hp
  clear hs hd
  go_enter Tryd.func7, Tryd.ntmps7
  go_wp2_with fail
  refine (split_any ng a n cap x _ hn hc (HS.out.below (by repeat (first | exact Below.refl _ _ | exact Nat.le_refl _ | (apply Below.alloc) | (simp <;> omega))))).mono ?_
  rintro e w1 ⟨rfl, rfl⟩
  clear HS
  go_wp2_with fail
  refine (fresh_nr (N1.out.below (by repeat (first | exact Below.refl _ _ | exact Nat.le_refl _ | (apply Below.alloc) | (simp <;> omega)))) (by omega)).mono ?_
  rintro e w1 ⟨s, rfl, hN, hB1⟩
  go_wp2_with fail
  refine (signed_nr _ hN (by omega)).mono ?_
  rintro e w2 ⟨r, rfl, hR, hB2⟩
  have hB := Below.up hB1 hB2
  clear hB1 hB2 hN
  obtain ⟨ng3, a3, cap3, rfl⟩ := hR.form
  obtain ⟨hcc, hff⟩ := bcell hB
  have hz := hB.size
  simp at hz
  have hz1 : w.heap.size + 1 < w2.heap.size := by omega
  have hz2 : 0 < w2.heap.size := by omega
  have hBt := Lib.hid (Below.up (u := w) (by repeat (first | exact Below.refl _ _ | exact Nat.le_refl _ | (apply Below.alloc) | (simp <;> omega))) hB)
  have HR := Lib.hid hR
  clear hR hB hz
  go_wp2_with fail
  obtain ⟨f1, f2⟩ := fin_RI HR.out (t := w.heap.size + 1) (by simp) (by omega) hBt.out (.bool ng3) (.slice a3 (tl x n) cap3)
  exact bodyPost_ret (v := .agg #[.bool ng3, .slice a3 (tl x n) cap3]) (by simp [results, Tryd.results7, go_sem, hcc]) rfl ⟨_, _, rfl, f1.z HP.out, by omega, f2⟩


end Go.Proofs.YtkhchaoehlefdaaDoor
