/- Integers: Of, Neg, Sign, Cmp. -/
import Derived.Test.YtkhchaoehlefdaaDoorExI
namespace Go.Proofs.YtkhchaoehlefdaaDoor
open Go.RowKit

theorem wrap_neg (z : Int) (h0 : -9223372036854775808 ≤ z) (h1 : z < 0) : IntKind.u64.wrap (-IntKind.u64.wrap z) = - z := by
  rw [IntKind.wrap_u64, IntKind.wrap_u64]; omega

theorem Of_any (z : Int) (hz : -9223372036854775808 ≤ z ∧ z ≤ 9223372036854775807) (w : World) :
    Calls Tryd.prog 31 #[.int .i64 z] w fun e w' => ∃ r k, e = .returned r ∧ RI w' w.heap.size r k z ∧ k ≤ 2 ∧ Below w.heap.size w w' := by
  obtain ⟨z0, z1⟩ := hz
  have hB0 : Below w.heap.size w (w.alloc (.cells #[.bool false, .slice none 0 0] 24)) := (Below.refl _ _).alloc (Nat.le_refl _) _
  by_cases hn : z < 0
  · have E1 := Lib.hid (wrap_neg z z0 hn)
    go_enter Tryd.func31, Tryd.ntmps31
    go_wp2_with fail
    rw [E1.out]
    refine (ofWord_any (-z) (by omega) _).mono ?_
    rintro e w1 ⟨s, k, rfl, hN, hk, hB1⟩
    go_wp2_with fail
    refine (signed_nr true hN (by omega)).mono ?_
    rintro e w2 ⟨r, rfl, hR, hB2⟩
    have hB := Below.up hB1 hB2
    clear hB1 hB2 hN E1
    obtain ⟨ng3, a3, cap3, rfl⟩ := hR.form
    obtain ⟨hcc, hff⟩ := bcell hB
    have hz := hB.size
    simp at hz
    have hz2 : 0 < w2.heap.size := by omega
    have hBt := Lib.hid (Below.up hB0 hB)
    have HR := Lib.hid hR
    clear hR hB hB0
    go_wp2_with fail
    obtain ⟨f1, f2⟩ := fin_RI HR.out (t := w.heap.size) (by simp) (by omega) hBt.out (.bool ng3) (.slice a3 k cap3)
    exact bodyPost_ret (v := .agg #[.bool ng3, .slice a3 k cap3]) (by simp [results, Tryd.results31, go_sem, hcc]) rfl ⟨_, k, rfl, f1.z (by rw [sg_true]; omega), by omega, f2⟩
  · go_enter Tryd.func31, Tryd.ntmps31
    go_wp2_with fail
    refine (ofWord_any z (by omega) _).mono ?_
    rintro e w1 ⟨s, k, rfl, hN, hk, hB1⟩
    go_wp2_with fail
    refine (signed_nr false hN (by omega)).mono ?_
    rintro e w2 ⟨r, rfl, hR, hB2⟩
    have hB := Below.up hB1 hB2
    clear hB1 hB2 hN
    obtain ⟨ng3, a3, cap3, rfl⟩ := hR.form
    obtain ⟨hcc, hff⟩ := bcell hB
    have hz := hB.size
    simp at hz
    have hz2 : 0 < w2.heap.size := by omega
    have hBt := Lib.hid (Below.up hB0 hB)
    have HR := Lib.hid hR
    clear hR hB hB0
    go_wp2_with fail
    obtain ⟨f1, f2⟩ := fin_RI HR.out (t := w.heap.size) (by simp) (by omega) hBt.out (.bool ng3) (.slice a3 k cap3)
    exact bodyPost_ret (v := .agg #[.bool ng3, .slice a3 k cap3]) (by simp [results, Tryd.results31, go_sem, hcc]) rfl ⟨_, k, rfl, f1.z (sg_false z), by omega, f2⟩

set_option maxHeartbeats 800000 in
theorem Neg_any (u : Value) (n : Nat) (p : Int) (w : World) (hu : AI w u n p) (hn : n ≤ 1000000000) :
    Calls Tryd.prog 8 #[u] w fun e w' => ∃ r k, e = .returned r ∧ RI w' w.heap.size r k (-p) ∧ k ≤ n ∧ Below w.heap.size w w' := by
  obtain ⟨ng, a, cap, x, rfl, hc, hd, hs, hp⟩ := hu
  have HS := Lib.hid hs
  have HP := Lib.hid (sg_split ng x n)
  have N1 := Lib.hid (nr_split hc hd hs)
  have l1 := tl_le x n
  subst hp
  clear hs hd
  go_enter Tryd.func8, Tryd.ntmps8
  go_wp2_with fail
  refine (split_any ng a n cap x _ hn hc (HS.out.below (by repeat (first | exact Below.refl _ _ | exact Nat.le_refl _ | (apply Below.alloc) | (simp <;> omega))))).mono ?_
  rintro e w1 ⟨rfl, rfl⟩
  clear HS
  go_wp2_with fail
  refine (fresh_nr (N1.out.below (by repeat (first | exact Below.refl _ _ | exact Nat.le_refl _ | (apply Below.alloc) | (simp <;> omega)))) (by omega)).mono ?_
  rintro e w1 ⟨s, rfl, hN, hB1⟩
  go_wp2_with fail
  refine (signed_nr _ hN (by omega)).mono ?_
  rintro e w2 ⟨r, rfl, hR, hB2⟩
  have hB := Below.up hB1 hB2
  clear hB1 hB2 hN
  obtain ⟨ng3, a3, cap3, rfl⟩ := hR.form
  obtain ⟨hcc, hff⟩ := bcell hB
  have hz := hB.size
  simp at hz
  have hz1 : w.heap.size + 1 < w2.heap.size := by omega
  have hz2 : 0 < w2.heap.size := by omega
  have hBt := Lib.hid (Below.up (u := w) (by repeat (first | exact Below.refl _ _ | exact Nat.le_refl _ | (apply Below.alloc) | (simp <;> omega))) hB)
  have HR := Lib.hid hR
  clear hR hB hz
  go_wp2_with fail
  obtain ⟨f1, f2⟩ := fin_RI HR.out (t := w.heap.size + 1) (by simp) (by omega) hBt.out (.bool ng3) (.slice a3 (tl x n) cap3)
  exact bodyPost_ret (v := .agg #[.bool ng3, .slice a3 (tl x n) cap3]) (by simp [results, Tryd.results8, go_sem, hcc]) rfl ⟨_, _, rfl, f1.z (by rw [sg_not, HP.out]), by omega, f2⟩

theorem nb_pos {ng : Bool} {x : Nat → Int} {n : Nat} (hd : Dg x) (h : nb ng x n = true) : 0 < V x n := by
  unfold nb at h
  simp only [Bool.and_eq_true, decide_eq_true_eq] at h
  rw [← V_tl]; exact V_pos hd h.2 (tl_top x n h.2)

theorem Sign_any (u : Value) (n : Nat) (p : Int) (w : World) (hu : AI w u n p) (hn : n ≤ 1000000000) :
    Calls Tryd.prog 20 #[u] w fun e w' => e = .returned (.int .i64 (ord p 0)) ∧ Below w.heap.size w w' := by
  obtain ⟨ng, a, cap, x, rfl, hc, hd, hs, hp⟩ := hu
  have HS := Lib.hid hs
  have hv2 : tl x n = 0 → V x n = 0 := V_tl_zero
  have hv3 : 0 < tl x n → 0 < V x n := fun h => by rw [← V_tl]; exact V_pos hd h (tl_top x n h)
  have hq := sg_split ng x n
  have l1 := tl_le x n
  rw [← hp] at hq
  clear hs hp hd
  go_enter Tryd.func20, Tryd.ntmps20
  go_wp2_with fail
  refine (split_any ng a n cap x _ hn hc (HS.out.below (by repeat (first | exact Below.refl _ _ | exact Nat.le_refl _ | (apply Below.alloc) | (simp <;> omega))))).mono ?_
  rintro e w1 ⟨rfl, rfl⟩
  clear HS
  by_cases h0 : tl x n = 0
  · have hr : Hid (ord p 0 = 0) := ord_eq (by rw [← hq, hv2 h0]; cases nb ng x n <;> rfl)
    rw [h0]
    clear hv2 hv3 hq
    go_wp2_with fail
    go_ret
    exact ⟨ret_int hr.out.symm, by repeat (first | exact Below.refl _ _ | exact Nat.le_refl _ | (apply Below.alloc) | (simp <;> omega))⟩
  · have h1 : ((tl x n : Nat) : Int) ≠ 0 := by omega
    have h2 : (((tl x n : Nat) : Int) == 0) = false := by simp; omega
    have hv := hv3 (by omega)
    cases hb : nb ng x n
    · have hr : Hid (ord p 0 = 1) := ord_gt (by rw [← hq, hb]; exact hv)
      clear hv2 hv3 hq
      go_wp2_with fail
      go_ret
      exact ⟨ret_int hr.out.symm, by repeat (first | exact Below.refl _ _ | exact Nat.le_refl _ | (apply Below.alloc) | (simp <;> omega))⟩
    · have hr : Hid (ord p 0 = -1) := ord_lt (by rw [← hq, hb, sg_true]; omega)
      clear hv2 hv3 hq
      go_wp2_with fail
      go_ret
      exact ⟨ret_int hr.out.symm, by repeat (first | exact Below.refl _ _ | exact Nat.le_refl _ | (apply Below.alloc) | (simp <;> omega))⟩

theorem ord_neg (p q : Int) : ord (-p) (-q) = ord q p := by unfold ord; split <;> split <;> (first | omega | (split <;> omega) | (simp; omega))

set_option maxHeartbeats 1600000 in
theorem Cmp_any (u v : Value) (n m : Nat) (p q : Int) (w : World) (hu : AI w u n p) (hv : AI w v m q) (hn : n ≤ 1000000000) (hm : m ≤ 1000000000) :
    Calls Tryd.prog 22 #[u, v] w fun e w' => e = .returned (.int .i64 (ord p q)) ∧ Below w.heap.size w w' := by
  obtain ⟨ng, a, cap, x, rfl, hc, hd, hs, hp⟩ := hu
  obtain ⟨ng2, a2, cap2, y, rfl, hc2, hd2, hs2, hq⟩ := hv
  have l1 := tl_le x n
  have l2 := tl_le y m
  have HS := Lib.hid hs
  have HS2 := Lib.hid hs2
  have HP := Lib.hid (sg_split ng x n)
  have HQ := Lib.hid (sg_split ng2 y m)
  have N1 := Lib.hid (nr_split hc hd hs)
  have N2 := Lib.hid (nr_split hc2 hd2 hs2)
  have P1 := Lib.hid (fun h => nb_pos (ng := ng) (n := n) hd h)
  have P2 := Lib.hid (fun h => nb_pos (ng := ng2) (n := m) hd2 h)
  have Z1 := Lib.hid (V_nonneg hd n)
  have Z2 := Lib.hid (V_nonneg hd2 m)
  subst hp hq
  clear hs hs2 hd hd2
  go_enter Tryd.func22, Tryd.ntmps22
  go_wp2_with fail
  refine (split_any ng a n cap x _ (by omega) hc (HS.out.below (by repeat (first | exact Below.refl _ _ | exact Nat.le_refl _ | (apply Below.alloc) | (simp <;> omega))))).mono ?_
  rintro e w1 ⟨rfl, rfl⟩
  go_wp2_with fail
  refine (split_any ng2 a2 m cap2 y _ (by omega) hc2 (HS2.out.below (by repeat (first | exact Below.refl _ _ | exact Nat.le_refl _ | (apply Below.alloc) | (simp <;> omega))))).mono ?_
  rintro e w1 ⟨rfl, rfl⟩
  clear HS HS2
  cases hb : nb ng x n
  · cases hb2 : nb ng2 y m
    · have HR : Hid (ord (V x n) (V y m) = ord (sg ng (V x n)) (sg ng2 (V y m))) := by rw [← HP.out, ← HQ.out, hb, hb2]; rfl
      clear HP HQ P1 P2
      go_wp2_with fail
      refine (order_nr (N1.out.below (by repeat (first | exact Below.refl _ _ | exact Nat.le_refl _ | (apply Below.alloc) | (simp <;> omega)))) (N2.out.below (by repeat (first | exact Below.refl _ _ | exact Nat.le_refl _ | (apply Below.alloc) | (simp <;> omega)))) (by omega) (by omega)).mono ?_
      rintro e w1 ⟨rfl, d, rfl⟩
      go_wp2_with fail
      go_ret
      exact ⟨ret_int HR.out, below_drewN (by repeat (first | exact Below.refl _ _ | exact Nat.le_refl _ | (apply Below.alloc) | (simp <;> omega))) _⟩
    · have HR : Hid (ord (sg ng (V x n)) (sg ng2 (V y m)) = 1) := ord_gt (by rw [← HP.out, ← HQ.out, hb, hb2, sg_true, sg_false]; have := P2.out hb2; have := Z1.out; omega)
      clear HP HQ P1 P2
      go_wp2_with fail
      go_ret
      exact ⟨ret_int HR.out.symm, (by repeat (first | exact Below.refl _ _ | exact Nat.le_refl _ | (apply Below.alloc) | (simp <;> omega)))⟩
  · cases hb2 : nb ng2 y m
    · have HR : Hid (ord (sg ng (V x n)) (sg ng2 (V y m)) = -1) := ord_lt (by rw [← HP.out, ← HQ.out, hb, hb2, sg_true, sg_false]; have := P1.out hb; have := Z2.out; omega)
      clear HP HQ P1 P2
      go_wp2_with fail
      go_ret
      exact ⟨ret_int HR.out.symm, (by repeat (first | exact Below.refl _ _ | exact Nat.le_refl _ | (apply Below.alloc) | (simp <;> omega)))⟩
    · have HR : Hid (ord (V y m) (V x n) = ord (sg ng (V x n)) (sg ng2 (V y m))) := by rw [← HP.out, ← HQ.out, hb, hb2, sg_true, sg_true, ord_neg]; exact rfl
      clear HP HQ P1 P2
      go_wp2_with fail
      refine (order_nr (N2.out.below (by repeat (first | exact Below.refl _ _ | exact Nat.le_refl _ | (apply Below.alloc) | (simp <;> omega)))) (N1.out.below (by repeat (first | exact Below.refl _ _ | exact Nat.le_refl _ | (apply Below.alloc) | (simp <;> omega)))) (by omega) (by omega)).mono ?_
      rintro e w1 ⟨rfl, d, rfl⟩
      go_wp2_with fail
      go_ret
      exact ⟨ret_int HR.out, below_drewN (by repeat (first | exact Below.refl _ _ | exact Nat.le_refl _ | (apply Below.alloc) | (simp <;> omega))) _⟩
end Go.Proofs.YtkhchaoehlefdaaDoor
