/- The document's digits: few, even, value, split, byFew, half, double. -/
import Derived.Test.YtkhchaoehlefdaaDoorZaE
set_option linter.unusedVariables false
set_option linter.unusedSimpArgs false
set_option maxRecDepth 100000
namespace Go.Proofs.YtkhchaoehlefdaaDoor
open Go.RowKit

/-! ### few, even -/
theorem few_any (a : Option Addr) (n cap : Nat) (w : World) (hn : n ≤ 1000000000) :
    Calls Tryd.prog 47 #[.slice a n cap] w fun e w' => e = .returned (.bool (decide (n ≤ 3))) ∧ w = w' := by
  by_cases h : n ≤ 3
  · go_enter Tryd.func47, Tryd.ntmps47
    go_wp2_with fail
    go_ret
    exact ⟨ret_bool (by rw [decide_eq_true h]; exact decide_eq_true (by omega)), rfl⟩
  · go_enter Tryd.func47, Tryd.ntmps47
    go_wp2_with fail
    go_ret
    exact ⟨ret_bool (by rw [decide_eq_false h]; exact decide_eq_false (by omega)), rfl⟩

theorem even_any (s : Value) (l : List Int) (w : World) (h : InS w s l) (hd : D16 l) :
    Calls Tryd.prog 49 #[s] w fun e w' => e = .returned (.bool (decide (Vd l % 2 = 0))) ∧ w = w' := by
  have D := Lib.hid (show Calls Tryd.prog 46 #[s, .int .i64 0] w fun e w' => e = .returned (.int .i64 (gI l 0)) ∧ w = w' from digit_any s l 0 w h)
  have b := hd.gI 0
  have E := Lib.hid (Vt_step l 0)
  rw [Vt_zero] at E
  generalize gI l 0 = x at *
  generalize Vt l 1 = t at *
  have R : Hid (Vd l % 2 = x % 2) := Lib.hid (by have := E.out; omega)
  clear E h hd
  generalize Vd l = v at *
  by_cases h0 : x % 2 = 0
  · go_enter Tryd.func49, Tryd.ntmps49
    go_wp2_with (go_at_call 46; (with_reducible refine D.out.mono ?_); rintro e w' ⟨rfl, rfl⟩)
    go_ret
    exact ⟨ret_bool (by rw [R.out, h0]; rfl), rfl⟩
  · go_enter Tryd.func49, Tryd.ntmps49
    go_wp2_with (go_at_call 46; (with_reducible refine D.out.mono ?_); rintro e w' ⟨rfl, rfl⟩)
    go_ret
    exact ⟨ret_bool (by rw [R.out, decide_eq_false h0]; simpa using h0), rfl⟩

/-! ### value -/
theorem Vt_le {l : List Int} (h : D16 l) (k : Nat) : Vt l k ≤ Vd l := by
  have h1 := Vk_Vt l k
  have h2 := Vk_nonneg h k
  have h3 := Vt_nonneg h k
  have := Int.mul_le_mul_of_nonneg_right (show 1 ≤ Bd k by have := Bd_pos k; omega) h3
  omega
set_option maxHeartbeats 800000 in
theorem value_any (s : Value) (l : List Int) (w : World) (h : InS w s l) (hd : D16 l) (hl : l.length ≤ 3) :
    Calls Tryd.prog 71 #[s] w fun e w' => e = .returned (.int .u64 (Vd l)) ∧ w = w' := by
  have H := Lib.hid h
  obtain ⟨a, ca, rfl, hca⟩ := h.form
  have HD := Lib.hid hd
  have hb : Vd l < 281474976710656 := by
    have h1 := Vd_lt hd
    have h2 := Bd_mono hl
    have h3 : Bd 3 = 281474976710656 := by decide
    omega
  have HB := Lib.hid hb
  clear h hd hb
  generalize hn : l.length = n at *
  have HN := Lib.hid hn
  clear hn
  go_enter Tryd.func71, Tryd.ntmps71
  go_wp2_with fail
  go_loop [3, 4] (fun v i => ∃ k : Nat, k ≤ n ∧ i = .int .i64 ((k : Int) - 1) ∧ v = .int .u64 (Vt l k)) (fun _ i => (intOf i + 1).toNat)
  case atStart => exact ⟨n, Nat.le_refl _, by first | rfl | (congr 1), by rw [Vt_out (by rw [HN.out]; exact Nat.le_refl _)]⟩
  case round =>
    obtain ⟨k, hk, rfl, rfl⟩ := hrel
    by_cases hk0 : 0 < k
    · obtain ⟨j, rfl⟩ : ∃ j, k = j + 1 := ⟨k - 1, by omega⟩
      obtain ⟨b, off, rfl, hb, _, c⟩ := H.out.at (k := j) (by have := HN.out; omega)
      rw [← gI_at (by have := HN.out; omega)] at c
      have e0 : ((j + 1 : Nat) : Int) - 1 = (j : Int) := by omega
      rw [e0]
      clear e0
      have E := Lib.hid (Vt_step l j)
      have b1 := HD.out.gI j
      have b2 := Vt_nonneg HD.out (j + 1)
      have b3 : gI l j + 65536 * Vt l (j + 1) < 281474976710656 := by have h1 := Vt_le HD.out j; have h2 := HB.out; have h3 := E.out; omega
      generalize gI l j = x at *
      generalize Vt l (j + 1) = t at *
      clear H HD HB
      go_wp2_with fail
      go_round
      case rel => exact ⟨j, by omega, rfl, by rw [E.out]; congr 1; omega⟩
      case measure => simp [intOf] <;> omega
    · obtain rfl : k = 0 := by omega
      have b2 := Vt_nonneg HD.out 0
      go_wp2_with fail
      go_ret
      exact ⟨rfl, rfl⟩

/-! ### split -/
/-- Between two rounds. -/
def SplI (w : World) (z : Int) (k : Nat) (v : Value) (n : Int) (wr : World) : Prop :=
  ∃ o, Io w.heap.size wr v o ∧ o.length = k ∧ D16 o ∧ Vd o + n * Bd k = z ∧ 0 ≤ n ∧ (n = 0 → Nl o) ∧ k ≤ 4 ∧ Below w.heap.size w wr
theorem split_step {o : List Int} {k : Nat} {n z : Int} (ho : o.length = k) (h : Vd o + n * Bd k = z) : Vd (o ++ [n % 65536]) + n / 65536 * Bd (k + 1) = z := by
  rw [Vd_snoc, ho, Bd_succ]
  have e : n = 65536 * (n / 65536) + n % 65536 := by omega
  generalize n / 65536 = D at *
  generalize n % 65536 = R at *
  generalize Bd k = p at *
  subst e
  grind
theorem Nl_snoc {o : List Int} {x : Int} (h : x ≠ 0) : Nl (o ++ [x]) := fun k hk => by
  have : k = o.length := by simp at hk; omega
  rw [this, gI_snoc]; exact h
set_option maxHeartbeats 800000 in
theorem zsplit_any (z : Int) (w : World) (hz : 0 ≤ z ∧ z ≤ 18446744073709551615) :
    Calls Tryd.prog 72 #[.int .u64 z] w (LessP w z 4) := by
  obtain ⟨z0, z1⟩ := hz
  have h0 : Hid (SplI w z 0 (.slice none 0 0) z w) := Lib.hid ⟨[], Io.nil _ _, rfl, D16_nil, by rw [Vd_nil, Bd_zero]; omega, z0, fun _ => Nl_nil, by omega, Below.refl _ _⟩
  have hz1 := Lib.hid z1
  clear z1
  go_enter Tryd.func72, Tryd.ntmps72
  go_wp2_with fail
  go_loopg [0, 3] z.toNat (fun g nv v wr => ∃ (k : Nat) (n : Int), nv = .int .u64 n ∧ n.toNat ≤ g ∧ 0 ≤ n ∧ n ≤ 18446744073709551615 ∧ Hid (SplI w z k v n wr))
  case atStart => exact ⟨0, z, rfl, Nat.le_refl _, z0, hz1.out, h0⟩
  case round =>
    clear h0
    obtain ⟨k, n, rfl, hg, n0, n1, HI⟩ := hrel
    obtain ⟨o, hO, hlen, hd, hv, _, hnl, hk4, hB⟩ := HI.out
    by_cases hn : 0 < n
    · have hk3 : k < 4 := by
        have h1 := Vd_nonneg hd
        have h2 := Bd_pos k
        have h3 := Int.mul_le_mul_of_nonneg_right (show 1 ≤ n by omega) (Int.le_of_lt h2)
        have h4 : Bd 4 = 18446744073709551616 := by decide
        have h5 := hz1.out
        exact Bd_lt (by omega)
      have hO' := Lib.hid hO
      have hB' := Lib.hid hB
      have hv' := Lib.hid hv
      have hd' := Lib.hid hd
      have hI : I64 (n % 65536) := by unfold I64; omega
      clear HI hO hB hv hd hnl
      go_wp2_with (at_builtin; refine append_one rfl _ _ rfl rfl (hO'.out.below (Below.one _ _)) wr.heap.size (n % 65536) hI rfl (new_one _ _ _) (by omega) (by have := hB'.out.size; simp; omega) ?_)
      intro v' w' h5 h6
      have S : Hid (SplI w z (k + 1) v' (n / 65536) w') := Lib.hid ⟨_, h5, by simp [hlen], hd'.out.snoc (by omega), split_step hlen hv'.out, by omega, fun h => Nl_snoc (by omega), by omega, (hB'.out.alloc hB'.out.size _).trans h6⟩
      clear h5 h6 hO' hB' hv' hd'
      go_wp2
      go_roundg (gk - 1)
      case rel => exact ⟨k + 1, n / 65536, rfl, by omega, by omega, by omega, S⟩
      all_goals omega
    · obtain rfl : n = 0 := by omega
      obtain ⟨a, c, rfl, h7⟩ := hO.slice hlen
      have S : Hid (LessP w z 4 (.returned (.slice a k c)) wr) := Lib.hid ⟨a, c, k, o, rfl, h7, hlen, hk4, hd, hnl rfl, by rw [← hv]; omega, hB⟩
      clear HI hO hv hd hnl h7 hB
      go_wp2_with fail
      go_ret
      exact S.out

/-! ### From the highest digit on -/
theorem Vt_set {o : List Int} {j : Nat} (h : j < o.length) (v : Int) : Vt (o.set j v) (j + 1) = Vt o (j + 1) := by
  unfold Vt; rw [List.drop_set_of_lt (by omega)]
theorem gI_set {o : List Int} {j : Nat} (h : j < o.length) (v : Int) : gI (o.set j v) j = v := by
  rw [gI_at (by rw [List.length_set]; exact h)]; simp
theorem top_step {o l : List Int} {j : Nat} {by_ r x n : Int} (hj : j < o.length) (h : Vt o (j + 1) * by_ + r = Vt l (j + 1)) (hx : gI l j = x) (hn : n = r * 65536 + x) :
    Vt (o.set j (n / by_)) j * by_ + n % by_ = Vt l j := by
  rw [Vt_step l j, Vt_step (o.set j (n / by_)) j, Vt_set hj, gI_set hj, hx, ← h]
  have e : by_ * (n / by_) + n % by_ = n := Int.mul_ediv_add_emod n by_
  generalize n / by_ = D at *
  generalize n % by_ = R at *
  generalize Vt o (j + 1) = t at *
  grind
/-- Between two rounds of a division by a small number. -/
def TopI (W : World) (b : Nat) (l : List Int) (d : Int) (k : Nat) (r : Int) (wr : World) : Prop :=
  ∃ o, Ol wr b o ∧ o.length = l.length ∧ D16 o ∧ Vt o k * d + r = Vt l k ∧ Below b W wr
theorem TopI.done {W : World} {b : Nat} {l : List Int} {d r : Int} {wr : World} (h : TopI W b l d 0 r wr) (h0 : 0 ≤ r) (h1 : r < d) : ∃ o, Ol wr b o ∧ o.length = l.length ∧ D16 o ∧ Vd o = Vd l / d ∧ r = Vd l % d ∧ Below b W wr := by
  obtain ⟨o, a1, a2, a3, a4, a5⟩ := h
  rw [Vt_zero, Vt_zero] at a4
  have e1 := Int.add_mul_ediv_right r (Vd o) (show d ≠ 0 by omega)
  have e2 := Int.add_mul_emod_self_right r (Vd o) d
  rw [Int.add_comm, a4] at e1
  rw [Int.add_comm, a4] at e2
  rw [Int.ediv_eq_zero_of_lt h0 h1] at e1
  rw [Int.emod_eq_of_lt h0 h1] at e2
  exact ⟨o, a1, a2, a3, by omega, e2.symm, a5⟩

set_option maxHeartbeats 800000 in
theorem half_any (s : Value) (l : List Int) (n : Nat) (w : World) (h : InS w s l) (hd : D16 l) (hn : l.length = n) (hb : n ≤ 100000000) :
    Calls Tryd.prog 50 #[s] w (LessP w (Vd l / 2) n) := by
  have H := Lib.hid h
  obtain ⟨a, ca, rfl, hca⟩ := h.form
  have HD := Lib.hid hd
  clear h hd
  rw [hn] at H hca ⊢
  have HN := Lib.hid hn
  clear hn
  go_enter Tryd.func50, Tryd.ntmps50
  go_wp2_with (at_make; refine makeI rfl _ _ _ rfl (by kernel_rfl) n _ _ rfl rfl rfl rfl (by omega) ?_; intro w1 hO hB)
  have h0 : Hid (TopI w w.heap.size l 2 n 0 w1) := Lib.hid ⟨_, hO, by rw [HN.out]; simp, D16_zero _, by rw [Vt_out (by simp), Vt_out (by rw [HN.out]; exact Nat.le_refl _)]; rfl, hB⟩
  clear hO hB
  go_loopw [4, 5] (fun rv iv wr => ∃ (k : Nat) (r : Int), k ≤ n ∧ iv = .int .i64 ((k : Int) - 1) ∧ rv = .int .i64 r ∧ 0 ≤ r ∧ r < 2 ∧ Hid (TopI w w.heap.size l 2 k r wr)) (fun _ iv _ => (intOf iv + 1).toNat)
  case atStart => exact ⟨n, 0, Nat.le_refl _, rfl, rfl, by omega, by omega, h0⟩
  case round =>
    clear h0
    obtain ⟨k, r, hk, rfl, rfl, r0, r1, HI⟩ := hrel
    by_cases hk0 : 0 < k
    · obtain ⟨j, rfl⟩ : ∃ j, k = j + 1 := ⟨k - 1, by omega⟩
      obtain ⟨o, hO, hlen, hd, hv, hB⟩ := HI.out
      obtain ⟨b, off, rfl, hb, _, c⟩ := (H.out.below hB).at (k := j) (by have := HN.out; omega)
      rw [← gI_at (by have := HN.out; omega)] at c
      have e0 : ((j + 1 : Nat) : Int) - 1 = (j : Int) := by omega
      rw [e0]
      clear e0
      have hjo : j < o.length := by have := HN.out; omega
      have cz := hO.cell hjo
      have fz := hO.free j
      have b1 := HD.out.gI j
      have st := Lib.hid (fun x m hx hm => top_step (by_ := 2) (x := x) (n := m) hjo hv hx hm)
      have hx0 := Lib.hid (show gI l j = gI l j from rfl)
      have OL := Lib.hid hO
      have HDo := Lib.hid hd
      have HB := Lib.hid hB
      clear hO hd hB hv HI
      generalize hx : gI l j = x at c b1
      have HX := Lib.hid hx
      clear hx hx0
      obtain ⟨M, hM⟩ : ∃ M, M = r * 65536 + x := ⟨_, rfl⟩
      have S : Hid (TopI w w.heap.size l 2 j (M % 2) (wr.setCell ⟨w.heap.size, j, none⟩ (.int .i64 (M / 2)))) := Lib.hid ⟨o.set j (M / 2), OL.out.set _ _, by rw [List.length_set]; exact hlen, HDo.out.set _ (by omega), st.out x M HX.out hM, HB.out.setCell (p := ⟨w.heap.size, j, none⟩) (Nat.le_refl _) _⟩
      have m0 : 0 ≤ M := by omega
      have m1 : M ≤ 131071 := by omega
      have HM := Lib.hid hM
      rw [hM] at S
      clear st OL HDo HB HX hM m0 m1 HM M
      go_wp2_with fail
      go_roundw
      case rel => exact ⟨j, _, by omega, rfl, rfl, by omega, by omega, S⟩
      case measure => simp [intOf] <;> omega
    · obtain rfl : k = 0 := by omega
      obtain ⟨o, hO, hlen, hd, hv, hr, hB⟩ := TopI.done HI.out r0 r1
      have hI := hO.ins (n := n) (cap := n) (by rw [hlen, HN.out]) (Nat.le_refl _) hd
      have CU := Lib.hid (cut_any _ _ o n _ hI (by omega))
      have S : ∀ w', wr = w' → LessP w (Vd l / 2) n (.returned (.slice (some ⟨w.heap.size, 0, none⟩) (cutL o).length n)) w' := fun w' hw => hw ▸ ⟨_, n, _, cutL o, rfl, hI.cut, rfl, by have := cutL_le o; have := HN.out; omega, hd.cut, Nl_cut o, by rw [Vd_cut, hv], hB⟩
      have S' := Lib.hid S
      clear S hO hlen hd hv hr hB hI HI
      go_wp2_with (go_at_call 60; (with_reducible refine CU.out.mono ?_); rintro e w' ⟨rfl, rfl⟩)
      go_ret
      exact S'.out _ rfl
end Go.Proofs.YtkhchaoehlefdaaDoor
