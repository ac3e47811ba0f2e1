/- Contracts: sum, difference, order. -/
import Derived.Test.YtkhchaoehlefdaaDoorExE
namespace Go.Proofs.YtkhchaoehlefdaaDoor
open Go.RowKit

theorem sl_ne {w : World} {a : Option Addr} {n b : Nat} {x : Nat → Int} (h : Sl w a n x) (hb : w.heap.size ≤ b) : 0 < n → ∀ c o, a = some ⟨c, o, none⟩ → c ≠ b := by
  intro hn c o e
  obtain ⟨b', off, e', hr⟩ := h hn
  rw [e] at e'
  injection e' with e'
  injection e' with e1 e2
  have := hr.lt hn
  omega
theorem nt_of_trim {w : World} {base b N k cap : Nat} {x : Nat → Int} (hO : Own w b N x) (hd : Dg x) (hb : base ≤ b) (hk : k ≤ N) (hc : k ≤ cap) : Nt w base (.slice (some ⟨b, 0, none⟩) (tl x k) cap) (tl x k) (V x k) := by
  have := tl_le x k
  exact ⟨x, ⟨_, _, rfl, by omega, hd, fun _ => ⟨_, _, rfl, hb, by omega, hO⟩⟩, V_tl x k, tl_top x k⟩
theorem sl_chg {w w' : World} {a : Option Addr} {n b : Nat} {x : Nat → Int} (h : Sl w a n x) (k : Chg b w w') (hne : 0 < n → ∀ c o, a = some ⟨c, o, none⟩ → c ≠ b) : Sl w' a n x :=
  fun hn => let ⟨c, off, e, hr⟩ := h hn; ⟨c, off, e, hr.chg k (hne hn c off e)⟩
theorem sl_own {w : World} {b N n : Nat} {x : Nat → Int} (h : Own w b N x) (hn : n ≤ N) : Sl w (some ⟨b, 0, none⟩) n x := fun _ => ⟨b, 0, rfl, h.row0 hn⟩
theorem cpy_V {y : Nat → Int} {n : Nat} : V (cpy (fun _ => 0) 0 n y) (n + 1) = V y n := by
  rw [V_succ, cpy_out (by omega), V_congr (y := y) (fun j hj => by simpa using cpy_in (x := fun _ => 0) (off := 0) (y := y) hj)]; simp
theorem Dg_zero : Dg (fun _ => 0) := fun _ => ⟨by simp, by simp⟩


set_option maxHeartbeats 800000 in
set_option maxRecDepth 100000 in
theorem sum_ge (a a2 : Option Addr) (n m cap cap2 : Nat) (x y : Nat → Int) (w : World) (hn : n ≤ 100000000) (hm : m ≤ n) (hx : Dg x) (hy : Dg y) (hr : Sl w a n x) (hr2 : Sl w a2 m y) :
    Calls Tryd.prog 62 #[.slice a n cap, .slice a2 m cap2] w fun e w' => ∃ v k, e = .returned v ∧ Nt w' w.heap.size v k (V x n + V y m) ∧ k ≤ n + 1 ∧ Below w.heap.size w w' := by
  have HX := Lib.hid hx
  have HY := Lib.hid hy
  have HR := Lib.hid hr
  have HR2 := Lib.hid hr2
  clear hr hr2 hx hy
  go_enter Tryd.func62, Tryd.ntmps62
  go_wp2_with (first
    | (at_make; refine make32 rfl _ _ _ rfl (by kernel_rfl) (n + 1) _ _ rfl rfl (by omega) (by omega) (by omega) ?_; intro w1 hO hB)
    | ((with_reducible refine is_copy ?_); refine copy32 rfl _ _ _ _ rfl (by kernel_rfl) w.heap.size 0 (n + 1) (n + 1) a n cap rfl rfl (n + 1) _ x hO n (by simp) (by omega) (sl_below HR.out hB) ?_; intro w2 hO2 hC))
  have hB2 := Chg.below hB hC hB.size (Nat.le_refl _)
  have hne := sl_ne HR2.out (Nat.le_refl _)
  have hs := sl_below HR2.out hB2
  have hd := Dg.cpy Dg_zero HX.out 0 n
  have hv : V (sh (cpy (fun _ => 0) 0 n x) 0) (n + 1) = V x n := by rw [sh_zero]; exact cpy_V
  have hl1 := V_lt HX.out n
  have hl2 := V_lt HY.out m
  have hl3 := P_mono (show m ≤ n by omega)
  have hl4 := P_succ n
  have hl5 := P_pos n
  refine (addTo_any w.heap.size 0 m (n + 1) (n + 1) (n + 1) cap2 a2 _ y w2 (by omega) (by omega) (by omega) hd HY.out hO2 hs hne (by rw [hv]; omega)).mono ?_
  rintro e w3 ⟨rfl, x3, hO3, hd3, _, hv3, hC3⟩
  rw [sh_zero, sh_zero, cpy_V] at hv3
  clear hv hl1 hl2 hl3 hl4 hl5 hs hne hd hO2 hO
  have HV := Lib.hid hv3
  clear hv3
  go_wp2_with fail
  refine (trim_any _ (n + 1) _ x3 w3 (by omega) (Nat.le_refl _) (sl_own hO3 (Nat.le_refl _))).mono ?_
  rintro e w4 ⟨rfl, rfl⟩
  go_wp2_with fail
  go_ret
  refine ⟨_, _, rfl, ?_, tl_le x3 _, Chg.below hB2 hC3 hB2.size (Nat.le_refl _)⟩
  have := nt_of_trim hO3 hd3 (Nat.le_refl w.heap.size) (Nat.le_refl (n + 1)) (Nat.le_refl (n + 1))
  rw [HV.out] at this
  exact this

set_option maxHeartbeats 800000 in
set_option maxRecDepth 100000 in
theorem sum_lt (a a2 : Option Addr) (n m cap cap2 : Nat) (x y : Nat → Int) (w : World) (hn2 : m ≤ 100000000) (hm : n < m) (hx : Dg x) (hy : Dg y) (hr : Sl w a n x) (hr2 : Sl w a2 m y) :
    Calls Tryd.prog 62 #[.slice a n cap, .slice a2 m cap2] w fun e w' => ∃ v k, e = .returned v ∧ Nt w' w.heap.size v k (V x n + V y m) ∧ k ≤ m + 1 ∧ Below w.heap.size w w' := by
  have HX := Lib.hid hx
  have HY := Lib.hid hy
  have HR := Lib.hid hr
  have HR2 := Lib.hid hr2
  clear hr hr2 hx hy
  go_enter Tryd.func62, Tryd.ntmps62
  go_wp2_with (first
    | (at_make; refine make32 rfl _ _ _ rfl (by kernel_rfl) (m + 1) _ _ rfl rfl (by omega) (by omega) (by omega) ?_; intro w1 hO hB)
    | ((with_reducible refine is_copy ?_); refine copy32 rfl _ _ _ _ rfl (by kernel_rfl) w.heap.size 0 (m + 1) (m + 1) a2 m cap2 rfl rfl (m + 1) _ y hO m (by simp) (by omega) (sl_below HR2.out hB) ?_; intro w2 hO2 hC))
  have hB2 := Chg.below hB hC hB.size (Nat.le_refl _)
  have hne := sl_ne HR.out (Nat.le_refl _)
  have hs := sl_below HR.out hB2
  have hd := Dg.cpy Dg_zero HY.out 0 m
  have hv : V (sh (cpy (fun _ => 0) 0 m y) 0) (m + 1) = V y m := by rw [sh_zero]; exact cpy_V
  have hl1 := V_lt HY.out m
  have hl2 := V_lt HX.out n
  have hl3 := P_mono (show n ≤ m by omega)
  have hl4 := P_succ m
  have hl5 := P_pos m
  refine (addTo_any w.heap.size 0 n (m + 1) (m + 1) (m + 1) cap a _ x w2 (by omega) (by omega) (by omega) hd HX.out hO2 hs hne (by rw [hv]; omega)).mono ?_
  rintro e w3 ⟨rfl, x3, hO3, hd3, _, hv3, hC3⟩
  rw [sh_zero, sh_zero, cpy_V] at hv3
  clear hv hl1 hl2 hl3 hl4 hl5 hs hne hd hO2 hO
  have HV := Lib.hid hv3
  clear hv3
  go_wp2_with fail
  refine (trim_any _ (m + 1) _ x3 w3 (by omega) (Nat.le_refl _) (sl_own hO3 (Nat.le_refl _))).mono ?_
  rintro e w4 ⟨rfl, rfl⟩
  go_wp2_with fail
  go_ret
  refine ⟨_, _, rfl, ?_, tl_le x3 _, Chg.below hB2 hC3 hB2.size (Nat.le_refl _)⟩
  have := nt_of_trim hO3 hd3 (Nat.le_refl w.heap.size) (Nat.le_refl (m + 1)) (Nat.le_refl (m + 1))
  rw [HV.out] at this
  rw [Int.add_comm] at this; exact this

theorem sum_any (a a2 : Option Addr) (n m cap cap2 : Nat) (x y : Nat → Int) (w : World) (hn : n ≤ 100000000) (hn2 : m ≤ 100000000) (hx : Dg x) (hy : Dg y) (hr : Sl w a n x) (hr2 : Sl w a2 m y) :
    Calls Tryd.prog 62 #[.slice a n cap, .slice a2 m cap2] w fun e w' => ∃ v k, e = .returned v ∧ Nt w' w.heap.size v k (V x n + V y m) ∧ k ≤ max n m + 1 ∧ Below w.heap.size w w' := by
  rcases Nat.lt_or_ge n m with h | h
  · refine (sum_lt a a2 n m cap cap2 x y w hn2 h hx hy hr hr2).mono ?_
    rintro e w' ⟨v, k, h1, h2, h3, h4⟩
    exact ⟨v, k, h1, h2, by omega, h4⟩
  · refine (sum_ge a a2 n m cap cap2 x y w hn h hx hy hr hr2).mono ?_
    rintro e w' ⟨v, k, h1, h2, h3, h4⟩
    exact ⟨v, k, h1, h2, by omega, h4⟩

theorem takeFrom_zero (a a2 : Option Addr) (cap cap2 : Nat) (w : World) :
    Calls Tryd.prog 66 #[.slice a 0 cap, .slice a2 0 cap2] w fun e w' => e = .returned (.tuple #[]) ∧ w = w' := by
  go_enter Tryd.func66, Tryd.ntmps66
  go_wp2_with fail
  go_loopw [4, 10] (fun c i wr => i = .int .i64 0 ∧ c = .int .u32 0 ∧ wr = w) (fun _ _ _ => 0)
  case atStart => exact ⟨rfl, rfl, rfl⟩
  case round =>
    obtain ⟨rfl, rfl, rfl⟩ := hrel
    go_wp2_with fail
    go_loopw [4, 7] (fun c i w2 => i = .int .i64 0 ∧ c = .int .u32 0 ∧ w2 = wr) (fun _ _ _ => 0)
    case atStart => exact ⟨rfl, rfl, rfl⟩
    case round =>
      obtain ⟨rfl, rfl, rfl⟩ := hrel
      go_wp2_with fail
      go_end0
      exact ⟨rfl, rfl⟩

set_option maxHeartbeats 800000 in
theorem difference_any (a a2 : Option Addr) (n m cap cap2 : Nat) (x y : Nat → Int) (w : World) (hn : n ≤ 100000000) (hm : m ≤ n) (hx : Dg x) (hy : Dg y) (hr : Sl w a n x) (hr2 : Sl w a2 m y) (hf : V y m ≤ V x n) :
    Calls Tryd.prog 63 #[.slice a n cap, .slice a2 m cap2] w fun e w' => ∃ v k, e = .returned v ∧ Nt w' w.heap.size v k (V x n - V y m) ∧ k ≤ n ∧ Below w.heap.size w w' := by
  have HX := Lib.hid hx
  have HY := Lib.hid hy
  have HR := Lib.hid hr
  have HR2 := Lib.hid hr2
  have HF := Lib.hid hf
  clear hr hr2 hx hy hf
  go_enter Tryd.func63, Tryd.ntmps63
  go_wp2_with fail
  refine (fresh_any a n cap x w (by omega) HX.out HR.out).mono ?_
  rintro e w1 ⟨v, rfl, ⟨a1, cap1, rfl, hc1, _, hO⟩, hB⟩
  have HO := Lib.hid hO
  clear hO
  go_wp2_with fail
  by_cases h0 : n = 0
  · subst h0
    obtain rfl : m = 0 := by omega
    refine (takeFrom_zero a1 a2 cap1 cap2 w1).mono ?_
    rintro e w2 ⟨rfl, rfl⟩
    go_wp2_with fail
    refine (trim_any a1 0 cap1 x w1 (by omega) (by omega) (fun h => absurd h (by omega))).mono ?_
    rintro e w2 ⟨rfl, rfl⟩
    go_wp2_with fail
    go_ret
    exact ⟨_, 0, rfl, ⟨x, ⟨_, _, rfl, by omega, HX.out, fun h => absurd h (by omega)⟩, rfl, fun h => absurd h (by omega)⟩, by omega, hB⟩
  · obtain ⟨b, N, rfl, hb, hN, hO⟩ := HO.out (by omega)
    have hne : 0 < m → ∀ c o, a2 = some ⟨c, o, none⟩ → c ≠ b := sl_ne HR2.out hb
    have hs := sl_below HR2.out hB
    refine (takeFrom_any b 0 m n N cap1 cap2 a2 x y w1 hm (by omega) (by omega) HX.out HY.out hO hs hne (by rw [sh_zero]; exact HF.out)).mono ?_
    rintro e w2 ⟨rfl, x3, hO3, hd3, _, hv3, hC3⟩
    rw [sh_zero, sh_zero] at hv3
    have HV := Lib.hid hv3
    clear hv3 hne hs hO
    go_wp2_with fail
    refine (trim_any _ n cap1 x3 w2 (by omega) hc1 (sl_own hO3 hN)).mono ?_
    rintro e w3 ⟨rfl, rfl⟩
    go_wp2_with fail
    go_ret
    refine ⟨_, _, rfl, ?_, tl_le x3 _, Chg.below hB hC3 hB.size hb⟩
    have := nt_of_trim (cap := cap1) hO3 hd3 hb hN hc1
    rw [HV.out] at this
    exact this

/-- The order of two numbers. -/
def ord (a b : Int) : Int := if a < b then -1 else if b < a then 1 else 0
theorem ord_lt {a b : Int} (h : a < b) : ord a b = -1 := by simp [ord, h]
theorem ord_gt {a b : Int} (h : b < a) : ord a b = 1 := by simp [ord, h]; omega
theorem ord_eq {a b : Int} (h : a = b) : ord a b = 0 := by simp [ord, h]
theorem ord_len {x y : Nat → Int} (hx : Dg x) (hy : Dg y) {n m : Nat} (h : n < m) (ht : 0 < m → y (m - 1) ≠ 0) : V x n < V y m := by
  have h1 := V_lt hx n
  have h2 := V_top hy (show 0 < m by omega) (ht (by omega))
  have := P_mono (show n ≤ m - 1 by omega)
  omega
theorem V_rest' {x y : Nat → Int} {k n : Nat} (hkn : k ≤ n) (h : ∀ j, k ≤ j → j < n → x j = y j) : V x n - V x k = V y n - V y k := by
  obtain ⟨d, rfl⟩ := Nat.exists_eq_add_of_le hkn
  rw [V_add, V_add, V_congr (x := sh x k) (y := sh y k) (fun j hj => h _ (by omega) (by omega))]; omega
theorem ord_word {x y : Nat → Int} (hx : Dg x) (hy : Dg y) {k n : Nat} (hkn : k < n) (h : ∀ j, k < j → j < n → x j = y j) (g : x k < y k) : V x n < V y n := by
  have e := V_rest' (x := x) (y := y) (k := k + 1) (n := n) (by omega) (fun j a b => h j (by omega) b)
  have h1 := V_lt hx k
  have h2 := V_nonneg hy k
  have h3 := P_pos k
  have := Int.mul_le_mul_of_nonneg_right (show x k + 1 ≤ y k by omega) (Int.le_of_lt h3)
  rw [Int.add_mul] at this
  rw [V_succ, V_succ] at e
  omega

set_option maxHeartbeats 1600000 in
theorem order_any (a a2 : Option Addr) (n m cap cap2 : Nat) (x y : Nat → Int) (w : World) (hn : n ≤ 1000000000) (hm : m ≤ 1000000000) (hx : Dg x) (hy : Dg y) (hr : Sl w a n x) (hr2 : Sl w a2 m y)
    (ht : 0 < n → x (n - 1) ≠ 0) (ht2 : 0 < m → y (m - 1) ≠ 0) :
    Calls Tryd.prog 54 #[.slice a n cap, .slice a2 m cap2] w fun e w' => e = .returned (.int .i64 (ord (V x n) (V y m))) ∧ ∃ q, w' = w.drewN q := by
  have HX := Lib.hid hx
  have HY := Lib.hid hy
  have HR := Lib.hid hr
  have HR2 := Lib.hid hr2
  have HT := Lib.hid ht
  have HT2 := Lib.hid ht2
  clear hx hy hr hr2 ht ht2
  rcases Nat.lt_trichotomy n m with h | h | h
  · have h1 : ((n : Int) != (m : Int)) = true := by simp; omega
    go_enter Tryd.func54, Tryd.ntmps54
    go_wp2_with fail
    go_ret
    exact ⟨ret_int (ord_lt (ord_len HX.out HY.out h HT2.out)).symm, 0, rfl⟩
  · subst h
    go_enter Tryd.func54, Tryd.ntmps54
    go_wp2_with fail
    go_loopw [5] (fun i wr => ∃ k : Nat, k ≤ n ∧ i = .int .i64 ((k : Int) - 1) ∧ Hid (∀ j, k ≤ j → j < n → x j = y j) ∧ ∃ q, wr = w.drewN q) (fun i _ => (intOf i + 1).toNat)
    case atStart => exact ⟨n, by omega, by go_num, fun j a b => by omega, 0, rfl⟩
    case round =>
      obtain ⟨k, hk, rfl, HE, q, rfl⟩ := hrel
      by_cases hk0 : 0 < k
      · obtain ⟨j, rfl⟩ : ∃ j, k = j + 1 := ⟨k - 1, by omega⟩
        obtain ⟨b, o, rfl, hrow⟩ := HR.out (by omega)
        obtain ⟨b2, o2, rfl, hrow2⟩ := HR2.out (by omega)
        have g1 := hrow j (by omega)
        have g2 := hrow2 j (by omega)
        have i0 : (0 : Int) ≤ ((j + 1 : Nat) : Int) - 1 := by omega
        have i1 : ((j + 1 : Nat) : Int) - 1 < (n : Int) := by omega
        clear hrow hrow2 HR HR2 HT HT2
        generalize hxj : x j = xj at *
        generalize hyj : y j = yj at *
        have E1 := Lib.hid hxj
        have E2 := Lib.hid hyj
        clear hxj hyj
        rcases Int.lt_trichotomy xj yj with g | g | g
        · go_wp2_with fail
          go_quiet (fail)
          go_wp2_with fail
          go_ret
          exact ⟨ret_int (ord_lt (ord_word HX.out HY.out (k := j) (by omega) (fun i a b => HE.out i (by omega) b) (by rw [E1.out, E2.out]; exact g))).symm, _, by simp only [World.drewN_drewN]; rfl⟩
        · subst g
          have f1 : ¬ (xj < xj) := Int.lt_irrefl _
          go_wp2_with fail
          go_quiet (fail)
          go_wp2_with fail
          go_quiet (fail)
          go_wp2_with fail
          go_roundw
          case rel => exact ⟨j, by omega, by go_num, fun i a b => by
            rcases Nat.eq_or_lt_of_le a with e | e
            · rw [← e, E1.out, E2.out]
            · exact HE.out i (by omega) b, _, rfl⟩
          case measure => simp [intOf] <;> omega
        · have f1 : ¬ (xj < yj) := by omega
          go_wp2_with fail
          go_quiet (fail)
          go_wp2_with fail
          go_quiet (fail)
          go_wp2_with fail
          go_ret
          exact ⟨ret_int (ord_gt (ord_word HY.out HX.out (k := j) (by omega) (fun i a b => (HE.out i (by omega) b).symm) (by rw [E1.out, E2.out]; exact g))).symm, _, by simp only [World.drewN_drewN]; rfl⟩
      · obtain rfl : k = 0 := by omega
        clear HR HR2 HT HT2
        go_wp2_with fail
        go_ret
        exact ⟨ret_int (ord_eq (V_congr fun j hj => HE.out j (by omega) hj)).symm, q, rfl⟩
  · have h1 : ((n : Int) != (m : Int)) = true := by simp; omega
    go_enter Tryd.func54, Tryd.ntmps54
    go_wp2_with fail
    go_ret
    exact ⟨ret_int (ord_gt (ord_len HY.out HX.out h HT.out)).symm, 0, rfl⟩
end Go.Proofs.YtkhchaoehlefdaaDoor
