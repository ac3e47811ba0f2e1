/- Contract: product of numbers of any size, by three products of halves. -/
import Derived.Deep.RegionHeld3
import Derived.Deep.QuietTactic
import Derived.Test.YtkhchaoehlefdaaDoorExH
set_option linter.unusedVariables false
set_option linter.unusedSimpArgs false
set_option maxRecDepth 100000
namespace Go.Proofs.YtkhchaoehlefdaaDoor
open Go.RowKit

/-- What product returns. -/
def PrP (w : World) (z : Int) (n : Nat) (e : Ending) (w' : World) : Prop := ∃ a c k, e = .returned (.slice a k c) ∧ Nt w' w.heap.size (.slice a k c) k z ∧ k ≤ n ∧ Below w.heap.size w w'
theorem Nt.kform {w : World} {base : Nat} {v : Value} {n : Nat} {z : Int} (h : Nt w base v n z) : ∃ a c, v = .slice a n c := by
  obtain ⟨x, ⟨a, c, rfl, _⟩, _⟩ := h
  exact ⟨a, c, rfl⟩
theorem prP {w : World} {z : Int} {n : Nat} {e : Ending} {w' : World} (h : ∃ v k, e = .returned v ∧ Nt w' w.heap.size v k z ∧ k ≤ n ∧ Below w.heap.size w w') : PrP w z n e w' := by
  obtain ⟨v, k, rfl, h1, h2, h3⟩ := h
  obtain ⟨a, c, rfl⟩ := h1.kform
  exact ⟨a, c, k, rfl, h1, h2, h3⟩
theorem Sl.take {w : World} {a : Option Addr} {n k : Nat} {x : Nat → Int} (h : Sl w a n x) (hk : k ≤ n) : Sl w a k x := fun h0 => let ⟨b, off, e, hr⟩ := h (by omega); ⟨b, off, e, hr.take hk⟩
theorem Sl.drop {w : World} {b off n k : Nat} {x : Nat → Int} (h : Sl w (some ⟨b, off, none⟩) n x) (hk : k ≤ n) : Sl w (some ⟨b, off + k, none⟩) (n - k) (sh x k) := fun h0 => by
  obtain ⟨b', off', e, hr⟩ := h (by omega)
  cases e
  exact ⟨b, off + k, rfl, hr.drop (by omega)⟩
/-- The contract as it is used in the recursion. -/
def ProdFits (s : Nat) : Prop := ∀ (a a2 : Option Addr) (n m cap cap2 : Nat) (x y : Nat → Int) (w : World), n + m < s → n ≤ 10000000 → m ≤ 10000000 → n ≤ cap → m ≤ cap2 → Dg x → Dg y → Sl w a n x → Sl w a2 m y →
  Calls Tryd.prog 41 #[.slice a n cap, .slice a2 m cap2] w (PrP w (V x n * V y m) (n + m))
theorem trim_q (a : Option Addr) (n cap : Nat) (x : Nat → Int) (w : World) (hn : n ≤ 1000000000) (hc : n ≤ cap) (hr : Sl w a n x) (q : Nat) :
    Calls Tryd.prog 61 #[.slice a n cap] (w.drewN q) fun e w' => e = .returned (.slice a (tl x n) cap) ∧ w' = w.drewN q :=
  (trim_any a n cap x (w.drewN q) hn hc (sl_below hr (below_drewN (Below.refl _ _) q))).mono fun _ _ ⟨h1, h2⟩ => ⟨h1, h2.symm⟩
/-- A row loses a number that is not greater. -/
theorem takeFrom_fr {w : World} {base : Nat} {a a2 : Option Addr} {n m cap cap2 : Nat} {x y : Nat → Int} (hF : Fr w base (.slice a n cap) n x) (hy : Dg y) (hr : Sl w a2 m y) (hlt : 0 < m → ∀ c o, a2 = some ⟨c, o, none⟩ → c < base) (hm : m ≤ n) (hn : n ≤ 1000000000) (hf : V y m ≤ V x n) :
    Calls Tryd.prog 66 #[.slice a n cap, .slice a2 m cap2] w fun e w' => e = .returned (.tuple #[]) ∧ ∃ x', Fr w' base (.slice a n cap) n x' ∧ V x' n = V x n - V y m ∧ Below base w w' := by
  obtain ⟨a', cap', e, hc, hd, hO⟩ := hF
  cases e
  rcases Nat.eq_zero_or_pos n with h0 | h0
  · subst h0
    obtain rfl : m = 0 := by omega
    refine (takeFrom_zero a a2 cap cap2 w).mono ?_
    rintro e w2 ⟨rfl, rfl⟩
    exact ⟨rfl, x, ⟨a, cap, rfl, hc, hd, fun h => absurd h (by omega)⟩, by simp [V_zero], Below.refl _ _⟩
  · obtain ⟨b, N, rfl, hb, hN, hO⟩ := hO h0
    refine (takeFrom_any b 0 m n N cap cap2 a2 x y w hm (by omega) hn hd hy hO hr (fun h c o e => by have := hlt h c o e; omega) (by rw [sh_zero]; exact hf)).mono ?_
    rintro e w2 ⟨rfl, x3, hO3, hd3, _, hv3, hC3⟩
    rw [sh_zero, sh_zero] at hv3
    exact ⟨rfl, x3, ⟨_, cap, rfl, hc, hd3, fun _ => ⟨b, N, rfl, hb, hN, hO3⟩⟩, hv3, ⟨hC3.os, hC3.tape, hC3.output, hC3.size, fun k hk => by
      have := hO.lt
      by_cases e : k < w.heap.size
      · exact hC3.block k e (by omega)
      · omega⟩⟩
theorem sl_lt {w : World} {a : Option Addr} {n : Nat} {x : Nat → Int} (h : Sl w a n x) : 0 < n → ∀ c o, a = some ⟨c, o, none⟩ → c < w.heap.size := fun hn c o e => by
  obtain ⟨b, off, e', hr⟩ := h hn
  rw [e] at e'
  cases e'
  exact hr.lt hn
theorem sl_belowB {w w' : World} {B : Nat} {a : Option Addr} {n : Nat} {x : Nat → Int} (h : Sl w a n x) (k : Below B w w') (hlt : 0 < n → ∀ c o, a = some ⟨c, o, none⟩ → c < B) : Sl w' a n x := fun hn => by
  obtain ⟨b, off, e, hr⟩ := h hn
  exact ⟨b, off, e, hr.same fun _ => k.block b (hlt hn b off e)⟩
/-- What lies in both halves. -/
theorem V_cpy2 {f l : Nat → Int} {k1 k2 h N : Nat} (hf : k1 ≤ h) (hl : h + k2 ≤ N) : V (cpy (cpy (fun _ => 0) 0 k1 f) h k2 l) N = V f k1 + P h * V l k2 := by
  obtain ⟨d, rfl⟩ := Nat.exists_eq_add_of_le hl
  obtain ⟨e, rfl⟩ := Nat.exists_eq_add_of_le hf
  have h1 : V (cpy (cpy (fun _ => 0) 0 k1 f) (k1 + e) k2 l) k1 = V f k1 := V_congr fun j hj => by
    rw [cpy_out (by omega)]
    have := cpy_in (x := fun _ => 0) (off := 0) (k := k1) (y := f) (j := j) hj
    rwa [Nat.zero_add] at this
  have h2 : V (sh (cpy (cpy (fun _ => 0) 0 k1 f) (k1 + e) k2 l) k1) e = 0 := V_zeros fun j hj => by
    show cpy (cpy (fun _ => 0) 0 k1 f) (k1 + e) k2 l (k1 + j) = 0
    rw [cpy_out (by omega), cpy_out (by omega)]
  have h3 : V (sh (cpy (cpy (fun _ => 0) 0 k1 f) (k1 + e) k2 l) (k1 + e)) k2 = V l k2 := V_congr fun j hj => by
    show cpy (cpy (fun _ => 0) 0 k1 f) (k1 + e) k2 l (k1 + e + j) = l j
    exact cpy_in hj
  have h4 : V (sh (cpy (cpy (fun _ => 0) 0 k1 f) (k1 + e) k2 l) (k1 + e + k2)) d = 0 := V_zeros fun j hj => by
    show cpy (cpy (fun _ => 0) 0 k1 f) (k1 + e) k2 l (k1 + e + k2 + j) = 0
    rw [cpy_out (by omega), cpy_out (by omega)]
  rw [V_add, V_add, V_add, h1, h2, h3, h4]
  simp
theorem V_half {x : Nat → Int} {n h : Nat} (hh : h ≤ n) : V x n = V x h + P h * V (sh x h) (n - h) := by
  obtain ⟨d, rfl⟩ := Nat.exists_eq_add_of_le hh
  rw [V_add, Nat.add_sub_cancel_left]

theorem kar_room {lo B M T : Int} {N h : Nat} (hN : h ≤ N) (h0 : 0 ≤ lo) (e : lo + P h * B + P h * M = T) (hT : T < P N) : B + M < P (N - h) := by
  obtain ⟨d, rfl⟩ := Nat.exists_eq_add_of_le hN
  rw [Nat.add_sub_cancel_left]
  rw [P_add] at hT
  have hp := P_pos h
  rcases Int.lt_or_le (B + M) (P d) with g | g
  · exact g
  · have := Int.mul_le_mul_of_nonneg_left g (Int.le_of_lt hp)
    rw [Int.mul_add] at this
    omega
theorem V_mul_lt {x y : Nat → Int} (hx : Dg x) (hy : Dg y) {n m : Nat} : V x n * V y m < P (n + m) := by
  have h1 := V_lt hx n
  have h2 := V_lt hy m
  have h3 := V_nonneg hx n
  have h4 := V_nonneg hy m
  have h5 := Int.mul_le_mul_of_nonneg_right (show V x n ≤ P n - 1 by omega) h4
  have h6 := Int.mul_le_mul_of_nonneg_left (show V y m ≤ P m - 1 by omega) (show 0 ≤ P n - 1 by have := P_pos n; omega)
  have h7 := P_pos n
  have h8 := P_pos m
  rw [P_add]
  have e2 : (P n - 1) * (P m - 1) = P n * P m - P n - P m + 1 := by grind
  omega
theorem fr_dg {w : World} {base : Nat} {v : Value} {n : Nat} {x : Nat → Int} (h : Fr w base v n x) : Dg x := by
  obtain ⟨_, _, _, _, hd, _⟩ := h
  exact hd
theorem fr_ne {w : World} {base : Nat} {a : Option Addr} {n c : Nat} {x : Nat → Int} (h : Fr w base (.slice a n c) n x) {b : Nat} (hb : b < base) : 0 < n → ∀ c o, a = some ⟨c, o, none⟩ → c ≠ b := fun h0 c o ec => by
  obtain ⟨a', c', e', _, _, hO'⟩ := h
  cases e'
  obtain ⟨b', _, e2, hb', _⟩ := hO' h0
  rw [ec] at e2
  cases e2
  omega
set_option maxHeartbeats 6400000 in
theorem product_step (s : Nat) (IH : ProdFits s) (a a2 : Option Addr) (n m cap cap2 : Nat) (x y : Nat → Int) (w : World) (hs : n + m ≤ s) (hn : n ≤ 10000000) (hm : m ≤ 10000000) (hc : n ≤ cap) (hc2 : m ≤ cap2) (hx : Dg x) (hy : Dg y) (hr : Sl w a n x) (hr2 : Sl w a2 m y) :
    Calls Tryd.prog 41 #[.slice a n cap, .slice a2 m cap2] w (PrP w (V x n * V y m) (n + m)) := by
  by_cases h40 : n < 40 ∨ m < 40
  · exact (product_short a a2 n m cap cap2 x y w (by omega) (by omega) h40 hx hy hr hr2).mono fun _ _ h => prP h
  have HX := Lib.hid hx
  have HY := Lib.hid hy
  have HR := Lib.hid hr
  have HR2 := Lib.hid hr2
  have HI := Lib.hid IH
  clear hr hr2 hx hy IH
  have h1 : 40 ≤ n := by omega
  have h2 : 40 ≤ m := by omega
  clear h40
  by_cases hlt : n < m
  · go_enter Tryd.func41, Tryd.ntmps41
    obtain ⟨ba, oa, rfl, _⟩ := HR2.out (by omega)
    obtain ⟨bb, ob, rfl, _⟩ := HR.out (by omega)
    obtain ⟨h, hh⟩ : ∃ h, h = (m + 1) / 2 := ⟨_, rfl⟩
    have hh0 : 0 < h := by omega
    have hh1 : h < m := by omega
    have hh2 : m ≤ 2 * h := by omega
    have hh3 : 2 * h ≤ m + 1 := by omega
    have hhn : ((m : Int) + 1) / 2 = (h : Int) := by omega
    have c0 : (0 : Int) ≤ (h : Int) := by omega
    have c1 : ((h : Int)).toNat = h := rfl
    have c2 : (h : Int) ≤ ((cap2 : Nat) : Int) := by omega
    have c3 : (h : Int) ≤ ((m : Nat) : Int) := by omega
    have TQ := Lib.hid (trim_q (some ⟨ba, oa, none⟩) h cap2 y w (by omega) (by omega) (HR2.out.take (by omega)))
    have HH := Lib.hid hh
    clear hh
    go_wp2_with fail
    rw [hhn]
    go_quiet ((go_at_call 61; with_reducible exact Calls.quiet_of_same (TQ.out _)))
    have BW := Lib.hid (below_drewN (Below.refl w.heap.size w) nq)
    have HRW := Lib.hid (sl_below HR2.out BW.out)
    have HR2W := Lib.hid (sl_below HR.out BW.out)
    have hszW : Hid ((w.drewN nq).heap.size = w.heap.size) := Lib.hid rfl
    clear TQ hhn
    generalize w.drewN nq = W at *
    have ht := tl_le y h
    have HV0 := Lib.hid (V_tl y h)
    have HVX := Lib.hid (V_half (x := y) (n := m) (h := h) (by omega))
    generalize tl y h = lx at *
    by_cases hmh : n ≤ h
    · have hmhi : (n : Int) ≤ (h : Int) := by omega
      go_wp2_with (at_make; refine make32 rfl _ _ _ rfl (by kernel_rfl) (m + n) _ _ rfl rfl (by omega) (by omega) (by omega) ?_; intro w1 hO hB)
      have HO := Lib.hid hO
      have B1 := Lib.hid hB
      clear hO hB
      refine (HI.out _ _ lx n cap2 cap y x w1 (by omega) (by omega) (by omega) (by omega) (by omega) HY.out HX.out (sl_below (HRW.out.take (by omega)) B1.out) (sl_below HR2W.out B1.out)).mono ?_
      rintro e w2 ⟨a3, e3, k3, rfl, hN, hk3, hB⟩
      have BT2 := Lib.hid (B1.out.trans (hB.mono B1.out.size))
      have HO2 := Lib.hid (HO.out.below hB HO.out.lt)
      obtain ⟨f3, hF3, hv3, _⟩ := id hN
      have S3 := Lib.hid hF3.sl
      have D3 := Lib.hid (show Dg f3 from by obtain ⟨_, _, _, _, h, _⟩ := hF3; exact h)
      have N3 := Lib.hid (fr_ne hF3 (b := W.heap.size) HO.out.lt)
      have V3 : Hid (V f3 k3 = V y h * V x n) := Lib.hid (by rw [hv3, HV0.out])
      clear hN hF3 hv3 hB
      have hk3m := Lib.hid (Nat.min_eq_left (show k3 ≤ (m + n) by omega)).symm
      have hk3n : 0 + k3 ≤ (m + n) := by omega
      go_wp2_with ((with_reducible refine is_copy ?_); refine copy32 rfl _ _ _ _ rfl (by kernel_rfl) W.heap.size 0 (m + n) (m + n) a3 k3 e3 rfl rfl (m + n) _ f3 HO2.out k3 hk3m.out hk3n (fun q => S3.out q) ?_; intro w3 hO3 hC3)
      have HO3 := Lib.hid hO3
      have BT3 := Lib.hid (Chg.below BT2.out hC3 BT2.out.size (Nat.le_refl _))
      clear hO3 hC3
      have HX3 := Lib.hid ((Dg.cpy Dg_zero D3.out 0 k3))
      have P1 : (m - h) + n < s := by omega
      have PR := Lib.hid (fun w' (k : Below w3.heap.size w3 w') => HI.out _ _ (m - h) n (cap2 - h) cap (sh y h) x w' P1 (by omega) (by omega) (by omega) (by omega) (HY.out.sh h) HX.out (sl_below (HRW.out.drop (by omega)) (BT3.out.trans (k.mono BT3.out.size))) (sl_below HR2W.out (BT3.out.trans (k.mono BT3.out.size))))
      have D_ := Lib.hid (Below.drew (Below.refl w3.heap.size w3))
      have c4 : (h : Int) ≤ (m : Int) + (n : Int) := by omega
      have c5 : ¬ (m + n) = h := by omega
      have c6 : h ≤ (m + n) := by omega
      have c7 : ¬ ((m + n) - h = 0) := by omega
      generalize hx3 : cpy (fun _ => 0) 0 k3 f3 = x3 at *
      have HVx3 : Hid (V x3 (m + n) = V y h * V x n) := Lib.hid (by
        rw [← V3.out, ← hx3]
        obtain ⟨d, hd⟩ := Nat.exists_eq_add_of_le (show k3 ≤ (m + n) by omega)
        rw [hd, V_add, V_zeros (x := sh _ k3) (fun j _ => by show cpy _ 0 k3 f3 (k3 + j) = 0; rw [cpy_out (by omega)])]
        rw [V_congr (y := f3) (fun j hj => by have := cpy_in (x := fun _ => 0) (off := 0) (k := k3) (y := f3) (j := j) hj; rwa [Nat.zero_add] at this)]
        simp)
      have AD := Lib.hid (fun (a4 : Option Addr) (k4 e4 : Nat) (f4 : Nat → Int) (w4 : World) (q1 : k4 ≤ (m + n) - h) (q2 : Dg f4) (q3 : Own w4 W.heap.size (m + n) x3) (q4 : Sl w4 a4 k4 f4) (q5 : 0 < k4 → ∀ c o, a4 = some ⟨c, o, none⟩ → c ≠ W.heap.size) (q6 : V f4 k4 = V (sh y h) (m - h) * V x n) =>
        addTo_any W.heap.size h k4 ((m + n) - h) (m + n) ((m + n) - h) e4 a4 x3 f4 w4 q1 (by omega) (by omega) HX3.out q2 q3 q4 q5 (by
          rw [q6]
          exact kar_room (lo := V x3 h) (N := (m + n)) (h := h) (by omega) (V_nonneg HX3.out h) (T := V y m * V x n) (by rw [HVX.out, Int.add_mul, ← HVx3.out, V_half (x := x3) (n := (m + n)) (h := h) (by omega), Int.mul_assoc] <;> omega) (V_mul_lt HY.out HX.out)))
      clear HI D3 S3 N3 V3 HO2
      have t0 : w3.heap.size ≤ w3.heap.size := Nat.le_refl _
      go_region_held3 (fun _ => True) (exact trivial)
        (first
        | (go_at_call 41; ((with_reducible refine (PR.out _ D_.out).mono ?_); rintro e w4 ⟨a4, e4, k4, rfl, hN4, hk4, hB4⟩; have T4 := Lib.hid (Below.up D_.out hB4); have O4 := Lib.hid (HO3.out.below T4.out HO3.out.lt); obtain ⟨f4, hF4, hv4, _⟩ := id hN4; have S4_ := Lib.hid hF4.sl; have D4 := Lib.hid (fr_dg hF4); have N4 := Lib.hid (fr_ne hF4 (b := W.heap.size) HO3.out.lt); have V4 := Lib.hid hv4; clear hN4 hF4 hv4 hB4))
        | (go_at_call 65; ((with_reducible refine (AD.out a4 k4 e4 f4 _ (by omega) D4.out O4.out S4_.out N4.out V4.out).mono ?_); rintro e w5 ⟨rfl, x5, hO5, hd5, hs5, hv5, hC5⟩; have O5 := Lib.hid hO5; have D5 := Lib.hid hd5; have E5 := Lib.hid hs5; have V5 := Lib.hid hv5; have C5 := Lib.hid hC5; clear hO5 hd5 hs5 hv5 hC5)))
      have BT5 := Lib.hid (Chg.below (BT3.out.trans (T4.out.mono BT3.out.size)) C5.out (Nat.le_trans BT3.out.size T4.out.size) (Nat.le_refl _))
      have TV : Hid (V x5 (m + n) = V y m * V x n) := Lib.hid (by
        rw [V_half (x := x5) (n := (m + n)) (h := h) (by omega), V5.out, V4.out, V_congr (x := x5) (y := x3) (n := h) (fun j hj => E5.out j (by omega))]
        rw [HVX.out, Int.add_mul, ← HVx3.out, V_half (x := x3) (n := (m + n)) (h := h) (by omega), Int.mul_assoc, Int.mul_add] <;> omega)
      go_wp2_with fail
      refine (trim_any _ (m + n) (m + n) x5 _ (by omega) (Nat.le_refl _) (sl_own O5.out (Nat.le_refl _))).mono ?_
      rintro e w6 ⟨rfl, rfl⟩
      have F := nt_of_trim O5.out D5.out (show w.heap.size ≤ W.heap.size by rw [hszW.out]; exact Nat.le_refl _) (Nat.le_refl (m + n)) (Nat.le_refl (m + n))
      rw [TV.out] at F
      have FF := Lib.hid F
      clear F
      go_wp2_with fail
      go_ret
      exact ⟨_, _, _, rfl, by rw [Int.mul_comm]; exact FF.out, by have := tl_le x5 (m + n); omega, BW.out.trans (BT5.out.mono (by rw [hszW.out]; exact Nat.le_refl _))⟩
    · have hmhi : ¬ (n : Int) ≤ (h : Int) := by omega
      go_wp2_with (at_make; refine make32 rfl _ _ _ rfl (by kernel_rfl) (m + n) _ _ rfl rfl (by omega) (by omega) (by omega) ?_; intro w1 hO hB)
      have TQ2 := Lib.hid (trim_q (some ⟨bb, ob, none⟩) h cap x w1 (by omega) (by omega) ((sl_below HR2W.out hB).take (by omega)))
      have HO0 := Lib.hid hO
      have B0 := Lib.hid hB
      clear hO hB
      have d2 : (h : Int) ≤ ((cap : Nat) : Int) := by omega
      have d3 : (h : Int) ≤ ((n : Nat) : Int) := by omega
      have d4 : ¬ cap = h := by omega
      have d5 : ¬ n = h := by omega
      have d6 : ¬ (cap - h = 0) := by omega
      go_quiet ((go_at_call 61; with_reducible exact Calls.quiet_of_same (TQ2.out _)))
      have HO := Lib.hid (show Own (w1.drewN nq) W.heap.size (m + n) (fun _ => 0) from HO0.out)
      have B1 := Lib.hid (below_drewN B0.out nq)
      clear TQ2 HO0 B0
      generalize w1.drewN nq = W1 at *
      have ht2 := tl_le x h
      have HW0 := Lib.hid (V_tl x h)
      have HVY := Lib.hid (V_half (x := x) (n := n) (h := h) (by omega))
      generalize tl x h = ly at *
      obtain ⟨X0, hX0⟩ : ∃ X0, X0 = V y h := ⟨_, rfl⟩
      obtain ⟨X1, hX1⟩ : ∃ X1, X1 = V (sh y h) (m - h) := ⟨_, rfl⟩
      obtain ⟨Y0, hY0⟩ : ∃ Y0, Y0 = V x h := ⟨_, rfl⟩
      obtain ⟨Y1, hY1⟩ : ∃ Y1, Y1 = V (sh x h) (n - h) := ⟨_, rfl⟩
      have X0p : 0 ≤ X0 := by rw [hX0]; exact V_nonneg HY.out _
      have X1p : 0 ≤ X1 := by rw [hX1]; exact V_nonneg (HY.out.sh h) _
      have Y0p : 0 ≤ Y0 := by rw [hY0]; exact V_nonneg HX.out _
      have Y1p : 0 ≤ Y1 := by rw [hY1]; exact V_nonneg (HX.out.sh h) _
      have HX0 := Lib.hid hX0
      have HX1 := Lib.hid hX1
      have HY0 := Lib.hid hY0
      have HY1 := Lib.hid hY1
      clear hX0 hX1 hY0 hY1
      go_wp2_with fail
      refine (HI.out _ _ lx ly cap2 cap y x W1 (by omega) (by omega) (by omega) (by omega) (by omega) HY.out HX.out (sl_below (HRW.out.take (by omega)) B1.out) (sl_below (HR2W.out.take (by omega)) B1.out)).mono ?_
      rintro e w2 ⟨a3, e3, k3, rfl, hN, hk3, hB⟩
      have BT2 := Lib.hid (B1.out.trans (hB.mono B1.out.size))
      have HO2 := Lib.hid (HO.out.below hB HO.out.lt)
      obtain ⟨f3, hF3, hv3, hn3⟩ := id hN
      have S3 := Lib.hid hF3.sl
      have D3 := Lib.hid (fr_dg hF3)
      have M3 := Lib.hid hn3
      have N3 := Lib.hid (fr_ne hF3 (b := W.heap.size) HO.out.lt)
      have V3 : Hid (V f3 k3 = X0 * Y0) := Lib.hid (by rw [hv3, HV0.out, HW0.out, HX0.out, HY0.out])
      clear hN hF3 hv3 hB hn3
      go_wp2_with fail
      refine (HI.out _ _ (m - h) (n - h) (cap2 - h) (cap - h) (sh y h) (sh x h) w2 (by omega) (by omega) (by omega) (by omega) (by omega) (HY.out.sh h) (HX.out.sh h) (sl_below (HRW.out.drop (by omega)) BT2.out) (sl_below (HR2W.out.drop (by omega)) BT2.out)).mono ?_
      rintro e w3 ⟨a4, e4, k4, rfl, hN, hk4, hB⟩
      have BT3 := Lib.hid (BT2.out.trans (hB.mono BT2.out.size))
      have HO3 := Lib.hid (HO2.out.below hB HO2.out.lt)
      have S3' := Lib.hid (sl_below S3.out hB)
      obtain ⟨f4, hF4, hv4, hn4⟩ := id hN
      have S4_ := Lib.hid hF4.sl
      have D4 := Lib.hid (fr_dg hF4)
      have M4_ := Lib.hid hn4
      have N4 := Lib.hid (fr_ne hF4 (b := W.heap.size) HO2.out.lt)
      have V4 : Hid (V f4 k4 = X1 * Y1) := Lib.hid (by rw [hv4, HX1.out, HY1.out])
      clear hN hF4 hv4 hB hn4 HO2 S3
      go_wp2_with fail
      refine (sum_any (some ⟨ba, oa, none⟩) (some ⟨ba, oa + h, none⟩) lx (m - h) cap2 (cap2 - h) y (sh y h) w3 (by omega) (by omega) HY.out (HY.out.sh h) (sl_below (HRW.out.take (by omega)) BT3.out) (sl_below (HRW.out.drop (by omega)) BT3.out)).mono ?_
      rintro e w4 ⟨v5, k5, rfl, hN5, hk5, hB4⟩
      obtain ⟨a5, e5, rfl⟩ := hN5.kform
      obtain ⟨f5, hF5, hv5, _⟩ := id hN5
      have BT4 := Lib.hid (BT3.out.trans (hB4.mono BT3.out.size))
      have B34 := Lib.hid hB4
      have S5 := Lib.hid hF5.sl
      have D5 := Lib.hid (fr_dg hF5)
      have L5 : k5 ≤ e5 := by obtain ⟨_, _, e, h, _⟩ := hF5; cases e; exact h
      have V5 : Hid (V f5 k5 = X0 + X1) := Lib.hid (by rw [hv5, HV0.out, HX0.out, HX1.out])
      clear hN5 hF5 hv5 hB4
      go_wp2_with fail
      refine (sum_any (some ⟨bb, ob, none⟩) (some ⟨bb, ob + h, none⟩) ly (n - h) cap (cap - h) x (sh x h) w4 (by omega) (by omega) HX.out (HX.out.sh h) (sl_below (HR2W.out.take (by omega)) BT4.out) (sl_below (HR2W.out.drop (by omega)) BT4.out)).mono ?_
      rintro e w5 ⟨v6, k6, rfl, hN6, hk6, hB5⟩
      obtain ⟨a6, e6, rfl⟩ := hN6.kform
      obtain ⟨f6, hF6, hv6, _⟩ := id hN6
      have B35 := Lib.hid (Below.up B34.out hB5)
      have S5' := Lib.hid (sl_below S5.out hB5)
      have S6 := Lib.hid hF6.sl
      have D6 := Lib.hid (fr_dg hF6)
      have L6 : k6 ≤ e6 := by obtain ⟨_, _, e, h, _⟩ := hF6; cases e; exact h
      have V6 : Hid (V f6 k6 = Y0 + Y1) := Lib.hid (by rw [hv6, HW0.out, HY0.out, HY1.out])
      clear hN6 hF6 hv6 hB5 B34 S5
      go_wp2_with fail
      refine (HI.out _ _ k5 k6 e5 e6 f5 f6 w5 (by omega) (by omega) (by omega) L5 L6 D5.out D6.out S5'.out S6.out).mono ?_
      rintro e w6 ⟨a7, e7, k7, rfl, hN7, hk7, hB6⟩
      obtain ⟨f7, hF7, hv7, _⟩ := id hN7
      have B36 := Lib.hid (Below.up B35.out hB6)
      have D7 := Lib.hid (fr_dg hF7)
      have L7 : k7 ≤ e7 := by obtain ⟨_, _, e, h, _⟩ := hF7; cases e; exact h
      have V7 : Hid (V f7 k7 = (X0 + X1) * (Y0 + Y1)) := Lib.hid (by rw [hv7, V5.out, V6.out])
      have F7 := Lib.hid hF7
      have Z5 : W.heap.size < w5.heap.size := by have := HO3.out.lt; have := B35.out.size; omega
      have S36 := Lib.hid (sl_below S3'.out B36.out)
      have S46 := Lib.hid (sl_below S4_.out B36.out)
      have l36 := Lib.hid (fun (h0 : 0 < k3) c o e => Nat.lt_of_lt_of_le (sl_lt S3'.out h0 c o e) B35.out.size)
      have l46 := Lib.hid (fun (h0 : 0 < k4) c o e => Nat.lt_of_lt_of_le (sl_lt S4_.out h0 c o e) B35.out.size)
      have HO6 := Lib.hid (HO3.out.below B36.out HO3.out.lt)
      have p0 := Int.mul_nonneg X0p Y0p
      have p1 := Int.mul_nonneg X0p Y1p
      have p2 := Int.mul_nonneg X1p Y0p
      have p3 := Int.mul_nonneg X1p Y1p
      have hmid : (X0 + X1) * (Y0 + Y1) = X0 * Y0 + X0 * Y1 + (X1 * Y0 + X1 * Y1) := by rw [Int.add_mul, Int.mul_add, Int.mul_add]
      have k37 : k3 ≤ k7 := len_le D3.out M3.out (by have := V_lt D7.out k7; rw [V7.out, hmid] at this; rw [V3.out]; omega)
      have BT6 := Lib.hid (BT3.out.trans (B36.out.mono BT3.out.size))
      clear hN7 hF7 hv7 hB6 S5' S6 D5 D6 V5 V6 S3' S4_ HO3 B35 BT2 BT4
      go_wp2_with fail
      refine (takeFrom_fr F7.out D3.out S36.out l36.out k37 (by omega) (by rw [V3.out, V7.out, hmid]; omega)).mono ?_
      rintro e w7 ⟨rfl, x7, hF7', hv7, hB7⟩
      have F7' := Lib.hid hF7'
      have V7' : Hid (V x7 k7 = X0 * Y1 + (X1 * Y0 + X1 * Y1)) := Lib.hid (by rw [hv7, V3.out, V7.out, hmid]; omega)
      have k47 : k4 ≤ k7 := len_le D4.out M4_.out (by have := V_lt (fr_dg hF7') k7; rw [V7'.out] at this; rw [V4.out]; omega)
      have S37 := Lib.hid (sl_belowB S36.out hB7 l36.out)
      have S47 := Lib.hid (sl_belowB S46.out hB7 l46.out)
      have HO7 := Lib.hid (HO6.out.below hB7 Z5)
      have B67 := Lib.hid hB7
      clear hF7' hv7 hB7 F7 V7 S36 S46 HO6
      go_wp2_with fail
      refine (takeFrom_fr F7'.out D4.out S47.out l46.out k47 (by omega) (by rw [V4.out, V7'.out]; omega)).mono ?_
      rintro e w8 ⟨rfl, x8, hF8, hv8, hB8⟩
      have F8 := Lib.hid hF8
      have D8 := Lib.hid (fr_dg hF8)
      have V8 : Hid (V x8 k7 = X0 * Y1 + X1 * Y0) := Lib.hid (by rw [hv8, V4.out, V7'.out]; omega)
      have S38 := Lib.hid (sl_belowB S37.out hB8 l36.out)
      have S48 := Lib.hid (sl_belowB S47.out hB8 l46.out)
      have HO8 := Lib.hid (HO7.out.below hB8 Z5)
      have N8 := Lib.hid (fr_ne hF8 (b := W.heap.size) Z5)
      have BT8 := Lib.hid (BT6.out.trans ((B67.out.trans hB8).mono (Nat.le_of_lt Z5)))
      have S88 := Lib.hid hF8.sl
      clear hF8 hv8 hB8 F7' V7' S37 S47 HO7 B67 BT6 F8
      have hk3m := Lib.hid (Nat.min_eq_left (show k3 ≤ (m + n) by omega)).symm
      have hk3n : 0 + k3 ≤ (m + n) := by omega
      have hk4m := Lib.hid (Nat.min_eq_left (show k4 ≤ (m + n) - 2 * h by omega)).symm
      have hk4n : 2 * h + k4 ≤ (m + n) := by omega
      have g1 : ¬ (m + n) = 2 * h := by omega
      have g2 : ¬ ((m + n) - 2 * h = 0) := by omega
      go_wp2_with (first
        | ((with_reducible refine is_copy ?_); refine copy32 rfl _ _ _ _ rfl (by kernel_rfl) W.heap.size 0 (m + n) (m + n) a3 k3 e3 rfl rfl (m + n) _ f3 HO8.out k3 hk3m.out hk3n (fun q => S38.out q) ?_; intro w9 hO9 hC9; have C9 := Lib.hid hC9; have HO9 := Lib.hid hO9; clear hC9 hO9)
        | ((with_reducible refine is_copy ?_); refine copy32 rfl _ _ _ _ rfl (by kernel_rfl) W.heap.size (2 * h) ((m + n) - 2 * h) ((m + n) - 2 * h) a4 k4 e4 rfl rfl (m + n) _ f4 HO9.out k4 hk4m.out hk4n (fun q => sl_chg S48.out C9.out N4.out q) ?_; intro w10 hO10 hC10; have C10 := Lib.hid (C9.out.trans hC10); have HO10 := Lib.hid hO10; clear hC10 hO10))
      have DC := Lib.hid (Dg.cpy (Dg.cpy Dg_zero D3.out 0 k3) D4.out (2 * h) k4)
      have VC := Lib.hid (V_cpy2 (f := f3) (l := f4) (k1 := k3) (k2 := k4) (h := 2 * h) (N := (m + n)) (by omega) (by omega))
      generalize cpy (cpy (fun _ => 0) 0 k3 f3) (2 * h) k4 f4 = xc at *
      have BT10 := Lib.hid (Chg.below BT8.out C10.out BT8.out.size (Nat.le_refl _))
      have S810 := Lib.hid (sl_chg S88.out C10.out N8.out)
      have HT : Hid (V xc h + P h * V (sh xc h) ((m + n) - h) + P h * (X0 * Y1 + X1 * Y0) = V y m * V x n) := Lib.hid (by
        rw [← V_half (x := xc) (n := (m + n)) (h := h) (by omega), VC.out, V3.out, V4.out, HVX.out, HVY.out, ← HX0.out, ← HX1.out, ← HY0.out, ← HY1.out, show 2 * h = h + h by omega, P_add]
        generalize P h = p
        grind)
      have hroom := kar_room (lo := V xc h) (N := (m + n)) (h := h) (by omega) (V_nonneg DC.out h) HT.out (V_mul_lt HY.out HX.out)
      have hBp : 0 ≤ V (sh xc h) ((m + n) - h) := V_nonneg (DC.out.sh h) _
      have hlen : tl x8 k7 ≤ (m + n) - h := len_le D8.out (tl_top x8 k7) (by rw [V_tl, V8.out]; omega)
      have TR10 := Lib.hid (fun w' (k : Below w10.heap.size w10 w') => trim_any a7 k7 e7 x8 w' (by omega) L7 (sl_below S810.out k))
      have D_ := Lib.hid (Below.drew (Below.refl w10.heap.size w10))
      have AD := Lib.hid (addTo_any W.heap.size h (tl x8 k7) ((m + n) - h) (m + n) ((m + n) - h) e7 a7 xc x8 w10.drew hlen (by omega) (by omega) DC.out D8.out (HO10.out.below D_.out HO10.out.lt) ((sl_below S810.out D_.out).take (tl_le x8 k7)) (fun h0 => N8.out (by have := tl_le x8 k7; omega)) (by rw [V_tl, V8.out]; exact hroom))
      have ht8 := tl_le x8 k7
      have VT := Lib.hid (V_tl x8 k7)
      have c4 : (h : Int) ≤ (m : Int) + (n : Int) := by omega
      have c5 : ¬ (m + n) = h := by omega
      have c6 : h ≤ (m + n) := by omega
      have c7 : ¬ ((m + n) - h = 0) := by omega
      clear HI S38 S48 HO8 C9 HO9 hroom hBp
      generalize tl x8 k7 = l8 at *
      go_region_held3 (fun _ => True) (exact trivial)
        (first
        | (go_at_call 61; ((with_reducible refine (TR10.out _ D_.out).mono ?_); rintro e w' ⟨rfl, rfl⟩))
        | (go_at_call 65; ((with_reducible refine AD.out.mono ?_); rintro e w11 ⟨rfl, x11, hO11, hd11, hs11, hv11, hC11⟩; have O11 := Lib.hid hO11; have D11 := Lib.hid hd11; have E11 := Lib.hid hs11; have V11 := Lib.hid hv11; have C11 := Lib.hid hC11; clear hO11 hd11 hs11 hv11 hC11)))
      have BT11 := Lib.hid (Chg.below (BT10.out.trans (D_.out.mono BT10.out.size)) C11.out (Nat.le_trans BT10.out.size D_.out.size) (Nat.le_refl _))
      have TV : Hid (V x11 (m + n) = V y m * V x n) := Lib.hid (by
        rw [V_half (x := x11) (n := (m + n)) (h := h) (by omega), V11.out, VT.out, V8.out, V_congr (x := x11) (y := xc) (n := h) (fun j hj => E11.out j (by omega)), ← HT.out, Int.mul_add] <;> omega)
      go_wp2_with fail
      refine (trim_any _ (m + n) (m + n) x11 _ (by omega) (Nat.le_refl _) (sl_own O11.out (Nat.le_refl _))).mono ?_
      rintro e w12 ⟨rfl, rfl⟩
      have F := nt_of_trim O11.out D11.out (show w.heap.size ≤ W.heap.size by rw [hszW.out]; exact Nat.le_refl _) (Nat.le_refl (m + n)) (Nat.le_refl (m + n))
      rw [TV.out] at F
      have FF := Lib.hid F
      clear F
      go_wp2_with fail
      go_ret
      exact ⟨_, _, _, rfl, by rw [Int.mul_comm]; exact FF.out, by have := tl_le x11 (m + n); omega, BW.out.trans (BT11.out.mono (by rw [hszW.out]; exact Nat.le_refl _))⟩
  · go_enter Tryd.func41, Tryd.ntmps41
    obtain ⟨ba, oa, rfl, _⟩ := HR.out (by omega)
    obtain ⟨bb, ob, rfl, _⟩ := HR2.out (by omega)
    obtain ⟨h, hh⟩ : ∃ h, h = (n + 1) / 2 := ⟨_, rfl⟩
    have hh0 : 0 < h := by omega
    have hh1 : h < n := by omega
    have hh2 : n ≤ 2 * h := by omega
    have hh3 : 2 * h ≤ n + 1 := by omega
    have hhn : ((n : Int) + 1) / 2 = (h : Int) := by omega
    have c0 : (0 : Int) ≤ (h : Int) := by omega
    have c1 : ((h : Int)).toNat = h := rfl
    have c2 : (h : Int) ≤ ((cap : Nat) : Int) := by omega
    have c3 : (h : Int) ≤ ((n : Nat) : Int) := by omega
    have TQ := Lib.hid (trim_q (some ⟨ba, oa, none⟩) h cap x w (by omega) (by omega) (HR.out.take (by omega)))
    have HH := Lib.hid hh
    clear hh
    go_wp2_with fail
    rw [hhn]
    go_quiet ((go_at_call 61; with_reducible exact Calls.quiet_of_same (TQ.out _)))
    have BW := Lib.hid (below_drewN (Below.refl w.heap.size w) nq)
    have HRW := Lib.hid (sl_below HR.out BW.out)
    have HR2W := Lib.hid (sl_below HR2.out BW.out)
    have hszW : Hid ((w.drewN nq).heap.size = w.heap.size) := Lib.hid rfl
    clear TQ hhn
    generalize w.drewN nq = W at *
    have ht := tl_le x h
    have HV0 := Lib.hid (V_tl x h)
    have HVX := Lib.hid (V_half (x := x) (n := n) (h := h) (by omega))
    generalize tl x h = lx at *
    by_cases hmh : m ≤ h
    · have hmhi : (m : Int) ≤ (h : Int) := by omega
      go_wp2_with (at_make; refine make32 rfl _ _ _ rfl (by kernel_rfl) (n + m) _ _ rfl rfl (by omega) (by omega) (by omega) ?_; intro w1 hO hB)
      have HO := Lib.hid hO
      have B1 := Lib.hid hB
      clear hO hB
      refine (HI.out _ _ lx m cap cap2 x y w1 (by omega) (by omega) (by omega) (by omega) (by omega) HX.out HY.out (sl_below (HRW.out.take (by omega)) B1.out) (sl_below HR2W.out B1.out)).mono ?_
      rintro e w2 ⟨a3, e3, k3, rfl, hN, hk3, hB⟩
      have BT2 := Lib.hid (B1.out.trans (hB.mono B1.out.size))
      have HO2 := Lib.hid (HO.out.below hB HO.out.lt)
      obtain ⟨f3, hF3, hv3, _⟩ := id hN
      have S3 := Lib.hid hF3.sl
      have D3 := Lib.hid (show Dg f3 from by obtain ⟨_, _, _, _, h, _⟩ := hF3; exact h)
      have N3 := Lib.hid (fr_ne hF3 (b := W.heap.size) HO.out.lt)
      have V3 : Hid (V f3 k3 = V x h * V y m) := Lib.hid (by rw [hv3, HV0.out])
      clear hN hF3 hv3 hB
      have hk3m := Lib.hid (Nat.min_eq_left (show k3 ≤ (n + m) by omega)).symm
      have hk3n : 0 + k3 ≤ (n + m) := by omega
      go_wp2_with ((with_reducible refine is_copy ?_); refine copy32 rfl _ _ _ _ rfl (by kernel_rfl) W.heap.size 0 (n + m) (n + m) a3 k3 e3 rfl rfl (n + m) _ f3 HO2.out k3 hk3m.out hk3n (fun q => S3.out q) ?_; intro w3 hO3 hC3)
      have HO3 := Lib.hid hO3
      have BT3 := Lib.hid (Chg.below BT2.out hC3 BT2.out.size (Nat.le_refl _))
      clear hO3 hC3
      have HX3 := Lib.hid ((Dg.cpy Dg_zero D3.out 0 k3))
      have P1 : (n - h) + m < s := by omega
      have PR := Lib.hid (fun w' (k : Below w3.heap.size w3 w') => HI.out _ _ (n - h) m (cap - h) cap2 (sh x h) y w' P1 (by omega) (by omega) (by omega) (by omega) (HX.out.sh h) HY.out (sl_below (HRW.out.drop (by omega)) (BT3.out.trans (k.mono BT3.out.size))) (sl_below HR2W.out (BT3.out.trans (k.mono BT3.out.size))))
      have D_ := Lib.hid (Below.drew (Below.refl w3.heap.size w3))
      have c4 : (h : Int) ≤ (n : Int) + (m : Int) := by omega
      have c5 : ¬ (n + m) = h := by omega
      have c6 : h ≤ (n + m) := by omega
      have c7 : ¬ ((n + m) - h = 0) := by omega
      generalize hx3 : cpy (fun _ => 0) 0 k3 f3 = x3 at *
      have HVx3 : Hid (V x3 (n + m) = V x h * V y m) := Lib.hid (by
        rw [← V3.out, ← hx3]
        obtain ⟨d, hd⟩ := Nat.exists_eq_add_of_le (show k3 ≤ (n + m) by omega)
        rw [hd, V_add, V_zeros (x := sh _ k3) (fun j _ => by show cpy _ 0 k3 f3 (k3 + j) = 0; rw [cpy_out (by omega)])]
        rw [V_congr (y := f3) (fun j hj => by have := cpy_in (x := fun _ => 0) (off := 0) (k := k3) (y := f3) (j := j) hj; rwa [Nat.zero_add] at this)]
        simp)
      have AD := Lib.hid (fun (a4 : Option Addr) (k4 e4 : Nat) (f4 : Nat → Int) (w4 : World) (q1 : k4 ≤ (n + m) - h) (q2 : Dg f4) (q3 : Own w4 W.heap.size (n + m) x3) (q4 : Sl w4 a4 k4 f4) (q5 : 0 < k4 → ∀ c o, a4 = some ⟨c, o, none⟩ → c ≠ W.heap.size) (q6 : V f4 k4 = V (sh x h) (n - h) * V y m) =>
        addTo_any W.heap.size h k4 ((n + m) - h) (n + m) ((n + m) - h) e4 a4 x3 f4 w4 q1 (by omega) (by omega) HX3.out q2 q3 q4 q5 (by
          rw [q6]
          exact kar_room (lo := V x3 h) (N := (n + m)) (h := h) (by omega) (V_nonneg HX3.out h) (T := V x n * V y m) (by rw [HVX.out, Int.add_mul, ← HVx3.out, V_half (x := x3) (n := (n + m)) (h := h) (by omega), Int.mul_assoc] <;> omega) (V_mul_lt HX.out HY.out)))
      clear HI D3 S3 N3 V3 HO2
      have t0 : w3.heap.size ≤ w3.heap.size := Nat.le_refl _
      go_region_held3 (fun _ => True) (exact trivial)
        (first
        | (go_at_call 41; ((with_reducible refine (PR.out _ D_.out).mono ?_); rintro e w4 ⟨a4, e4, k4, rfl, hN4, hk4, hB4⟩; have T4 := Lib.hid (Below.up D_.out hB4); have O4 := Lib.hid (HO3.out.below T4.out HO3.out.lt); obtain ⟨f4, hF4, hv4, _⟩ := id hN4; have S4_ := Lib.hid hF4.sl; have D4 := Lib.hid (fr_dg hF4); have N4 := Lib.hid (fr_ne hF4 (b := W.heap.size) HO3.out.lt); have V4 := Lib.hid hv4; clear hN4 hF4 hv4 hB4))
        | (go_at_call 65; ((with_reducible refine (AD.out a4 k4 e4 f4 _ (by omega) D4.out O4.out S4_.out N4.out V4.out).mono ?_); rintro e w5 ⟨rfl, x5, hO5, hd5, hs5, hv5, hC5⟩; have O5 := Lib.hid hO5; have D5 := Lib.hid hd5; have E5 := Lib.hid hs5; have V5 := Lib.hid hv5; have C5 := Lib.hid hC5; clear hO5 hd5 hs5 hv5 hC5)))
      have BT5 := Lib.hid (Chg.below (BT3.out.trans (T4.out.mono BT3.out.size)) C5.out (Nat.le_trans BT3.out.size T4.out.size) (Nat.le_refl _))
      have TV : Hid (V x5 (n + m) = V x n * V y m) := Lib.hid (by
        rw [V_half (x := x5) (n := (n + m)) (h := h) (by omega), V5.out, V4.out, V_congr (x := x5) (y := x3) (n := h) (fun j hj => E5.out j (by omega))]
        rw [HVX.out, Int.add_mul, ← HVx3.out, V_half (x := x3) (n := (n + m)) (h := h) (by omega), Int.mul_assoc, Int.mul_add] <;> omega)
      go_wp2_with fail
      refine (trim_any _ (n + m) (n + m) x5 _ (by omega) (Nat.le_refl _) (sl_own O5.out (Nat.le_refl _))).mono ?_
      rintro e w6 ⟨rfl, rfl⟩
      have F := nt_of_trim O5.out D5.out (show w.heap.size ≤ W.heap.size by rw [hszW.out]; exact Nat.le_refl _) (Nat.le_refl (n + m)) (Nat.le_refl (n + m))
      rw [TV.out] at F
      have FF := Lib.hid F
      clear F
      go_wp2_with fail
      go_ret
      exact ⟨_, _, _, rfl, FF.out, by have := tl_le x5 (n + m); omega, BW.out.trans (BT5.out.mono (by rw [hszW.out]; exact Nat.le_refl _))⟩
    · have hmhi : ¬ (m : Int) ≤ (h : Int) := by omega
      go_wp2_with (at_make; refine make32 rfl _ _ _ rfl (by kernel_rfl) (n + m) _ _ rfl rfl (by omega) (by omega) (by omega) ?_; intro w1 hO hB)
      have TQ2 := Lib.hid (trim_q (some ⟨bb, ob, none⟩) h cap2 y w1 (by omega) (by omega) ((sl_below HR2W.out hB).take (by omega)))
      have HO0 := Lib.hid hO
      have B0 := Lib.hid hB
      clear hO hB
      have d2 : (h : Int) ≤ ((cap2 : Nat) : Int) := by omega
      have d3 : (h : Int) ≤ ((m : Nat) : Int) := by omega
      have d4 : ¬ cap2 = h := by omega
      have d5 : ¬ m = h := by omega
      have d6 : ¬ (cap2 - h = 0) := by omega
      go_quiet ((go_at_call 61; with_reducible exact Calls.quiet_of_same (TQ2.out _)))
      have HO := Lib.hid (show Own (w1.drewN nq) W.heap.size (n + m) (fun _ => 0) from HO0.out)
      have B1 := Lib.hid (below_drewN B0.out nq)
      clear TQ2 HO0 B0
      generalize w1.drewN nq = W1 at *
      have ht2 := tl_le y h
      have HW0 := Lib.hid (V_tl y h)
      have HVY := Lib.hid (V_half (x := y) (n := m) (h := h) (by omega))
      generalize tl y h = ly at *
      obtain ⟨X0, hX0⟩ : ∃ X0, X0 = V x h := ⟨_, rfl⟩
      obtain ⟨X1, hX1⟩ : ∃ X1, X1 = V (sh x h) (n - h) := ⟨_, rfl⟩
      obtain ⟨Y0, hY0⟩ : ∃ Y0, Y0 = V y h := ⟨_, rfl⟩
      obtain ⟨Y1, hY1⟩ : ∃ Y1, Y1 = V (sh y h) (m - h) := ⟨_, rfl⟩
      have X0p : 0 ≤ X0 := by rw [hX0]; exact V_nonneg HX.out _
      have X1p : 0 ≤ X1 := by rw [hX1]; exact V_nonneg (HX.out.sh h) _
      have Y0p : 0 ≤ Y0 := by rw [hY0]; exact V_nonneg HY.out _
      have Y1p : 0 ≤ Y1 := by rw [hY1]; exact V_nonneg (HY.out.sh h) _
      have HX0 := Lib.hid hX0
      have HX1 := Lib.hid hX1
      have HY0 := Lib.hid hY0
      have HY1 := Lib.hid hY1
      clear hX0 hX1 hY0 hY1
      go_wp2_with fail
      refine (HI.out _ _ lx ly cap cap2 x y W1 (by omega) (by omega) (by omega) (by omega) (by omega) HX.out HY.out (sl_below (HRW.out.take (by omega)) B1.out) (sl_below (HR2W.out.take (by omega)) B1.out)).mono ?_
      rintro e w2 ⟨a3, e3, k3, rfl, hN, hk3, hB⟩
      have BT2 := Lib.hid (B1.out.trans (hB.mono B1.out.size))
      have HO2 := Lib.hid (HO.out.below hB HO.out.lt)
      obtain ⟨f3, hF3, hv3, hn3⟩ := id hN
      have S3 := Lib.hid hF3.sl
      have D3 := Lib.hid (fr_dg hF3)
      have M3 := Lib.hid hn3
      have N3 := Lib.hid (fr_ne hF3 (b := W.heap.size) HO.out.lt)
      have V3 : Hid (V f3 k3 = X0 * Y0) := Lib.hid (by rw [hv3, HV0.out, HW0.out, HX0.out, HY0.out])
      clear hN hF3 hv3 hB hn3
      go_wp2_with fail
      refine (HI.out _ _ (n - h) (m - h) (cap - h) (cap2 - h) (sh x h) (sh y h) w2 (by omega) (by omega) (by omega) (by omega) (by omega) (HX.out.sh h) (HY.out.sh h) (sl_below (HRW.out.drop (by omega)) BT2.out) (sl_below (HR2W.out.drop (by omega)) BT2.out)).mono ?_
      rintro e w3 ⟨a4, e4, k4, rfl, hN, hk4, hB⟩
      have BT3 := Lib.hid (BT2.out.trans (hB.mono BT2.out.size))
      have HO3 := Lib.hid (HO2.out.below hB HO2.out.lt)
      have S3' := Lib.hid (sl_below S3.out hB)
      obtain ⟨f4, hF4, hv4, hn4⟩ := id hN
      have S4_ := Lib.hid hF4.sl
      have D4 := Lib.hid (fr_dg hF4)
      have M4_ := Lib.hid hn4
      have N4 := Lib.hid (fr_ne hF4 (b := W.heap.size) HO2.out.lt)
      have V4 : Hid (V f4 k4 = X1 * Y1) := Lib.hid (by rw [hv4, HX1.out, HY1.out])
      clear hN hF4 hv4 hB hn4 HO2 S3
      go_wp2_with fail
      refine (sum_any (some ⟨ba, oa, none⟩) (some ⟨ba, oa + h, none⟩) lx (n - h) cap (cap - h) x (sh x h) w3 (by omega) (by omega) HX.out (HX.out.sh h) (sl_below (HRW.out.take (by omega)) BT3.out) (sl_below (HRW.out.drop (by omega)) BT3.out)).mono ?_
      rintro e w4 ⟨v5, k5, rfl, hN5, hk5, hB4⟩
      obtain ⟨a5, e5, rfl⟩ := hN5.kform
      obtain ⟨f5, hF5, hv5, _⟩ := id hN5
      have BT4 := Lib.hid (BT3.out.trans (hB4.mono BT3.out.size))
      have B34 := Lib.hid hB4
      have S5 := Lib.hid hF5.sl
      have D5 := Lib.hid (fr_dg hF5)
      have L5 : k5 ≤ e5 := by obtain ⟨_, _, e, h, _⟩ := hF5; cases e; exact h
      have V5 : Hid (V f5 k5 = X0 + X1) := Lib.hid (by rw [hv5, HV0.out, HX0.out, HX1.out])
      clear hN5 hF5 hv5 hB4
      go_wp2_with fail
      refine (sum_any (some ⟨bb, ob, none⟩) (some ⟨bb, ob + h, none⟩) ly (m - h) cap2 (cap2 - h) y (sh y h) w4 (by omega) (by omega) HY.out (HY.out.sh h) (sl_below (HR2W.out.take (by omega)) BT4.out) (sl_below (HR2W.out.drop (by omega)) BT4.out)).mono ?_
      rintro e w5 ⟨v6, k6, rfl, hN6, hk6, hB5⟩
      obtain ⟨a6, e6, rfl⟩ := hN6.kform
      obtain ⟨f6, hF6, hv6, _⟩ := id hN6
      have B35 := Lib.hid (Below.up B34.out hB5)
      have S5' := Lib.hid (sl_below S5.out hB5)
      have S6 := Lib.hid hF6.sl
      have D6 := Lib.hid (fr_dg hF6)
      have L6 : k6 ≤ e6 := by obtain ⟨_, _, e, h, _⟩ := hF6; cases e; exact h
      have V6 : Hid (V f6 k6 = Y0 + Y1) := Lib.hid (by rw [hv6, HW0.out, HY0.out, HY1.out])
      clear hN6 hF6 hv6 hB5 B34 S5
      go_wp2_with fail
      refine (HI.out _ _ k5 k6 e5 e6 f5 f6 w5 (by omega) (by omega) (by omega) L5 L6 D5.out D6.out S5'.out S6.out).mono ?_
      rintro e w6 ⟨a7, e7, k7, rfl, hN7, hk7, hB6⟩
      obtain ⟨f7, hF7, hv7, _⟩ := id hN7
      have B36 := Lib.hid (Below.up B35.out hB6)
      have D7 := Lib.hid (fr_dg hF7)
      have L7 : k7 ≤ e7 := by obtain ⟨_, _, e, h, _⟩ := hF7; cases e; exact h
      have V7 : Hid (V f7 k7 = (X0 + X1) * (Y0 + Y1)) := Lib.hid (by rw [hv7, V5.out, V6.out])
      have F7 := Lib.hid hF7
      have Z5 : W.heap.size < w5.heap.size := by have := HO3.out.lt; have := B35.out.size; omega
      have S36 := Lib.hid (sl_below S3'.out B36.out)
      have S46 := Lib.hid (sl_below S4_.out B36.out)
      have l36 := Lib.hid (fun (h0 : 0 < k3) c o e => Nat.lt_of_lt_of_le (sl_lt S3'.out h0 c o e) B35.out.size)
      have l46 := Lib.hid (fun (h0 : 0 < k4) c o e => Nat.lt_of_lt_of_le (sl_lt S4_.out h0 c o e) B35.out.size)
      have HO6 := Lib.hid (HO3.out.below B36.out HO3.out.lt)
      have p0 := Int.mul_nonneg X0p Y0p
      have p1 := Int.mul_nonneg X0p Y1p
      have p2 := Int.mul_nonneg X1p Y0p
      have p3 := Int.mul_nonneg X1p Y1p
      have hmid : (X0 + X1) * (Y0 + Y1) = X0 * Y0 + X0 * Y1 + (X1 * Y0 + X1 * Y1) := by rw [Int.add_mul, Int.mul_add, Int.mul_add]
      have k37 : k3 ≤ k7 := len_le D3.out M3.out (by have := V_lt D7.out k7; rw [V7.out, hmid] at this; rw [V3.out]; omega)
      have BT6 := Lib.hid (BT3.out.trans (B36.out.mono BT3.out.size))
      clear hN7 hF7 hv7 hB6 S5' S6 D5 D6 V5 V6 S3' S4_ HO3 B35 BT2 BT4
      go_wp2_with fail
      refine (takeFrom_fr F7.out D3.out S36.out l36.out k37 (by omega) (by rw [V3.out, V7.out, hmid]; omega)).mono ?_
      rintro e w7 ⟨rfl, x7, hF7', hv7, hB7⟩
      have F7' := Lib.hid hF7'
      have V7' : Hid (V x7 k7 = X0 * Y1 + (X1 * Y0 + X1 * Y1)) := Lib.hid (by rw [hv7, V3.out, V7.out, hmid]; omega)
      have k47 : k4 ≤ k7 := len_le D4.out M4_.out (by have := V_lt (fr_dg hF7') k7; rw [V7'.out] at this; rw [V4.out]; omega)
      have S37 := Lib.hid (sl_belowB S36.out hB7 l36.out)
      have S47 := Lib.hid (sl_belowB S46.out hB7 l46.out)
      have HO7 := Lib.hid (HO6.out.below hB7 Z5)
      have B67 := Lib.hid hB7
      clear hF7' hv7 hB7 F7 V7 S36 S46 HO6
      go_wp2_with fail
      refine (takeFrom_fr F7'.out D4.out S47.out l46.out k47 (by omega) (by rw [V4.out, V7'.out]; omega)).mono ?_
      rintro e w8 ⟨rfl, x8, hF8, hv8, hB8⟩
      have F8 := Lib.hid hF8
      have D8 := Lib.hid (fr_dg hF8)
      have V8 : Hid (V x8 k7 = X0 * Y1 + X1 * Y0) := Lib.hid (by rw [hv8, V4.out, V7'.out]; omega)
      have S38 := Lib.hid (sl_belowB S37.out hB8 l36.out)
      have S48 := Lib.hid (sl_belowB S47.out hB8 l46.out)
      have HO8 := Lib.hid (HO7.out.below hB8 Z5)
      have N8 := Lib.hid (fr_ne hF8 (b := W.heap.size) Z5)
      have BT8 := Lib.hid (BT6.out.trans ((B67.out.trans hB8).mono (Nat.le_of_lt Z5)))
      have S88 := Lib.hid hF8.sl
      clear hF8 hv8 hB8 F7' V7' S37 S47 HO7 B67 BT6 F8
      have hk3m := Lib.hid (Nat.min_eq_left (show k3 ≤ (n + m) by omega)).symm
      have hk3n : 0 + k3 ≤ (n + m) := by omega
      have hk4m := Lib.hid (Nat.min_eq_left (show k4 ≤ (n + m) - 2 * h by omega)).symm
      have hk4n : 2 * h + k4 ≤ (n + m) := by omega
      have g1 : ¬ (n + m) = 2 * h := by omega
      have g2 : ¬ ((n + m) - 2 * h = 0) := by omega
      go_wp2_with (first
        | ((with_reducible refine is_copy ?_); refine copy32 rfl _ _ _ _ rfl (by kernel_rfl) W.heap.size 0 (n + m) (n + m) a3 k3 e3 rfl rfl (n + m) _ f3 HO8.out k3 hk3m.out hk3n (fun q => S38.out q) ?_; intro w9 hO9 hC9; have C9 := Lib.hid hC9; have HO9 := Lib.hid hO9; clear hC9 hO9)
        | ((with_reducible refine is_copy ?_); refine copy32 rfl _ _ _ _ rfl (by kernel_rfl) W.heap.size (2 * h) ((n + m) - 2 * h) ((n + m) - 2 * h) a4 k4 e4 rfl rfl (n + m) _ f4 HO9.out k4 hk4m.out hk4n (fun q => sl_chg S48.out C9.out N4.out q) ?_; intro w10 hO10 hC10; have C10 := Lib.hid (C9.out.trans hC10); have HO10 := Lib.hid hO10; clear hC10 hO10))
      have DC := Lib.hid (Dg.cpy (Dg.cpy Dg_zero D3.out 0 k3) D4.out (2 * h) k4)
      have VC := Lib.hid (V_cpy2 (f := f3) (l := f4) (k1 := k3) (k2 := k4) (h := 2 * h) (N := (n + m)) (by omega) (by omega))
      generalize cpy (cpy (fun _ => 0) 0 k3 f3) (2 * h) k4 f4 = xc at *
      have BT10 := Lib.hid (Chg.below BT8.out C10.out BT8.out.size (Nat.le_refl _))
      have S810 := Lib.hid (sl_chg S88.out C10.out N8.out)
      have HT : Hid (V xc h + P h * V (sh xc h) ((n + m) - h) + P h * (X0 * Y1 + X1 * Y0) = V x n * V y m) := Lib.hid (by
        rw [← V_half (x := xc) (n := (n + m)) (h := h) (by omega), VC.out, V3.out, V4.out, HVX.out, HVY.out, ← HX0.out, ← HX1.out, ← HY0.out, ← HY1.out, show 2 * h = h + h by omega, P_add]
        generalize P h = p
        grind)
      have hroom := kar_room (lo := V xc h) (N := (n + m)) (h := h) (by omega) (V_nonneg DC.out h) HT.out (V_mul_lt HX.out HY.out)
      have hBp : 0 ≤ V (sh xc h) ((n + m) - h) := V_nonneg (DC.out.sh h) _
      have hlen : tl x8 k7 ≤ (n + m) - h := len_le D8.out (tl_top x8 k7) (by rw [V_tl, V8.out]; omega)
      have TR10 := Lib.hid (fun w' (k : Below w10.heap.size w10 w') => trim_any a7 k7 e7 x8 w' (by omega) L7 (sl_below S810.out k))
      have D_ := Lib.hid (Below.drew (Below.refl w10.heap.size w10))
      have AD := Lib.hid (addTo_any W.heap.size h (tl x8 k7) ((n + m) - h) (n + m) ((n + m) - h) e7 a7 xc x8 w10.drew hlen (by omega) (by omega) DC.out D8.out (HO10.out.below D_.out HO10.out.lt) ((sl_below S810.out D_.out).take (tl_le x8 k7)) (fun h0 => N8.out (by have := tl_le x8 k7; omega)) (by rw [V_tl, V8.out]; exact hroom))
      have ht8 := tl_le x8 k7
      have VT := Lib.hid (V_tl x8 k7)
      have c4 : (h : Int) ≤ (n : Int) + (m : Int) := by omega
      have c5 : ¬ (n + m) = h := by omega
      have c6 : h ≤ (n + m) := by omega
      have c7 : ¬ ((n + m) - h = 0) := by omega
      clear HI S38 S48 HO8 C9 HO9 hroom hBp
      generalize tl x8 k7 = l8 at *
      go_region_held3 (fun _ => True) (exact trivial)
        (first
        | (go_at_call 61; ((with_reducible refine (TR10.out _ D_.out).mono ?_); rintro e w' ⟨rfl, rfl⟩))
        | (go_at_call 65; ((with_reducible refine AD.out.mono ?_); rintro e w11 ⟨rfl, x11, hO11, hd11, hs11, hv11, hC11⟩; have O11 := Lib.hid hO11; have D11 := Lib.hid hd11; have E11 := Lib.hid hs11; have V11 := Lib.hid hv11; have C11 := Lib.hid hC11; clear hO11 hd11 hs11 hv11 hC11)))
      have BT11 := Lib.hid (Chg.below (BT10.out.trans (D_.out.mono BT10.out.size)) C11.out (Nat.le_trans BT10.out.size D_.out.size) (Nat.le_refl _))
      have TV : Hid (V x11 (n + m) = V x n * V y m) := Lib.hid (by
        rw [V_half (x := x11) (n := (n + m)) (h := h) (by omega), V11.out, VT.out, V8.out, V_congr (x := x11) (y := xc) (n := h) (fun j hj => E11.out j (by omega)), ← HT.out, Int.mul_add] <;> omega)
      go_wp2_with fail
      refine (trim_any _ (n + m) (n + m) x11 _ (by omega) (Nat.le_refl _) (sl_own O11.out (Nat.le_refl _))).mono ?_
      rintro e w12 ⟨rfl, rfl⟩
      have F := nt_of_trim O11.out D11.out (show w.heap.size ≤ W.heap.size by rw [hszW.out]; exact Nat.le_refl _) (Nat.le_refl (n + m)) (Nat.le_refl (n + m))
      rw [TV.out] at F
      have FF := Lib.hid F
      clear F
      go_wp2_with fail
      go_ret
      exact ⟨_, _, _, rfl, FF.out, by have := tl_le x11 (n + m); omega, BW.out.trans (BT11.out.mono (by rw [hszW.out]; exact Nat.le_refl _))⟩

theorem prod_fits : ∀ s, ProdFits s
  | 0 => fun a a2 n m cap cap2 x y w h => absurd h (by omega)
  | s + 1 => fun a a2 n m cap cap2 x y w h hn hm hc hc2 hx hy hr hr2 => product_step s (prod_fits s) a a2 n m cap cap2 x y w (by omega) hn hm hc hc2 hx hy hr hr2
theorem product_any (u v : Value) (n m : Nat) (p q : Int) (w : World) (hu : Nr w u n p) (hv : Nr w v m q) (hn : n ≤ 10000000) (hm : m ≤ 10000000) :
    Calls Tryd.prog 41 #[u, v] w fun e w' => ∃ r k, e = .returned r ∧ Nt w' w.heap.size r k (p * q) ∧ k ≤ n + m ∧ Below w.heap.size w w' := by
  obtain ⟨a, cap, x, rfl, hc, hd, hs, ht, rfl⟩ := hu
  obtain ⟨a2, cap2, y, rfl, hc2, hd2, hs2, ht2, rfl⟩ := hv
  refine (prod_fits (n + m + 1) a a2 n m cap cap2 x y w (by omega) hn hm hc hc2 hd hd2 hs hs2).mono ?_
  rintro e w' ⟨a3, c3, k3, rfl, h1, h2, h3⟩
  exact ⟨_, k3, rfl, h1, h2, h3⟩
end Go.Proofs.YtkhchaoehlefdaaDoor
