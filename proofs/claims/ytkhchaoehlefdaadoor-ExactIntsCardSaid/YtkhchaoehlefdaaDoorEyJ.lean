/- Contract: longDivide. -/
import Derived.Test.YtkhchaoehlefdaaDoorEyI
set_option linter.unusedVariables false
set_option linter.unusedSimpArgs false
namespace Go.Proofs.YtkhchaoehlefdaaDoor
open Go.RowKit

/-- A divisor that is shifted so that its highest bit is 1. -/
theorem shifted_top {y : Nat → Int} {j s : Nat} (hy : Dg y) (l0 : 2147483648 ≤ y (j + 1) * 2 ^ s) (l1 : y (j + 1) * 2 ^ s ≤ 4294967295) (hd : (4294967296 : Int) % 2 ^ s = 0) :
    2147483648 * P (j + 1) ≤ 2 ^ s * V y (j + 2) ∧ 2 ^ s * V y (j + 2) < P (j + 2) := by
  have p0 : (0 : Int) < 2 ^ s := Int.pow_pos (by decide)
  have e : V y (j + 2) = V y (j + 1) + y (j + 1) * P (j + 1) := V_succ _ _
  have v0 := V_nonneg hy (j + 1)
  have v1 := V_lt hy (j + 1)
  have k0 := P_pos (j + 1)
  obtain ⟨M, hM⟩ : ∃ M, (4294967296 : Int) = 2 ^ s * M := ⟨4294967296 / 2 ^ s, by rw [Int.mul_ediv_cancel' (Int.dvd_of_emod_eq_zero hd)]⟩
  have eP : P (j + 2) = 4294967296 * P (j + 1) := P_succ _
  generalize (2 : Int) ^ s = S at *
  generalize V y (j + 1) = A at *
  generalize P (j + 1) = K at *
  generalize y (j + 1) = t at *
  have ht : t + 1 ≤ M := by
    have : t * S < M * S := by rw [Int.mul_comm M, ← hM]; omega
    have := Int.lt_of_mul_lt_mul_right this (by omega)
    omega
  constructor
  · have h1 : 2147483648 * K ≤ t * S * K := Int.mul_le_mul_of_nonneg_right l0 (by omega)
    have h2 : 0 ≤ S * A := Int.mul_nonneg (by omega) v0
    rw [e, Int.mul_add]
    have : S * (t * K) = t * S * K := by grind
    omega
  · rw [eP, e, hM]
    have h1 : S * (A + t * K) < S * ((t + 1) * K) := by
      refine Int.mul_lt_mul_of_pos_left ?_ p0
      rw [Int.add_mul, Int.one_mul]; omega
    have h2 : S * ((t + 1) * K) ≤ S * (M * K) := Int.mul_le_mul_of_nonneg_left (Int.mul_le_mul_of_nonneg_right ht (by omega)) (by omega)
    rw [Int.mul_assoc]
    omega
theorem top_of {z : Nat → Int} {j : Nat} (hz : Dg z) (h : 2147483648 * P (j + 1) ≤ V z (j + 2)) : 2147483648 ≤ z (j + 1) := by
  have e : V z (j + 2) = V z (j + 1) + z (j + 1) * P (j + 1) := V_succ _ _
  have v1 := V_lt hz (j + 1)
  have k0 := P_pos (j + 1)
  have : 2147483648 * P (j + 1) < (z (j + 1) + 1) * P (j + 1) := by rw [Int.add_mul, Int.one_mul]; omega
  have := Int.lt_of_mul_lt_mul_right this (by omega)
  omega
theorem len_of {w : World} {u : Value} {k j : Nat} {z : Int} (h : Nr w u k z) (h0 : 2147483648 * P (j + 1) ≤ z) (h1 : z < P (j + 2)) : k = j + 2 := by
  have a := h.len h1
  by_cases e : k = j + 2
  · exact e
  · exfalso
    have b := h.lt
    have c := P_mono (show k ≤ j + 1 by omega)
    have k0 := P_pos (j + 1)
    omega
theorem pow_dvd {s : Nat} (h : s < 32) : (4294967296 : Int) % 2 ^ s = 0 := by
  have : (4294967296 : Int) = 2 ^ s * 2 ^ (32 - s) := by rw [← Int.pow_add, show s + (32 - s) = 32 by omega]; rfl
  rw [this]; exact Int.mul_emod_right _ _
/-- Where the loop begins. -/
theorem ld_first {x : Nat → Int} {L j s : Nat} {p q : Int} (hx : Dg x) (hs : s < 32) (hp : p < P (L + (j + 1))) (e : V x (L + (j + 2)) = 2 ^ s * p) (hW : 2147483648 * P (j + 1) ≤ 2 ^ s * q) : V (sh x L) (j + 2) < 2 ^ s * q := by
  have p0 : (0 : Int) < 2 ^ s := Int.pow_pos (by decide)
  have p1 : (2 : Int) ^ s ≤ 2147483648 := by
    have h1 : (2 : Nat) ^ s ≤ 2 ^ 31 := Nat.pow_le_pow_right (by decide) (by omega)
    rw [show ((2 : Int) ^ s) = ((2 ^ s : Nat) : Int) by rw [Int.natCast_pow]; rfl]
    omega
  have k0 := P_pos L
  have k1 := P_pos (j + 1)
  have v0 := V_nonneg hx L
  have ea : V x (L + (j + 2)) = V x L + P L * V (sh x L) (j + 2) := V_add ..
  have h1 : 2 ^ s * p < 2 ^ s * P (L + (j + 1)) := Int.mul_lt_mul_of_pos_left hp p0
  have h2 : 2 ^ s * P (L + (j + 1)) ≤ 2147483648 * P (L + (j + 1)) := Int.mul_le_mul_of_nonneg_right p1 (by have := P_pos (L + (j + 1)); omega)
  have h3 : P (L + (j + 1)) = P L * P (j + 1) := P_add ..
  have h4 : P L * (2147483648 * P (j + 1)) ≤ P L * (2 ^ s * q) := Int.mul_le_mul_of_nonneg_left hW (by omega)
  have h5 : P L * (2147483648 * P (j + 1)) = 2147483648 * (P L * P (j + 1)) := by grind
  have h6 : P L * V (sh x L) (j + 2) < P L * (2 ^ s * q) := by rw [h3] at h1 h2; omega
  exact Int.lt_of_mul_lt_mul_left h6 (by omega)

set_option maxHeartbeats 3200000 in
set_option maxRecDepth 100000 in
theorem longDivide_nr {w : World} {u v : Value} {L j : Nat} {p q : Int} (hu : Nr w u (L + (j + 1)) p) (hv : Nr w v (j + 2) q) (hL : 0 < L) (hn : L + (j + 1) ≤ 999999) :
    Calls Tryd.prog 85 #[u, v] w fun e w' => ∃ r s k l, e = .returned (.tuple #[r, s]) ∧ Nt w' w.heap.size r k (p / q) ∧ Nt w' w.heap.size s l (p % q) ∧ k ≤ L ∧ l ≤ L + (j + 2) ∧ Below w.heap.size w w' := by
  have hpl := hu.lt
  have HVN := Lib.hid hv
  obtain ⟨a, cap, x, rfl, hc, hx, hr, ht, rfl⟩ := hu
  obtain ⟨a2, cap2, y, rfl, hc2, hy, hr2, ht2, rfl⟩ := hv
  obtain ⟨d, o, rfl, hrow⟩ := hr2 (by omega)
  have htop : y (j + 1) ≠ 0 := ht2 (by omega)
  have g1 : w.cell? ⟨d, o + (j + 1), none⟩ = some (.int .u32 (y (j + 1))) := hrow (j + 1) (by omega)
  have hyt := hy (j + 1)
  have C := Lib.hid (lead32 (y (j + 1)) w (by omega) hyt.2)
  have HX := Lib.hid hx
  have HY := Lib.hid hy
  have HR := Lib.hid hr
  have HPL := Lib.hid hpl
  have HQ := Lib.hid (show 0 < V y (j + 2) by
    have e : V y (j + 2) = V y (j + 1) + y (j + 1) * P (j + 1) := V_succ _ _
    have h1 := V_nonneg hy (j + 1)
    have h2 := P_pos (j + 1)
    have h3 : 1 * P (j + 1) ≤ y (j + 1) * P (j + 1) := Int.mul_le_mul_of_nonneg_right (by omega) (by omega)
    omega)
  clear hx hr ht hy hr2 ht2 hrow hpl htop hyt
  go_enter Tryd.func85, Tryd.ntmps85
  go_wp2_with fail
  refine C.out.mono ?_
  rintro e w1 ⟨s, rfl, hs, l0, l1, rfl⟩
  obtain ⟨t0, t1⟩ := shifted_top HY.out l0 l1 (pow_dvd hs)
  have HS := Lib.hid (And.intro t0 t1)
  clear C g1 l0 l1 t0 t1
  go_wp2_with fail
  refine (shiftLeft_nr s HVN.out (by omega) (by omega)).mono ?_
  rintro e w1 ⟨dv, k, rfl, hD, hk, hB1⟩
  have hk2 := len_of hD.nr HS.out.1 HS.out.2
  subst hk2
  obtain ⟨z0, ⟨a', cap', rfl, hc', hdz, hOz⟩, hVz, htz⟩ := hD
  obtain ⟨b', N', rfl, hb', hN', hOz'⟩ := hOz (by omega)
  have HB1 := Lib.hid hB1
  have HZ := Lib.hid hOz'
  have HVZ := Lib.hid hVz
  have HDZ := Lib.hid hdz
  have hbl := hOz'.lt
  clear hB1 hOz' hVz hdz htz hOz hk
  go_wp2_with (at_make; refine make32 rfl _ _ _ rfl (by kernel_rfl) (L + (j + 1) + 1) _ _ rfl rfl (by omega) (by omega) (by omega) ?_; intro w2 hO hB2)
  have hs2 := sl_below (sl_below HR.out HB1.out) hB2
  have hne2 : 0 < L + (j + 1) → ∀ c o', a = some ⟨c, o', none⟩ → c ≠ w1.heap.size := fun h c o' e => by
    obtain ⟨c1, o1, e1, hrow⟩ := (sl_below HR.out HB1.out) h
    rw [e1] at e
    cases e
    exact Nat.ne_of_lt (hrow.lt h)
  refine (shiftInto_any w1.heap.size 0 (L + (j + 1)) (L + (j + 1) + 1) (L + (j + 1) + 1) (L + (j + 1) + 1) cap s a (fun _ => 0) x w2 (by omega) (by omega) (by omega) hs Dg_zero HX.out hO hs2 hne2).mono ?_
  rintro e w3 ⟨xr, rfl, hOr, hdr, hfr, hvr, hCr⟩
  have hB3 := Chg.below hB2 hCr hB2.size (Nat.le_refl _)
  rw [sh_zero] at hvr
  have HOr := Lib.hid hOr
  have HDr := Lib.hid hdr
  have HVr := Lib.hid hvr
  have HB3 := Lib.hid hB3
  have hsz := hOr.lt
  clear hs2 hne2 hO hB2 hOr hdr hfr hvr hCr hB3
  go_wp2_with (at_make; refine make32 rfl _ _ _ rfl (by kernel_rfl) L _ _ rfl rfl (by omega) (by omega) (by omega) ?_; intro w4 hOq hB4)
  have hFirst := ld_first HDr.out hs HPL.out HVr.out HS.out.1
  have h0 : Hid (LdRel w1 w1.heap.size w3.heap.size L j (2 ^ s * V x (L + (j + 1))) (2 ^ s * V y (j + 2)) L w4) :=
    ⟨xr, fun _ => 0, HOr.out.below hB4 hsz, hOq, HDr.out, Dg_zero, fun i h1 h2 => absurd h1 (by omega), hFirst, by rw [← HVr.out, Nat.sub_self, V_zero, Int.zero_mul, Int.mul_zero, Int.add_zero]; rfl, Below.up HB3.out hB4⟩
  clear hOq hB4 hFirst
  go_loopw [9] (fun i wr => ∃ k : Nat, k ≤ L ∧ i = .int .i64 ((k : Int) - 1) ∧ Hid (LdRel w1 w1.heap.size w3.heap.size L j (2 ^ s * V x (L + (j + 1))) (2 ^ s * V y (j + 2)) k wr)) (fun i _ => (intOf i + 1).toNat)
  case atStart => exact ⟨L, by omega, by go_num, h0⟩
  case round =>
    clear h0
    obtain ⟨k, hk, rfl, R⟩ := hrel
    by_cases hk0 : 0 < k
    · obtain ⟨i, rfl⟩ : ∃ i, k = i + 1 := ⟨k - 1, by omega⟩
      obtain ⟨x', z', hOx, hOq, hdx, hdq, hx0, hlt, hT, hB⟩ := R.out
      have hU := ld_part hdx hlt
      have hWp : 0 < 2 ^ s * V y (j + 2) := Int.mul_pos (Int.pow_pos (by decide)) HQ.out
      have hz1 : 2147483648 ≤ z0 (j + 1) := top_of HDZ.out (by rw [HVZ.out]; exact HS.out.1)
      have C := Lib.hid (fun cp => takeQuotient_any w1.heap.size i j (L + (j + 2)) cp cap' (some ⟨b', 0, none⟩) x' z0 wr (by omega) (by omega) hdx HDZ.out hz1 (by rw [HVZ.out]; exact hU) hOx
        (sl_own (HZ.out.below hB hbl) hN') (fun c o' e => by cases e; exact Nat.ne_of_lt hbl))
      have S := Lib.hid (fun w2 h => ldRel_step (w2 := w2) hOq hdx hdq hx0 hlt hT hB (show i < L by omega) (Nat.le_refl _) (Nat.le_of_lt hsz) (Nat.ne_of_gt hsz) hWp HS.out.2 h hU)
      have q2 := fun w2 (h : QuoRel w1.heap.size i j (L + (j + 2)) x' (V (sh x' i) (j + 3) % (2 ^ s * V y (j + 2))) wr w2) => (show w2.cell? ⟨w3.heap.size, i, none⟩ = some (.int .u32 (z' i)) ∧ w2.frozen? ⟨w3.heap.size, i, none⟩ = false from by
        obtain ⟨_, _, _, _, _, hC⟩ := h
        have hh := hOq.chg hC (Nat.ne_of_gt hsz)
        exact ⟨hh.cell (by omega), hh.free _⟩)
      have Q2 := Lib.hid q2
      have HVW := Lib.hid HVZ.out
      have e3 : i + (j + 2) + 1 - i = j + 3 := by omega
      clear q2 R hOx hOq hdx hdq hx0 hlt hT hB hU hWp hz1 HX HY HR HOr HDr HVr HB1 HPL HQ HVN
      go_wp2_with fail
      refine (C.out _).mono ?_
      rintro e w5 ⟨rfl, hQR⟩
      rw [HVW.out] at hQR ⊢
      obtain ⟨q3, q4⟩ := Q2.out w5 hQR
      have F : Hid _ := S.out w5 hQR
      clear C S Q2 hQR HVW e3 HS HZ HVZ HDZ
      go_wp2_with fail
      go_roundw
      case rel => exact ⟨i, by omega, rfl, F⟩
      case measure => simp [intOf] <;> omega
    · obtain rfl : k = 0 := by omega
      obtain ⟨x', z', hOx, hOq, hdx, hdq, hx0, hlt, hT, hB⟩ := R.out
      have hsx : V (sh x' 0) (j + 2) = V x' (j + 2) := by rw [sh_zero]
      have hXL : V x' (L + (j + 1) + 1) = V x' (j + 2) := by
        rw [show L + (j + 1) + 1 = (j + 2) + L by omega, V_add, V_zeros (x := sh x' (j + 2)) (fun i hi => hx0 (j + 2 + i) (by omega) (by omega)), Int.mul_zero, Int.add_zero]
      have hTT : 2 ^ s * V x (L + (j + 1)) = V x' (j + 2) + 2 ^ s * V y (j + 2) * V z' L := by
        rw [hT, sh_zero, P_zero, Int.mul_one, Nat.zero_add, Nat.sub_zero]
      rw [hsx] at hlt
      obtain ⟨e1, e2⟩ := ld_end (Int.pow_pos (by decide)) hTT (V_nonneg hdx _) hlt rfl rfl HQ.out
      have E1 := Lib.hid e1
      have E2 := Lib.hid e2
      have HXL := Lib.hid hXL
      have NQ := Lib.hid (nt_of_trim hOq hdq (show w.heap.size ≤ w3.heap.size by have := HB1.out.size; omega) (Nat.le_refl L) (Nat.le_refl L))
      have NR := Lib.hid (nr_split (a := some ⟨w1.heap.size, 0, none⟩) (n := L + (j + 1) + 1) (cap := L + (j + 1) + 1) (Nat.le_refl _) hdx (sl_own hOx (by omega)))
      have SQ := Lib.hid (sl_own hOq (Nat.le_refl L))
      have SR := Lib.hid (sl_own hOx (show L + (j + 1) + 1 ≤ L + (j + 2) by omega))
      have BT := Lib.hid (Below.up HB1.out hB)
      have l1 := tl_le x' (L + (j + 1) + 1)
      have l2 := tl_le z' L
      clear R hOx hOq hx0 hlt hT hB hsx hXL hTT e1 e2 HX HY HR HOr HDr HVr HPL HQ HVN HS HZ HVZ HDZ HB1 HB3 hdx hdq
      go_wp2_with fail
      refine (trim_any _ L L z' wr (by omega) (Nat.le_refl _) SQ.out).mono ?_
      rintro e w5 ⟨rfl, rfl⟩
      go_wp2_with fail
      refine (trim_any _ (L + (j + 1) + 1) (L + (j + 1) + 1) x' wr (by omega) (Nat.le_refl _) SR.out).mono ?_
      rintro e w5 ⟨rfl, rfl⟩
      go_wp2_with fail
      refine (shiftRight_nr s NR.out (by omega) (by omega)).mono ?_
      rintro e w6 ⟨rv, l, rfl, hRv, hl, hB6⟩
      have HRv := Lib.hid hRv
      have HB6 := Lib.hid hB6
      clear hRv hB6
      go_wp2_with fail
      go_ret2
      refine ⟨_, rv, tl z' L, l, rfl, ?_, ?_, l2, by omega, Below.up BT.out HB6.out⟩
      · rw [← E1.out]; exact NQ.out.below HB6.out
      · rw [← E2.out, ← HXL.out]; exact HRv.out.mono BT.out.size
end Go.Proofs.YtkhchaoehlefdaaDoor
