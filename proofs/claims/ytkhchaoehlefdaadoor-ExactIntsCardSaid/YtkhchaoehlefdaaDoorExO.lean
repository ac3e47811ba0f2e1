/- Common divisors of short numbers. -/
import Derived.Test.YtkhchaoehlefdaaDoorExK
import Derived.Shelf.Spec.TrailingZeros
namespace Go.Proofs.YtkhchaoehlefdaaDoor
open Go.RowKit

/-- The table of the library lies where it was laid. -/
def Tab (w : World) : Prop := TabAt 0 Lib.deBruijn64tab w
theorem tz64_walk (x k idx : Nat) (w : World) (hx0 : ((x : Int) == 0) = false)
    (key : IntKind.u64.wrap (bits BinOp.and IntKind.u64 (x : Int) (IntKind.u64.wrap (-(x : Int))) * 285870213051353865) / 288230376151711744 = (idx : Int))
    (hi : idx < 64) (hk : k < 64) (hcell : w.cell? ⟨0, idx, none⟩ = some (.int .u8 k)) :
    Calls Tryd.prog 89 #[.int .u64 x] w fun e w' => e = .returned (.int .i64 k) ∧ w = w' := by
  go_enter Tryd.func89, Tryd.ntmps89
  go_wp2_with (simp only [key])
  go_ret
  exact ⟨rfl, rfl⟩
theorem tz64 (x : Nat) (hx : x < 18446744073709551616) (hx0 : x ≠ 0) (w : World) (hT : Tab w) :
    Calls Tryd.prog 89 #[.int .u64 x] w fun e w' => e = .returned (.int .i64 (Lib.ctz 64 x)) ∧ w = w' := by
  obtain ⟨hlow, hk⟩ := Lib.lowest_bit 64 x hx0 hx
  obtain ⟨hi, htab⟩ := Lib.deBruijn64_at _ hk
  have hcell := hT _ hi
  rw [htab] at hcell
  exact tz64_walk x _ _ w (by simp; omega) (tz64_key x _ hx hx0 hlow) hi hk hcell
/-- A number without its twos. -/
theorem tz_spec {x : Nat} (hx : x < 18446744073709551616) (hx0 : x ≠ 0) : ∃ m, x = 2 ^ Lib.ctz 64 x * (2 * m + 1) ∧ Lib.ctz 64 x < 64 := by
  have := Lib.ctzFrom_spec 64 x (by omega) hx
  unfold Lib.ctz
  rw [if_neg hx0]
  exact this

theorem value_nr {w : World} {u : Value} {n : Nat} {p : Int} (hu : Nr w u n p) (hn : n ≤ 2) :
    Calls Tryd.prog 57 #[u] w fun e w' => e = .returned (.int .u64 p) ∧ ∃ k, w' = w.drewN k := by
  obtain ⟨a, cap, x, rfl, hc, hd, hs, ht, rfl⟩ := hu
  match n, hn with
  | 0, _ =>
    go_enter Tryd.func57, Tryd.ntmps57
    go_wp2_with fail
    go_ret
    exact ⟨rfl, 0, rfl⟩
  | 1, _ =>
    obtain ⟨b, off, rfl, hr⟩ := hs (by omega)
    have h1 : w.cell? ⟨b, off, none⟩ = _ := hr 0 (by omega)
    have hv : V x 1 = x 0 := by simp [V_succ, V_zero, P_zero]
    rw [hv]
    obtain ⟨d0, d1⟩ := hd 0
    clear hs hr ht hd hv
    generalize x 0 = x0 at *
    go_enter Tryd.func57, Tryd.ntmps57
    go_wp2_with fail
    go_ret
    exact ⟨ret_int (by omega), 0, rfl⟩
  | 2, _ =>
    obtain ⟨b, off, rfl, hr⟩ := hs (by omega)
    have h1 : w.cell? ⟨b, off, none⟩ = _ := hr 0 (by omega)
    have h2 := hr 1 (by omega)
    have hv : V x 2 = x 1 * 4294967296 + x 0 := by simp [V_succ, V_zero, P_succ, P_zero]; omega
    rw [hv]
    obtain ⟨d0, d1⟩ := hd 0
    obtain ⟨d2, d3⟩ := hd 1
    clear hs hr ht hd hv
    generalize x 0 = x0 at *
    generalize x 1 = x1 at *
    have hor := or_join x1 x0 ⟨d2, d3⟩ ⟨d0, d1⟩
    have hw : IntKind.u64.wrap (x1 * 4294967296) = x1 * 4294967296 := IntWalk.u64_in _ (by omega)
    go_enter Tryd.func57, Tryd.ntmps57
    go_wp2_with fail
    go_quiet (fail)
    go_wp2_with fail
    go_ret
    exact ⟨rfl, _, rfl⟩

/-! ### Twos and common divisors -/
theorem odd_cop {a : Nat} (h : a % 2 = 1) (k : Nat) : Nat.Coprime (2 ^ k) a := by
  refine Nat.Coprime.pow_left k ?_
  show Nat.gcd 2 a = 1
  rw [Nat.gcd_rec, h]; decide
theorem gcd_twos {a : Nat} (h : a % 2 = 1) (k b : Nat) : Nat.gcd a (2 ^ k * b) = Nat.gcd a b := by
  rw [Nat.gcd_comm a, Nat.gcd_comm a]
  exact Nat.Coprime.gcd_mul_left_cancel b (odd_cop h k)
theorem or_odd {x y : Nat} (h : (x ||| y) % 2 = 1) : x % 2 = 1 ∨ y % 2 = 1 := by
  have := Nat.or_mod_two_pow (a := x) (b := y) (n := 1)
  simp only [Nat.pow_one] at this
  rw [h] at this
  rcases Nat.mod_two_eq_zero_or_one x with hx | hx
  · rcases Nat.mod_two_eq_zero_or_one y with hy | hy
    · rw [hx, hy] at this; simp at this
    · exact .inr hy
  · exact .inl hx
theorem gcd_split {a b tw m ta ma : Nat} (ho : a ||| b = 2 ^ tw * (2 * m + 1)) (ha : a = 2 ^ ta * (2 * ma + 1)) : Nat.gcd a b = 2 ^ tw * Nat.gcd (2 * ma + 1) b := by
  have hz : (a ||| b) % 2 ^ tw = 0 := by rw [ho]; exact Nat.mul_mod_right _ _
  rw [Nat.or_mod_two_pow] at hz
  have hz2 := Nat.or_eq_zero_iff.1 hz
  obtain ⟨a', ea⟩ := Nat.dvd_of_mod_eq_zero hz2.1
  obtain ⟨b', eb⟩ := Nat.dvd_of_mod_eq_zero hz2.2
  have hp : 0 < 2 ^ tw := Nat.two_pow_pos tw
  have hq : (a' ||| b') % 2 = 1 := by
    have e : (a ||| b) / 2 ^ tw = a' ||| b' := by
      rw [Nat.or_div_two_pow, ea, eb, Nat.mul_div_cancel_left _ hp, Nat.mul_div_cancel_left _ hp]
    rw [ho, Nat.mul_div_cancel_left _ hp] at e
    omega
  have hodd : (2 * ma + 1) % 2 = 1 := by omega
  have key : Nat.gcd a' b' = Nat.gcd (2 * ma + 1) b' := by
    have hta : tw ≤ ta := by
      rcases Nat.lt_or_ge ta tw with g | g
      · exfalso
        obtain ⟨d, rfl⟩ : ∃ d, tw = ta + (d + 1) := ⟨tw - ta - 1, by omega⟩
        rw [ha, Nat.pow_add, Nat.mul_assoc] at ea
        have := Nat.eq_of_mul_eq_mul_left (Nat.two_pow_pos ta) ea
        rw [Nat.pow_succ] at this
        have h2 : (2 ^ d * 2 * a') % 2 = 0 := by rw [Nat.mul_comm (2 ^ d), Nat.mul_assoc]; exact Nat.mul_mod_right _ _
        omega
      · exact g
    obtain ⟨d, rfl⟩ := Nat.exists_eq_add_of_le hta
    rw [ha, Nat.pow_add, Nat.mul_assoc] at ea
    have ea2 := Nat.eq_of_mul_eq_mul_left hp ea
    rcases or_odd hq with g | g
    · have : d = 0 := by
        rcases Nat.eq_zero_or_pos d with e | e
        · exact e
        · obtain ⟨d', rfl⟩ : ∃ d', d = d' + 1 := ⟨d - 1, by omega⟩
          rw [Nat.pow_succ, Nat.mul_comm (2 ^ d'), Nat.mul_assoc] at ea2
          omega
      subst this
      rw [← ea2]; simp
    · rw [← ea2, Nat.gcd_comm, gcd_twos g, Nat.gcd_comm]
  have e1 : Nat.gcd a b = 2 ^ tw * Nat.gcd a' b' := by rw [ea, eb, Nat.gcd_mul_left]
  have e2 : Nat.gcd (2 * ma + 1) b = Nat.gcd (2 * ma + 1) b' := by rw [eb, gcd_twos hodd]
  rw [e1, key, e2]
theorem gcd_take {a b : Nat} (h : a ≤ b) : Nat.gcd a (b - a) = Nat.gcd a b := by
  obtain ⟨c, rfl⟩ := Nat.exists_eq_add_of_le h
  simp

set_option maxHeartbeats 1600000 in
theorem commonWord_any (a b : Nat) (ha : 0 < a) (ha2 : a < 18446744073709551616) (hb : b < 18446744073709551616) (w : World) (hT : Tab w) :
    Calls Tryd.prog 81 #[.int .u64 a, .int .u64 b] w fun e w' => e = .returned (.int .u64 (Nat.gcd a b)) ∧ w = w' := by
  have HT := Lib.hid hT
  clear hT
  by_cases hb0 : b = 0
  · subst hb0
    go_enter Tryd.func81, Tryd.ntmps81
    go_wp2_with fail
    go_ret
    exact ⟨ret_int (by simp), rfl⟩
  · have h0 : ((b : Int) == 0) = false := by simp; omega
    go_enter Tryd.func81, Tryd.ntmps81
    go_wp2_with fail
    rw [u64_or_nat a b ha2 hb]
    have ho : a ||| b < 18446744073709551616 := Nat.or_lt_two_pow (n := 64) ha2 hb
    have ho0 : a ||| b ≠ 0 := by
      have := Nat.left_le_or (n := a) (m := b)
      omega
    refine (tz64 (a ||| b) ho ho0 w HT.out).mono ?_
    rintro e w1 ⟨rfl, rfl⟩
    obtain ⟨m, hm, hc⟩ := tz_spec ho ho0
    have T := Lib.hid hm
    clear hm
    generalize Lib.ctz 64 (a ||| b) = tw at *
    go_wp2_with fail
    refine (tz64 a ha2 (by omega) w HT.out).mono ?_
    rintro e w1 ⟨rfl, rfl⟩
    obtain ⟨ma, hma, hca⟩ := tz_spec ha2 (show a ≠ 0 by omega)
    have TA := Lib.hid hma
    clear hma
    generalize Lib.ctz 64 a = ta at *
    go_wp2_with fail
    have hA : a / 2 ^ ta = 2 * ma + 1 := by
      rw [TA.out, Nat.mul_div_cancel_left _ (Nat.two_pow_pos ta)]
    have hA2 : ((a : Int) / 2 ^ ta) = ((a / 2 ^ ta : Nat) : Int) := by simp
    have hG : Hid (Nat.gcd a b = 2 ^ tw * Nat.gcd (2 * ma + 1) b) := gcd_split T.out TA.out
    have hle : a / 2 ^ ta ≤ a := Nat.div_le_self _ _
    go_loop [0, 1] (fun u v => ∃ A B : Nat, u = .int .u64 A ∧ v = .int .u64 B ∧ A % 2 = 1 ∧ A < 18446744073709551616 ∧ B < 18446744073709551616 ∧ Hid (Nat.gcd A B = Nat.gcd (2 * ma + 1) b)) (fun u v => (intOf u + intOf v).toNat)
    case atStart => exact ⟨a / 2 ^ ta, b, by rw [hA2], rfl, by omega, by omega, hb, by rw [hA]; exact rfl⟩
    case round =>
      obtain ⟨A, B, rfl, rfl, hodd, hA64, hB64, HG⟩ := hrel
      clear hA hA2 hle TA T hca
      by_cases hB0 : B = 0
      · subst hB0
        have h1 : Nat.gcd a b = 2 ^ tw * A := by rw [hG.out, ← HG.out]; simp
        have h2 : Nat.gcd a b ≤ a := Nat.gcd_le_left b ha
        have h3 : ((Nat.gcd a b : Nat) : Int) = (A : Int) * 2 ^ tw := by rw [h1, Int.natCast_mul, Int.mul_comm]; simp
        have H3 := Lib.hid h3
        have h4 : 0 ≤ (A : Int) * 2 ^ tw ∧ (A : Int) * 2 ^ tw < 18446744073709551616 := by omega
        clear h1 h3
        go_wp2_with fail
        go_ret
        exact ⟨ret_int H3.out.symm, rfl⟩
      · have hB1 : ((B : Int) != 0) = true := by simp; omega
        obtain ⟨mb, hmb, hcb⟩ := tz_spec hB64 hB0
        have hmb2 : B / 2 ^ Lib.ctz 64 B = 2 * mb + 1 := by
          conv => lhs; lhs; rw [hmb]
          rw [Nat.mul_div_cancel_left _ (Nat.two_pow_pos _)]
        have hle : B / 2 ^ Lib.ctz 64 B ≤ B := Nat.div_le_self _ _
        have hG2 : Nat.gcd A B = Nat.gcd A (2 * mb + 1) := by conv => lhs; rw [hmb]
                                                              rw [gcd_twos hodd]
        have C := Lib.hid (tz64 B hB64 hB0 w HT.out)
        generalize Lib.ctz 64 B = tb at *
        have hI : ((B : Int) / 2 ^ tb) = ((2 * mb + 1 : Nat) : Int) := by rw [← hmb2]; simp
        have HG2 := Lib.hid hG2
        have hlt : 2 * mb + 1 ≤ B := by omega
        have hodd2 : (2 * mb + 1) % 2 = 1 := by omega
        clear hmb hmb2 hle hG2
        generalize 2 * mb + 1 = D at *
        have hO1 := Lib.hid hodd
        have hO2 := Lib.hid hodd2
        have A1 : 0 < A := by omega
        have D1 : 0 < D := by omega
        clear hodd hodd2
        go_wp2_with fail
        refine C.out.mono ?_
        rintro e w1 ⟨rfl, rfl⟩
        clear C
        by_cases hgt : D < A
        · have hG3 : Hid (Nat.gcd D (A - D) = Nat.gcd (2 * ma + 1) b) := by
            show _ = _
            rw [gcd_take (by omega), Nat.gcd_comm, ← HG2.out, HG.out]
          have hs : ((A : Int) - (D : Int)) = ((A - D : Nat) : Int) := by omega
          have HS := Lib.hid hs
          clear hs HG HG2
          go_wp2_with fail
          go_round
          case rel => exact ⟨D, A - D, rfl, by rw [HS.out], hO2.out, by omega, by omega, hG3⟩
          case measure => simp [intOf] <;> omega
        · have hG3 : Hid (Nat.gcd A (D - A) = Nat.gcd (2 * ma + 1) b) := by
            show _ = _
            rw [gcd_take (by omega), ← HG2.out, HG.out]
          have hs : ((D : Int) - (A : Int)) = ((D - A : Nat) : Int) := by omega
          have HS := Lib.hid hs
          clear hs HG HG2
          go_wp2_with fail
          go_round
          case rel => exact ⟨A, D - A, rfl, by rw [HS.out], hO1.out, by omega, by omega, hG3⟩
          case measure => simp [intOf] <;> omega
end Go.Proofs.YtkhchaoehlefdaaDoor
