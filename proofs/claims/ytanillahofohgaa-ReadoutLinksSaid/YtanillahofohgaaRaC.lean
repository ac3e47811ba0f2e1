/- Layer 5: the check of a string. -/
import Derived.Laws.Bits64
import Derived.Laws.BitsAllLaws
import Derived.Test.YtanillahofohgaaRaB
set_option linter.unusedVariables false
set_option linter.unusedSimpArgs false
namespace Go.Proofs.Ytanillahofohgaa
open Go.RowKit

theorem bits_xor_u16_nat (a b : Nat) (ha : a < 65536) (hb : b < 65536) : bits .xor .u16 (a : Int) (b : Int) = ((a ^^^ b : Nat) : Int) := by
  have hx : a ^^^ b < 2 ^ 16 := Nat.xor_lt_two_pow (by omega) (by omega)
  have h1 : (BitVec.ofInt 16 (a : Int)).toNat = a := by
    rw [BitVec.ofInt_natCast, BitVec.toNat_ofNat]; exact Nat.mod_eq_of_lt (by omega)
  have h2 : (BitVec.ofInt 16 (b : Int)).toNat = b := by
    rw [BitVec.ofInt_natCast, BitVec.toNat_ofNat]; exact Nat.mod_eq_of_lt (by omega)
  show IntKind.u16.wrap ((BitVec.ofInt 16 (a : Int) ^^^ BitVec.ofInt 16 (b : Int)).toNat : Int) = _
  rw [BitVec.toNat_xor, h1, h2, IntWalk.u16_in]
  omega
theorem bits_xor_u8_nat (a b : Nat) (ha : a < 256) (hb : b < 256) : bits .xor .u8 (a : Int) (b : Int) = ((a ^^^ b : Nat) : Int) := by
  have hx : a ^^^ b < 2 ^ 8 := Nat.xor_lt_two_pow (by omega) (by omega)
  have h1 : (BitVec.ofInt 8 (a : Int)).toNat = a := by
    rw [BitVec.ofInt_natCast, BitVec.toNat_ofNat]; exact Nat.mod_eq_of_lt (by omega)
  have h2 : (BitVec.ofInt 8 (b : Int)).toNat = b := by
    rw [BitVec.ofInt_natCast, BitVec.toNat_ofNat]; exact Nat.mod_eq_of_lt (by omega)
  show IntKind.u8.wrap ((BitVec.ofInt 8 (a : Int) ^^^ BitVec.ofInt 8 (b : Int)).toNat : Int) = _
  rw [BitVec.toNat_xor, h1, h2, IntWalk.u8_in]
  omega
theorem bits_xor_i64_nat (a b : Nat) (ha : a < 9223372036854775808) (hb : b < 9223372036854775808) : bits .xor .i64 (a : Int) (b : Int) = ((a ^^^ b : Nat) : Int) := by
  have hx : a ^^^ b < 2 ^ 63 := Nat.xor_lt_two_pow (by omega) (by omega)
  have h1 : (BitVec.ofInt 64 (a : Int)).toNat = a := by
    rw [BitVec.ofInt_natCast, BitVec.toNat_ofNat]; exact Nat.mod_eq_of_lt (by omega)
  have h2 : (BitVec.ofInt 64 (b : Int)).toNat = b := by
    rw [BitVec.ofInt_natCast, BitVec.toNat_ofNat]; exact Nat.mod_eq_of_lt (by omega)
  show IntKind.i64.wrap ((BitVec.ofInt 64 (a : Int) ^^^ BitVec.ofInt 64 (b : Int)).toNat : Int) = _
  rw [BitVec.toNat_xor, h1, h2, IntWalk.i64_in]
  omega

/-! ### The numbers -/
/-- One bit further. -/
def cS (n : Nat) : Nat := if 32768 ≤ n then 2 * n % 65536 ^^^ 4129 else 2 * n % 65536
/-- So many bits further. -/
def cI : Nat → Nat → Nat
  | 0, m => m
  | j + 1, m => cS (cI j m)
theorem xor16 {a b : Nat} (ha : a < 65536) (hb : b < 65536) : a ^^^ b < 65536 := Nat.xor_lt_two_pow (n := 16) ha hb
theorem cS_lt (n : Nat) : cS n < 65536 := by
  unfold cS
  split
  · exact xor16 (Nat.mod_lt _ (by decide)) (by decide)
  · exact Nat.mod_lt _ (by decide)
theorem cI_lt {m : Nat} (h : m < 65536) : ∀ j, cI j m < 65536
  | 0 => h
  | j + 1 => cS_lt _
theorem xor_double (a b : Nat) : 2 * (a ^^^ b) % 65536 = 2 * a % 65536 ^^^ 2 * b % 65536 := by
  have h := Nat.shiftLeft_xor_distrib (a := a) (b := b) (i := 1)
  simp only [Nat.shiftLeft_eq, Nat.pow_one] at h
  rw [Nat.mul_comm 2, h, Nat.mul_comm 2, Nat.mul_comm 2, show (65536 : Nat) = 2 ^ 16 from rfl, Nat.xor_mod_two_pow]
theorem xor_top (a b : Nat) : (a ^^^ b) / 32768 = a / 32768 ^^^ b / 32768 := by
  have h := Nat.shiftRight_xor_distrib (a := a) (b := b) (i := 15)
  simpa only [Nat.shiftRight_eq_div_pow] using h
theorem top01 {a : Nat} (h : a < 65536) : a / 32768 = 0 ∨ a / 32768 = 1 := by omega
/-- The document's step: a bit of the byte is held against the highest one. -/
def rS (n b : Nat) : Nat := if n / 32768 = b / 128 then 2 * n % 65536 else 2 * n % 65536 ^^^ 4129
theorem rS_lt (n b : Nat) : rS n b < 65536 := by
  unfold rS
  split
  · exact Nat.mod_lt _ (by decide)
  · exact xor16 (Nat.mod_lt _ (by decide)) (by decide)
theorem rS_cS {n b : Nat} (hn : n < 65536) (hb : b < 256) : rS n b ^^^ (2 * b % 256) * 256 = cS (n ^^^ b * 256) := by
  have hm : n ^^^ b * 256 < 65536 := xor16 hn (by omega)
  have e1 := xor_double n (b * 256)
  have e2 : 2 * (b * 256) % 65536 = 2 * b % 256 * 256 := by omega
  have e3 := xor_top n (b * 256)
  have e4 : b * 256 / 32768 = b / 128 := by omega
  rw [e2] at e1
  rw [e4] at e3
  unfold rS cS
  rw [e1]
  have t1 := top01 hn
  have t2 : b / 128 = 0 ∨ b / 128 = 1 := by omega
  by_cases h : n / 32768 = b / 128
  · have e5 : n / 32768 ^^^ b / 128 = 0 := by rw [h, Nat.xor_self]
    rw [if_pos h, if_neg (by omega)]
  · have e5 : n / 32768 ^^^ b / 128 = 1 := by
      rcases t1 with a | a <;> rcases t2 with c | c <;> rw [a, c] at h ⊢ <;> first | rfl | exact absurd rfl h
    rw [if_neg h, if_pos (by omega)]
    simp only [Nat.xor_assoc, Nat.xor_comm 4129]
/-- One byte further. -/
def cB (n b : Nat) : Nat := cI 8 (n ^^^ b * 256)
theorem cB_lt {n b : Nat} (hn : n < 65536) (hb : b < 256) : cB n b < 65536 := cI_lt (xor16 hn (by omega)) 8
theorem cB_def (n b : Nat) : cB n b = cI 8 (n ^^^ b * 256) := rfl
attribute [irreducible] cB
/-- The check of a list of bytes, begun with n. -/
def crcL (n : Nat) (l : List UInt8) : Nat := l.foldl (fun n b => cB n b.toNat) n
theorem byte_lt (b : UInt8) : b.toNat < 256 := b.toNat_lt
theorem crcL_nil (n : Nat) : crcL n [] = n := rfl
theorem crcL_cons (n : Nat) (b : UInt8) (l : List UInt8) : crcL n (b :: l) = crcL (cB n b.toNat) l := rfl
theorem crcL_append (n : Nat) (l r : List UInt8) : crcL n (l ++ r) = crcL (crcL n l) r := List.foldl_append
theorem crcL_lt {n : Nat} (hn : n < 65536) : ∀ (l : List UInt8), crcL n l < 65536 := by
  intro l
  induction l generalizing n with
  | nil => exact hn
  | cons b l ih => rw [crcL_cons]; exact ih (cB_lt hn (byte_lt _))
theorem crcL_take (n : Nat) (s : ByteArray) (k : Nat) (h : k < s.size) : crcL n (s.data.toList.take (k + 1)) = cB (crcL n (s.data.toList.take k)) s[k].toNat := by
  have e : s.data.toList.take (k + 1) = s.data.toList.take k ++ [s[k]] := by
    rw [List.take_succ_eq_append_getElem (by simpa using h)]; rfl
  rw [e, crcL_append]
  rfl
def crc0 (l : List UInt8) : Nat := crcL 65535 l
theorem crc0_take (s : ByteArray) (k : Nat) (h : k < s.size) : crc0 (s.data.toList.take (k + 1)) = cI 8 (crc0 (s.data.toList.take k) ^^^ s[k].toNat * 256) := (crcL_take 65535 s k h).trans (cB_def _ _)
theorem crc0_lt (l : List UInt8) : crc0 l < 65536 := crcL_lt (by decide) l

theorem code_in (n b : Nat) (hn : n < 65536) (hb : b < 256) : bits .xor .u16 (n : Int) ((b : Int) * 256) = ((n ^^^ b * 256 : Nat) : Int) := by
  rw [show (b : Int) * 256 = ((b * 256 : Nat) : Int) by omega, bits_xor_u16_nat _ _ hn (by omega)]
theorem code_low (n : Nat) (h : n < 32768) : cS n = 2 * n := by
  unfold cS
  rw [if_neg (by omega)]
  omega
theorem code_high (n : Nat) (h : 32768 ≤ n) (h2 : n < 65536) : bits .xor .u16 (IntKind.u16.wrap ((n : Int) * 2)) 4129 = ((cS n : Nat) : Int) := by
  unfold cS
  rw [if_pos h, show IntKind.u16.wrap ((n : Int) * 2) = ((2 * n % 65536 : Nat) : Int) by rw [IntKind.wrap_u16]; omega]
  exact bits_xor_u16_nat (2 * n % 65536) 4129 (Nat.mod_lt _ (by decide)) (by decide)

set_option maxRecDepth 100000 in
set_option maxHeartbeats 800000 in
theorem Crc_any (s : ByteArray) (w : World) (hs : s.size ≤ maxLen) :
    Calls Try.prog 25 #[.string s] w fun e w' => e = .returned (.int .i64 (crc0 s.data.toList : Nat)) ∧ w = w' := by
  unfold maxLen at hs
  go_enter Try.func25, Try.ntmps25
  go_wp2_with fail
  go_loop [3, 4, 5, 8] (fun n _ _ i => ∃ k : Nat, k ≤ s.size ∧ i = .int .i64 k ∧ n = .int .u16 (crc0 (s.data.toList.take k) : Nat)) (fun _ _ _ i => s.size - (intOf i).toNat)
  case atStart => exact ⟨0, Nat.zero_le _, rfl, rfl⟩
  case round =>
    obtain ⟨k, hk, rfl, rfl⟩ := hrel
    have hl := crc0_lt (s.data.toList.take k)
    by_cases hlt : k < s.size
    · have HS := Lib.hid (crc0_take s k hlt)
      have hb := byte_lt s[k]
      have HC := Lib.hid (code_in (crc0 (s.data.toList.take k)) s[k].toNat hl hb)
      have hm := xor16 hl (show s[k].toNat * 256 < 65536 by omega)
      generalize crc0 (s.data.toList.take k) = n at *
      go_wp2_with fail
      rw [HC.out]
      clear HC
      generalize s[k].toNat = y at *
      generalize n ^^^ y * 256 = m at *
      go_loop [3, 5, 18] (fun n _ i => ∃ j : Nat, j ≤ 8 ∧ i = .int .i64 j ∧ n = .int .u16 (cI j m : Nat)) (fun _ _ i => 8 - (intOf i).toNat)
      case atStart => exact ⟨0, by omega, rfl, rfl⟩
      case round =>
        obtain ⟨j, hj, rfl, rfl⟩ := hrel
        have hc := cI_lt hm j
        by_cases hlt8 : j < 8
        · have HJ : Hid (cI (j + 1) m = cS (cI j m)) := Lib.hid rfl
          generalize cI j m = c at *
          by_cases hi : 32768 ≤ c
          · have hh := Lib.hid (code_high c hi hc)
            have hi2 : (32768 : Int) ≤ (c : Int) := by omega
            clear hi
            go_wp2_with fail
            go_round
            case rel => exact ⟨j + 1, by omega, by go_num, by rw [HJ.out, hh.out]⟩
            case measure => simp [intOf]; omega
          · have hlo := Lib.hid (code_low c (by omega))
            obtain ⟨ci, hci⟩ : ∃ ci : Int, ci = (c : Int) := ⟨_, rfl⟩
            have hi2 : ci < 32768 := by omega
            have hi3 : 0 ≤ ci := by omega
            rw [← hci]
            have HCI := Lib.hid hci
            clear hi hc hci
            go_wp2_with fail
            go_round
            case rel => exact ⟨j + 1, by omega, by go_num, by rw [HJ.out, hlo.out, HCI.out]; congr 1; omega⟩
            case measure => simp [intOf]; omega
        · obtain rfl : j = 8 := by omega
          go_wp2_with fail
          go_round
          case rel => exact ⟨k + 1, by omega, by go_num, by rw [HS.out]⟩
          case measure => simp [intOf]; omega
    · go_wp2_with fail
      go_ret
      exact ⟨ret_int (by rw [List.take_of_length_le (by simp; omega)]), rfl⟩

theorem i64_xor (n : Nat) (h : n < 65536) : bits .xor .i64 (n : Int) 4129 = ((n ^^^ 4129 : Nat) : Int) := by
  have := bits_xor_i64_nat n 4129 (by omega) (by decide)
  simpa using this
set_option maxRecDepth 100000 in
set_option maxHeartbeats 800000 in
theorem refCrc_any (s : ByteArray) (w : World) (hs : s.size ≤ maxLen) :
    Calls Try.prog 26 #[.string s] w fun e w' => e = .returned (.int .i64 (crc0 s.data.toList : Nat)) ∧ w = w' := by
  unfold maxLen at hs
  go_enter Try.func26, Try.ntmps26
  go_wp2_with fail
  go_loop [3, 4, 5, 6, 7] (fun n i _ _ _ => ∃ k : Nat, k ≤ s.size ∧ i = .int .i64 k ∧ n = .int .i64 (crc0 (s.data.toList.take k) : Nat)) (fun _ i _ _ _ => s.size - (intOf i).toNat)
  case atStart => exact ⟨0, Nat.zero_le _, rfl, rfl⟩
  case round =>
    obtain ⟨k, hk, rfl, rfl⟩ := hrel
    have hl := crc0_lt (s.data.toList.take k)
    by_cases hlt : k < s.size
    · have HS := Lib.hid (crc0_take s k hlt)
      have hb := byte_lt s[k]
      have hm := xor16 hl (show s[k].toNat * 256 < 65536 by omega)
      generalize crc0 (s.data.toList.take k) = n at *
      go_wp2_with fail
      generalize s[k].toNat = y at *
      obtain ⟨m, hmd⟩ : ∃ m, m = n ^^^ y * 256 := ⟨_, rfl⟩
      rw [← hmd] at hm HS
      go_loop [3, 5, 6, 7] (fun c z i _ => ∃ (j x t : Nat), j ≤ 8 ∧ i = .int .i64 j ∧ c = .int .i64 (x : Nat) ∧ z = .int .i64 (t : Nat) ∧ x < 65536 ∧ t < 256 ∧ Hid (x ^^^ t * 256 = cI j m ∧ t = y * 2 ^ j % 256)) (fun _ _ i _ => 8 - (intOf i).toNat)
      case atStart => exact ⟨0, n, y, by omega, rfl, rfl, rfl, hl, hb, Lib.hid ⟨hmd.symm, by omega⟩⟩
      case round =>
        obtain ⟨j, x, t, hj, rfl, rfl, rfl, hx, ht, HR⟩ := hrel
        by_cases hlt8 : j < 8
        · have q1 : Int.tdiv (x : Int) 32768 = ((x / 32768 : Nat) : Int) := by rw [Int.tdiv_eq_ediv_of_nonneg (by omega)]; omega
          have q2 : Int.tdiv (t : Int) 128 = ((t / 128 : Nat) : Int) := by rw [Int.tdiv_eq_ediv_of_nonneg (by omega)]; omega
          have q3 : Int.tmod ((x : Int) * 2) 65536 = ((2 * x % 65536 : Nat) : Int) := by rw [Int.tmod_eq_emod_of_nonneg (by omega)]; omega
          have q4 : Int.tmod ((t : Int) * 2) 256 = ((2 * t % 256 : Nat) : Int) := by rw [Int.tmod_eq_emod_of_nonneg (by omega)]; omega
          have hxt : x / 32768 ≤ 1 := by omega
          have htt : t / 128 ≤ 1 := by omega
          have hx2 : 2 * x % 65536 < 65536 := Nat.mod_lt _ (by decide)
          have ht2 : 2 * t % 256 < 256 := Nat.mod_lt _ (by decide)
          have hr := rS_cS hx ht
          have XR := Lib.hid (i64_xor _ hx2)
          have XL := Lib.hid (rS_lt x t)
          unfold rS at hr XL
          by_cases hi : x / 32768 = t / 128
          · rw [if_pos hi] at hr XL
            have h7 : (((x / 32768 : Nat) : Int) != ((t / 128 : Nat) : Int)) = false := by simp [hi]
            have HN : Hid (2 * x % 65536 ^^^ (2 * t % 256) * 256 = cI (j + 1) m ∧ 2 * t % 256 = y * 2 ^ (j + 1) % 256) := Lib.hid ⟨by rw [hr, HR.out.1]; rfl, by rw [HR.out.2, Nat.pow_succ, ← Nat.mul_assoc]; omega⟩
            clear hr hi
            generalize x / 32768 = xt at *
            generalize t / 128 = tt at *
            generalize 2 * x % 65536 = x2 at *
            generalize 2 * t % 256 = t2 at *
            go_wp2_with fail
            go_round
            case rel => exact ⟨j + 1, x2, t2, by omega, by go_num, rfl, rfl, XL.out, ht2, HN⟩
            case measure => simp [intOf]; omega
          · rw [if_neg hi] at hr XL
            have h7 : (((x / 32768 : Nat) : Int) != ((t / 128 : Nat) : Int)) = true := by simp; omega
            have HN : Hid ((2 * x % 65536 ^^^ 4129) ^^^ (2 * t % 256) * 256 = cI (j + 1) m ∧ 2 * t % 256 = y * 2 ^ (j + 1) % 256) := Lib.hid ⟨by rw [hr, HR.out.1]; rfl, by rw [HR.out.2, Nat.pow_succ, ← Nat.mul_assoc]; omega⟩
            clear hr hi
            generalize x / 32768 = xt at *
            generalize t / 128 = tt at *
            generalize 2 * x % 65536 = x2 at *
            generalize 2 * t % 256 = t2 at *
            go_wp2_with fail
            go_round
            case rel => exact ⟨j + 1, x2 ^^^ 4129, t2, by omega, by go_num, by rw [XR.out], rfl, XL.out, ht2, HN⟩
            case measure => simp [intOf]; omega
        · obtain rfl : j = 8 := by omega
          obtain ⟨e1, e2⟩ := HR.out
          obtain rfl : t = 0 := by omega
          rw [Nat.zero_mul, Nat.xor_zero] at e1
          have HX := Lib.hid e1
          clear e1 e2 HR
          go_wp2_with fail
          go_round
          case rel => exact ⟨k + 1, by omega, by go_num, by rw [HS.out, HX.out]⟩
          case measure => simp [intOf]; omega
    · go_wp2_with fail
      go_ret
      exact ⟨ret_int (by rw [List.take_of_length_le (by simp; omega)]), rfl⟩
end Go.Proofs.Ytanillahofohgaa
