/- Layer 5: the document's bytes. -/
import Derived.Test.YtanillahofohgaaRbA
set_option linter.unusedVariables false
set_option linter.unusedSimpArgs false
set_option maxRecDepth 100000
namespace Go.Proofs.Ytanillahofohgaa
open Go.RowKit

theorem str_append (a b : List UInt8) : str a ++ str b = str (a ++ b) := by
  apply ByteArray.ext
  apply Array.ext'
  rw [cat_size, str_list, str_list, str_list]
theorem add_two (a b : List UInt8) (h : a.length + b.length ≤ 1000000000) : ∀ W : World, (Op.stringOp .add (str a) (str b)).run Try.prog W = .ok (.string (str (a ++ b))) W :=
  add_str _ _ _ (str_append a b).symm (by rw [str_size, List.length_append]; omega)
/-- One byte, as a string. -/
theorem one_string (w : World) (x : UInt8) : (convert 51 9 (.slice (some ⟨w.heap.size, 0, none⟩) 1 1)).run Try.prog (w.alloc (.cells #[.int .u8 (x.toNat : Nat)] 5)) = .ok (.string (str [x])) (w.alloc (.cells #[.int .u8 (x.toNat : Nat)] 5)) := by
  have h := run_convert_bytes_back (P := Try.prog) (w.alloc (.cells #[.int .u8 (x.toNat : Nat)] 5)) 51 9 5 ⟨w.heap.size, 0, none⟩ 1 [x] u8_slice (by kernel_rfl) str_kind (fun j hj => by
    have : j = 0 := by simpa using hj
    subst this
    exact new_one _ _ _)
  unfold str
  exact h
set_option maxHeartbeats 1600000 in
theorem number_any (n many : Nat) (w : World) (hn : n < 9223372036854775808) (hm : many ≤ 8) :
    Calls Try.prog 46 #[.int .i64 (n : Nat), .int .i64 (many : Nat)] w fun e w' => e = .returned (.string (str (beL n many))) ∧ Below w.heap.size w w' := by
  have h0 : Hid (str (beL n 0) = ⟨#[]⟩) := Lib.hid (by unfold beL str; rfl)
  go_enter Try.func46, Try.ntmps46
  go_wp2_with fail
  rw [← h0.out]
  go_loopw [0, 5, 6] (fun q s i wr => ∃ k : Nat, k ≤ many ∧ i = .int .i64 k ∧ q = .int .i64 ((n / 256 ^ k : Nat) : Int) ∧ s = .string (str (beL n k)) ∧ Hid (Below w.heap.size w wr)) (fun _ _ i _ => many - (intOf i).toNat)
  case atStart => exact ⟨0, Nat.zero_le _, rfl, by simp, rfl, Lib.hid (Below.refl _ _)⟩
  case round =>
    obtain ⟨k, hk, rfl, rfl, rfl, BL⟩ := hrel
    by_cases hlt : k < many
    · have HB := Lib.hid (beL_succ n k)
      have hq : Hid (n / 256 ^ k / 256 = n / 256 ^ (k + 1)) := Lib.hid (by rw [Nat.div_div_eq_div_mul, Nat.pow_succ])
      have hq2 : n / 256 ^ k < 9223372036854775808 := Nat.lt_of_le_of_lt (Nat.div_le_self _ _) hn
      generalize n / 256 ^ k = z at *
      have WX : Hid ((z : Int) % 256 = ((UInt8.ofNat (z % 256)).toNat : Int)) := Lib.hid (by simp)
      have hl := beL_len n k
      have AD := add_two [UInt8.ofNat (z % 256)] (beL n k) (by rw [hl]; simp; omega)
      have CS := one_string wr (UInt8.ofNat (z % 256))
      have BL2 : Hid (Below w.heap.size w (wr.alloc (.cells #[.int .u8 ((UInt8.ofNat (z % 256)).toNat : Nat)] 5))) := Lib.hid (Below.up BL.out ((Below.refl _ _).alloc (Nat.le_refl _) _))
      generalize UInt8.ofNat (z % 256) = x at *
      go_wp2_with fail
      rw [WX.out, CS]
      go_wp2_with fail
      go_roundw
      case rel => exact ⟨k + 1, by omega, by go_num, by rw [← hq.out]; go_num, by rw [HB.out], BL2⟩
      case measure => simp [intOf]; omega
    · obtain rfl : k = many := by omega
      go_wp2_with fail
      go_ret
      exact ⟨rfl, BL.out⟩
end Go.Proofs.Ytanillahofohgaa
