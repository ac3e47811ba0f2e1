/- Layer 4: digests. -/
import Derived.Laws.Bits64
import Derived.Laws.BitsAllLaws
import Derived.Test.YtlegacllbohbmaaDoorCaO
set_option linter.unusedVariables false
set_option linter.unusedSimpArgs false
namespace Go.Proofs.YtlegacllbohbmaaDoor
open Go.RowKit

/-! ### The numbers -/
def dgF : Nat := 1099511628211
def dgG : Nat := 14886173955864302971
def dgStep (n b : Nat) : Nat := (n ^^^ b) * 1099511628211 % 18446744073709551616
theorem dg_back (x : Nat) (h : x < 18446744073709551616) : x * 1099511628211 % 18446744073709551616 * 14886173955864302971 % 18446744073709551616 = x := by
  rw [Nat.mod_mul_mod, Nat.mul_assoc]
  have e : 1099511628211 * 14886173955864302971 = 18446744073709551616 * 887285111055 + 1 := by decide
  rw [e, Nat.mul_add, Nat.mul_one, Nat.mul_left_comm, Nat.mul_add_mod]
  exact Nat.mod_eq_of_lt h
theorem dgStep_lt (n b : Nat) : dgStep n b < 18446744073709551616 := Nat.mod_lt _ (by decide)
theorem xor_lt {n b : Nat} (hn : n < 18446744073709551616) (hb : b < 256) : n ^^^ b < 18446744073709551616 := Nat.xor_lt_two_pow (n := 64) (by omega) (by omega)
theorem dgStep_inj {n m b c : Nat} (hn : n < 18446744073709551616) (hm : m < 18446744073709551616) (hb : b < 256) (hc : c < 256) (h : dgStep n b = dgStep m c) : n ^^^ b = m ^^^ c := by
  have h1 := dg_back _ (xor_lt hn hb)
  have h2 := dg_back _ (xor_lt hm hc)
  unfold dgStep at h
  rw [h] at h1
  exact h1.symm.trans h2
theorem xor_back (n b : Nat) : n ^^^ b ^^^ b = n := by rw [Nat.xor_assoc, Nat.xor_self, Nat.xor_zero]
theorem xor_back' (n b : Nat) : n ^^^ (n ^^^ b) = b := by rw [← Nat.xor_assoc, Nat.xor_self, Nat.zero_xor]
attribute [irreducible] dgStep
def dgL (n : Nat) (l : List UInt8) : Nat := l.foldl (fun n b => dgStep n b.toNat) n
theorem dgL_nil (n : Nat) : dgL n [] = n := rfl
theorem dgL_cons (n : Nat) (b : UInt8) (l : List UInt8) : dgL n (b :: l) = dgL (dgStep n b.toNat) l := rfl
theorem dgL_append (n : Nat) (l r : List UInt8) : dgL n (l ++ r) = dgL (dgL n l) r := List.foldl_append
theorem dgL_snoc (n : Nat) (l : List UInt8) (b : UInt8) : dgL n (l ++ [b]) = dgStep (dgL n l) b.toNat := by rw [dgL_append, dgL_cons, dgL_nil]
theorem dgL_lt {n : Nat} (hn : n < 18446744073709551616) : ∀ (l : List UInt8), dgL n l < 18446744073709551616 := by
  intro l
  induction l generalizing n with
  | nil => exact hn
  | cons b l ih => rw [dgL_cons]; exact ih (dgStep_lt _ _)
theorem byte_lt (b : UInt8) : b.toNat < 256 := b.toNat_lt
theorem dgL_inj {n m : Nat} (hn : n < 18446744073709551616) (hm : m < 18446744073709551616) (l : List UInt8) (h : dgL n l = dgL m l) : n = m := by
  induction l generalizing n m with
  | nil => exact h
  | cons b l ih =>
    rw [dgL_cons, dgL_cons] at h
    have h1 := dgStep_inj hn hm (byte_lt b) (byte_lt b) (ih (dgStep_lt _ _) (dgStep_lt _ _) h)
    rw [← xor_back n b.toNat, h1, xor_back]
theorem dg_differ {n : Nat} (hn : n < 18446744073709551616) (l r : List UInt8) {b c : UInt8} (h : b ≠ c) : dgL n (l ++ b :: r) ≠ dgL n (l ++ c :: r) := by
  intro e
  rw [dgL_append, dgL_append, dgL_cons, dgL_cons] at e
  have h0 := dgL_lt hn l
  have h1 := dgStep_inj h0 h0 (byte_lt b) (byte_lt c) (dgL_inj (dgStep_lt _ _) (dgStep_lt _ _) r e)
  exact h (UInt8.toNat_inj.1 (by rw [← xor_back' (dgL n l) b.toNat, h1, xor_back']))
/-- the document's product by shifts -/
theorem dg_shifts (x : Nat) : ((x * 1099511627776 % 18446744073709551616 + x * 256 % 18446744073709551616) % 18446744073709551616 + 179 * x % 18446744073709551616) % 18446744073709551616 = x * 1099511628211 % 18446744073709551616 := by omega

def dg0 : Nat := 14695981039346656037
theorem dg0_lt : dg0 < 18446744073709551616 := by decide
theorem dgL0_lt (l : List UInt8) : dgL dg0 l < 18446744073709551616 := dgL_lt dg0_lt l
theorem dgL_take (n : Nat) (s : ByteArray) (k : Nat) (h : k < s.size) : dgL n (s.data.toList.take (k + 1)) = dgStep (dgL n (s.data.toList.take k)) s[k].toNat := by
  have e : s.data.toList.take (k + 1) = s.data.toList.take k ++ [s[k]] := by
    rw [List.take_succ_eq_append_getElem (by simpa using h)]; rfl
  rw [e, dgL_snoc]
theorem ret_u64 {k : IntKind} {a b : Int} (h : a = b) : Ending.returned (.int k a) = .returned (.int k b) := by rw [h]

theorem step_code (n b : Nat) (hn : n < 18446744073709551616) (hb : b < 256) : IntKind.u64.wrap (bits .xor .u64 (n : Int) (IntKind.u64.wrap (b : Int)) * 1099511628211) = (dgStep n b : Int) := by
  rw [show IntKind.u64.wrap (b : Int) = (b : Int) from IntWalk.u64_in _ (by omega), bits_xor_u64_nat _ _ hn (by omega), IntKind.wrap_u64]
  unfold dgStep
  omega

set_option maxRecDepth 20000 in
set_option maxHeartbeats 400000 in
theorem Digest_any (s : ByteArray) (w : World) (hs : s.size ≤ maxLen) :
    Calls Tryd.prog 5 #[.string s] w fun e w' => e = .returned (.int .u64 (dgL dg0 s.data.toList : Nat)) ∧ w = w' := by
  unfold maxLen at hs
  go_enter Tryd.func5, Tryd.ntmps5
  go_wp2_with fail
  go_loop [3, 7] (fun n i => ∃ k : Nat, k ≤ s.size ∧ i = .int .i64 k ∧ n = .int .u64 (dgL dg0 (s.data.toList.take k) : Nat)) (fun _ i => s.size - (intOf i).toNat)
  case atStart => exact ⟨0, Nat.zero_le _, rfl, rfl⟩
  case round =>
    obtain ⟨k, hk, rfl, rfl⟩ := hrel
    have hl := dgL0_lt (s.data.toList.take k)
    by_cases hlt : k < s.size
    · have HS := Lib.hid (dgL_take dg0 s k hlt)
      have HC := Lib.hid (step_code _ s[k].toNat hl (byte_lt _))
      generalize dgL dg0 (s.data.toList.take k) = n at *
      go_wp2_with fail
      go_round
      case rel => exact ⟨k + 1, by omega, by go_num, by rw [HS.out, ← HC.out]⟩
      case measure => simp [intOf]; omega
    · go_wp2_with fail
      go_ret
      exact ⟨ret_u64 (by rw [List.take_of_length_le (by simp; omega)]), rfl⟩

theorem step_ref (n b : Nat) (hn : n < 18446744073709551616) (hb : b < 256) : IntKind.u64.wrap (IntKind.u64.wrap (IntKind.u64.wrap (bits .xor .u64 (n : Int) (IntKind.u64.wrap (b : Int)) * 1099511627776) + IntKind.u64.wrap (bits .xor .u64 (n : Int) (IntKind.u64.wrap (b : Int)) * 256)) + IntKind.u64.wrap (179 * bits .xor .u64 (n : Int) (IntKind.u64.wrap (b : Int)))) = (dgStep n b : Int) := by
  rw [show IntKind.u64.wrap (b : Int) = (b : Int) from IntWalk.u64_in _ (by omega), bits_xor_u64_nat _ _ hn (by omega), IntKind.wrap_u64, IntKind.wrap_u64, IntKind.wrap_u64, IntKind.wrap_u64, IntKind.wrap_u64]
  unfold dgStep
  omega

set_option maxRecDepth 20000 in
set_option maxHeartbeats 400000 in
theorem refDigest_any (s : ByteArray) (w : World) (hs : s.size ≤ maxLen) :
    Calls Tryd.prog 6 #[.string s] w fun e w' => e = .returned (.int .u64 (dgL dg0 s.data.toList : Nat)) ∧ w = w' := by
  unfold maxLen at hs
  go_enter Tryd.func6, Tryd.ntmps6
  go_wp2_with fail
  go_loop [3, 4] (fun n i => ∃ k : Nat, k ≤ s.size ∧ i = .int .i64 k ∧ n = .int .u64 (dgL dg0 (s.data.toList.take k) : Nat)) (fun _ i => s.size - (intOf i).toNat)
  case atStart => exact ⟨0, Nat.zero_le _, rfl, rfl⟩
  case round =>
    obtain ⟨k, hk, rfl, rfl⟩ := hrel
    have hl := dgL0_lt (s.data.toList.take k)
    by_cases hlt : k < s.size
    · have HS := Lib.hid (dgL_take dg0 s k hlt)
      have HC := Lib.hid (step_ref _ s[k].toNat hl (byte_lt _))
      generalize dgL dg0 (s.data.toList.take k) = n at *
      go_wp2_with fail
      go_round
      case rel => exact ⟨k + 1, by omega, by go_num, by rw [HS.out, ← HC.out]⟩
      case measure => simp [intOf]; omega
    · go_wp2_with fail
      go_ret
      exact ⟨ret_u64 (by rw [List.take_of_length_le (by simp; omega)]), rfl⟩
end Go.Proofs.YtlegacllbohbmaaDoor
