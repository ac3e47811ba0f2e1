/- Layer 4: contracts: hexadecimal forms. -/
import Derived.Test.YtidpjgkjeocgaaaGreatDoorCaC
import Derived.Lib.AppendIntMem
import Derived.Lib.ItoaLen
set_option linter.unusedVariables false
set_option linter.unusedSimpArgs false
namespace Go.Proofs.YtidpjgkjeocgaaaGreatDoor
open Go.RowKit Go.Shelf

theorem rep_any (c : Nat) (w : World) (hc : c ≤ 16) :
    Calls Tryz.prog 45 #[.string ⟨#[48]⟩, .int .i64 c] w fun e w' => e = .returned (.string ⟨(List.replicate c 48).toArray⟩) ∧ Below w.heap.size w w' := by
  have h := Any.strings_Repeat lays105 lays105_extra ⟨#[48]⟩ c w (by omega) (by show 1 * c ≤ _; omega)
  rw [show lays105_ren.f 105 = 45 by kernel_rfl] at h
  refine h.mono fun e w' ⟨he, hw⟩ => ⟨?_, hw⟩
  rw [he]
  have e := Lib.repeatL_replicate 48 1 c
  have e2 : Lib.repeatL (ByteArray.mk #[48]).data.toList c = List.replicate c 48 := by simpa using e
  rw [e2]

theorem cat_size (a b : ByteArray) : (a ++ b).data.toList = a.data.toList ++ b.data.toList := by rw [ByteArray.data_append]; simp
theorem Tz16.below {w w' : World} (h : Tz16 w) (hB : Below w.heap.size w w') : Tz16 w' := bc hB h

set_option maxHeartbeats 400000 in
theorem Hex_any (n : Nat) (w : World) (hn : n < 18446744073709551616) (ht : Tz16 w) :
    Calls Tryz.prog 22 #[.int .u64 n] w fun e w' => e = .returned (.string ⟨(hexL n).toArray⟩) ∧ Below w.heap.size w w' := by
  have HT := Lib.hid ht
  clear ht
  go_enter Tryz.func22, Tryz.ntmps22
  go_wp2_with fail
  refine (FormatUint_16 n _ hn HT.out).mono ?_
  rintro e w1 ⟨⟨m, hm, hl, rfl⟩, hB⟩
  have HB := Lib.hid hB
  have HL := Lib.hid hl
  clear hB hl
  obtain ⟨s, hs⟩ : ∃ s : ByteArray, s = ⟨(hexB m n).toArray⟩ := ⟨_, rfl⟩
  have hz : s.size = m := by rw [hs]; show (hexB m n).toArray.size = m; simp [hexB_len]
  have HS := Lib.hid hs
  rw [← hs]
  clear hs
  obtain ⟨c, hc⟩ : ∃ c : Nat, c = 16 - m := ⟨_, rfl⟩
  have hc2 : (16 : Int) - (s.size : Int) = (c : Int) := by omega
  have hz16 : s.size ≤ 16 := by omega
  have HZ := Lib.hid hz
  have HC := Lib.hid hc
  clear hz hc
  go_wp2_with fail
  try rw [hc2]
  refine (rep_any c _ (by have := HC.out; omega)).mono ?_
  rintro e w2 ⟨rfl, hB2⟩
  have HB2 := Lib.hid hB2
  clear hB2
  go_wp2_with fail
  go_ret
  refine ⟨ret_str ?_, Below.up HB.out HB2.out⟩
  apply ByteArray.ext
  apply Array.toList_inj.1
  rw [cat_size, HS.out, HC.out]
  exact hexL_of m n hm HL.out

end Go.Proofs.YtidpjgkjeocgaaaGreatDoor
