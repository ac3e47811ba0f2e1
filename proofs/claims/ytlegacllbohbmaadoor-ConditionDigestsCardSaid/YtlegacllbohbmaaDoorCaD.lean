/- Layer 4: contracts: hexadecimal forms. -/
import Derived.Test.YtlegacllbohbmaaDoorCaC
import Derived.Lib.AppendIntMem
import Derived.Lib.ItoaLen
set_option linter.unusedVariables false
set_option linter.unusedSimpArgs false
namespace Go.Proofs.YtlegacllbohbmaaDoor
open Go.RowKit Go.Shelf

theorem rep_any (c : Nat) (w : World) (hc : c ≤ 16) :
    Calls Tryd.prog 17 #[.string ⟨#[48]⟩, .int .i64 c] w fun e w' => e = .returned (.string ⟨(List.replicate c 48).toArray⟩) ∧ Below w.heap.size w w' := by
  have h := Any.strings_Repeat lays105 lays105_extra ⟨#[48]⟩ c w (by omega) (by show 1 * c ≤ _; omega)
  rw [show lays105_ren.f 105 = 17 by kernel_rfl] at h
  refine h.mono fun e w' ⟨he, hw⟩ => ⟨?_, hw⟩
  rw [he]
  have e := Lib.repeatL_replicate 48 1 c
  have e2 : Lib.repeatL (ByteArray.mk #[48]).data.toList c = List.replicate c 48 := by simpa using e
  rw [e2]

theorem cat_size (a b : ByteArray) : (a ++ b).data.toList = a.data.toList ++ b.data.toList := by rw [ByteArray.data_append]; simp
theorem Tz16.below {w w' : World} (h : Tz16 w) (hB : Below w.heap.size w w') : Tz16 w' := bc hB h

set_option maxHeartbeats 400000 in
theorem Hex_any (n : Nat) (w : World) (hn : n < 18446744073709551616) (ht : Tz16 w) :
    Calls Tryd.prog 7 #[.int .u64 n] w fun e w' => e = .returned (.string ⟨(hexL n).toArray⟩) ∧ Below w.heap.size w w' := by
  have HT := Lib.hid ht
  clear ht
  go_enter Tryd.func7, Tryd.ntmps7
  go_wp2_with fail
  refine (FormatUint_16 n _ hn HT.out).mono ?_
  rintro e w1 ⟨⟨m, hm, hl, rfl⟩, hB⟩
  have HB := Lib.hid hB
  have HL := Lib.hid hl
  clear hB hl
  obtain ⟨s, hs⟩ : ∃ s : ByteArray, s = ⟨(hexB m n).toArray⟩ := ⟨_, rfl⟩
  have hz : s.size = m := by rw [hs]; show (hexB m n).toArray.size = m; simp [hexB_len]
  have HS := Lib.hid hs
  rw [← hs]
  clear hs
  obtain ⟨c, hc⟩ : ∃ c : Nat, c = 16 - m := ⟨_, rfl⟩
  have hc2 : (16 : Int) - (s.size : Int) = (c : Int) := by omega
  have hz16 : s.size ≤ 16 := by omega
  have HZ := Lib.hid hz
  have HC := Lib.hid hc
  clear hz hc
  go_wp2_with fail
  try rw [hc2]
  refine (rep_any c _ (by have := HC.out; omega)).mono ?_
  rintro e w2 ⟨rfl, hB2⟩
  have HB2 := Lib.hid hB2
  clear hB2
  go_wp2_with fail
  go_ret
  refine ⟨ret_str ?_, Below.up HB.out HB2.out⟩
  apply ByteArray.ext
  apply Array.toList_inj.1
  rw [cat_size, HS.out, HC.out]
  exact hexL_of m n hm HL.out

/-! ### The document's -/
theorem hexR (d : Nat) (hd : d < 16) (z : Int) (hz : z = (d : Int)) (h : z.toNat < ({ data := #[48, 49, 50, 51, 52, 53, 54, 55, 56, 57, 97, 98, 99, 100, 101, 102] } : ByteArray).size) : (({ data := #[48, 49, 50, 51, 52, 53, 54, 55, 56, 57, 97, 98, 99, 100, 101, 102] } : ByteArray)[z.toNat]'h).toNat = (hexD d).toNat := by
  subst hz
  have key : ∀ k : Fin 16, ({ data := #[48, 49, 50, 51, 52, 53, 54, 55, 56, 57, 97, 98, 99, 100, 101, 102] } : ByteArray).data[(k : Nat)]? = some (hexD k) := by decide
  have := key ⟨d, hd⟩
  obtain ⟨_, e⟩ := Array.getElem?_eq_some_iff.1 this
  rw [← e]
  rfl
theorem hexB_step (n j : Nat) : hexB (j + 1) n = hexD (n / 16 ^ j % 16) :: hexB j n := hexB_front j n

theorem one_string (c : UInt8) (W : World) : (convert 27 9 (.slice (some ⟨W.heap.size, 0, none⟩) 1 1)).run Tryd.prog (W.alloc (.cells #[.int .u8 (c.toNat : Nat)] 5)) = .ok (.string ⟨#[c]⟩) (W.alloc (.cells #[.int .u8 (c.toNat : Nat)] 5)) := by
  refine run_convert_bytes_back (W.alloc (.cells #[.int .u8 (c.toNat : Nat)] 5)) _ _ 5 ⟨W.heap.size, 0, none⟩ 1 [c] (by kernel_rfl) (by kernel_rfl) (by kernel_rfl) fun q hq => ?_
  have hq0 : q = 0 := by simpa using hq
  subst hq0
  simp [go_sem, Addr.add]
theorem cons_string (c : UInt8) (l : List UInt8) : (⟨#[c]⟩ : ByteArray) ++ ⟨l.toArray⟩ = ⟨(c :: l).toArray⟩ := by
  apply ByteArray.ext
  apply Array.toList_inj.1
  rw [cat_size]
  rfl

set_option maxRecDepth 20000 in
set_option maxHeartbeats 400000 in
theorem refHex_any (n : Nat) (w : World) (hn : n < 18446744073709551616) :
    Calls Tryd.prog 8 #[.int .u64 n] w fun e w' => e = .returned (.string ⟨(hexL n).toArray⟩) ∧ Below w.heap.size w w' := by
  go_enter Tryd.func8, Tryd.ntmps8
  go_wp2_with fail
  go_loopw [0, 3, 4] (fun u s i wr => ∃ j : Nat, j ≤ 16 ∧ u = .int .u64 (n / 16 ^ j : Nat) ∧ s = .string ⟨(hexB j n).toArray⟩ ∧ i = .int .i64 j ∧ Hid (Below w.heap.size w wr)) (fun _ _ i _ => 16 - (intOf i).toNat)
  case atStart => exact ⟨0, by omega, by simp, rfl, rfl, Lib.hid (Below.refl _ _)⟩
  case round =>
    obtain ⟨j, hj, rfl, rfl, rfl, HB⟩ := hrel
    by_cases hlt : j < 16
    · have hu : n / 16 ^ j < 18446744073709551616 := Nat.lt_of_le_of_lt (Nat.div_le_self _ _) hn
      have NX := Lib.hid (show n / 16 ^ (j + 1) = n / 16 ^ j / 16 by rw [Nat.pow_succ, Nat.div_div_eq_div_mul])
      have HX := Lib.hid (hexB_step n j)
      generalize n / 16 ^ j = u at *
      have hum : (u : Int) % 16 = ((u % 16 : Nat) : Int) := by omega
      have hr := hexR (u % 16) (Nat.mod_lt _ (by decide)) ((u : Int) % 16) hum
      have b0 : 0 ≤ (u : Int) % 16 := by omega
      have b1 : (u : Int) % 16 < 16 := by omega
      clear hum
      have hcv := one_string (hexD (u % 16)) wr
      obtain ⟨c, hc⟩ : ∃ c : ByteArray, c = ⟨#[hexD (u % 16)]⟩ := ⟨_, rfl⟩
      obtain ⟨s, hs⟩ : ∃ s : ByteArray, s = ⟨(hexB j n).toArray⟩ := ⟨_, rfl⟩
      have c1 : c.size ≤ 1 := by rw [hc]; exact Nat.le_refl _
      have s1 : s.size ≤ 16 := by rw [hs]; show (hexB j n).toArray.size ≤ 16; simp [hexB_len]; omega
      rw [← hc] at hcv
      rw [← hs]
      have HC := Lib.hid hc
      have HSS := Lib.hid hs
      clear hc hs
      go_wp2_with fail
      go_roundw
      case rel => exact ⟨j + 1, by omega, by rw [NX.out]; rfl, by rw [HX.out, HC.out, HSS.out]; exact congrArg Value.string (cons_string _ _), by go_num, Lib.hid (HB.out.alloc HB.out.size _)⟩
      case measure => simp [intOf]; omega
    · obtain rfl : j = 16 := by omega
      go_wp2_with fail
      go_ret
      exact ⟨rfl, HB.out⟩
end Go.Proofs.YtlegacllbohbmaaDoor
