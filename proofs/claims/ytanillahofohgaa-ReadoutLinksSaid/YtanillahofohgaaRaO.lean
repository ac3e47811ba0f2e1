/- Layer 5: the reader. -/
import Derived.Test.YtanillahofohgaaRaN
set_option linter.unusedVariables false
set_option linter.unusedSimpArgs false
namespace Go.Proofs.Ytanillahofohgaa
open Go.RowKit

theorem bits_or_i64_byte (n y : Nat) (hn : n < 36028797018963968) (hy : y < 256) : bits .or .i64 ((n : Int) * 256) (y : Int) = ((n * 256 + y : Nat) : Int) := by
  have ho : n * 256 ||| y = n * 256 + y := by
    have := Nat.shiftLeft_add_eq_or_of_lt (i := 8) (b := y) (by omega) n
    rw [Nat.shiftLeft_eq] at this
    exact this.symm
  have h1 : (BitVec.ofInt 64 ((n : Int) * 256)).toNat = n * 256 := by
    rw [show (n : Int) * 256 = ((n * 256 : Nat) : Int) by omega, BitVec.ofInt_natCast, BitVec.toNat_ofNat]; exact Nat.mod_eq_of_lt (by omega)
  have h2 : (BitVec.ofInt 64 (y : Int)).toNat = y := by
    rw [BitVec.ofInt_natCast, BitVec.toNat_ofNat]; exact Nat.mod_eq_of_lt (by omega)
  show IntKind.i64.wrap ((BitVec.ofInt 64 ((n : Int) * 256) ||| BitVec.ofInt 64 (y : Int)).toNat : Int) = _
  rw [BitVec.toNat_or, h1, h2, ho, IntWalk.i64_in]
  omega
/-- The number in some bytes, the highest first. -/
def beV (l : List UInt8) : Nat := l.foldl (fun n b => n * 256 + b.toNat) 0
theorem beV_snoc (l : List UInt8) (b : UInt8) : beV (l ++ [b]) = beV l * 256 + b.toNat := by unfold beV; rw [List.foldl_append]; rfl
theorem beV_take (l : List UInt8) (k : Nat) (h : k < l.length) : beV (l.take (k + 1)) = beV (l.take k) * 256 + l[k].toNat := by rw [List.take_succ_eq_append_getElem h, beV_snoc]
theorem beV_lt (l : List UInt8) : ∀ k, k ≤ l.length → beV (l.take k) < 256 ^ k
  | 0, _ => by simp [beV]
  | k + 1, h => by
    rw [beV_take l k (by omega)]
    have := beV_lt l k (by omega)
    have := byte_lt l[k]
    rw [Nat.pow_succ]
    omega
/-- A string of these bytes. -/
def str (l : List UInt8) : ByteArray := ⟨l.toArray⟩
theorem str_size (l : List UInt8) : (str l).size = l.length := size_str l
theorem str_list (l : List UInt8) : (str l).data.toList = l := by simp [str]
theorem str_of (s : ByteArray) : s = str s.data.toList := by unfold str; simp
theorem str_at (l : List UInt8) (k : Nat) (h : k < (str l).size) (h' : k < l.length) : (str l)[k] = l[k] := by
  show (str l).data[k] = _
  simp [str]
theorem str_drop (l : List UInt8) (k : Nat) : (str l).extract k (str l).size = str (l.drop k) := by
  apply ByteArray.ext
  apply Array.ext'
  rw [ByteArray.data_extract, Array.toList_extract, List.extract_eq_take_drop, str_list, str_list, str_size]
  exact List.take_of_length_le (by simp)
theorem str_take (l : List UInt8) (k : Nat) : (str l).extract 0 k = str (l.take k) := by
  apply ByteArray.ext
  apply Array.ext'
  rw [ByteArray.data_extract, Array.toList_extract, List.extract_eq_take_drop, str_list, str_list]
  simp
attribute [irreducible] str

/-- A reader at block b, with these bytes. -/
def Rd (w : World) (b : Nat) (l : List UInt8) : Prop := RF w b 117 1 (fun _ => .string (str l))
/-- All blocks but one stay. -/
def OnB (b : Nat) (w w' : World) : Prop := Below 0 w w' ∧ w'.heap.size = w.heap.size ∧ ∀ k, k ≠ b → w'.heap[k]? = w.heap[k]?
theorem OnB.set (b : Nat) (w : World) (v : Value) : OnB b w (w.setCell ⟨b, 0, none⟩ v) := ⟨(Below.refl _ _).setCell (p := ⟨b, 0, none⟩) (Nat.zero_le _) _, by simp, fun k hk => Below.heap_setCell _ _ _ _ hk⟩
theorem OnB.trans {b : Nat} {w w' w'' : World} (h : OnB b w w') (k : OnB b w' w'') : OnB b w w'' := ⟨h.1.trans k.1, k.2.1.trans h.2.1, fun j hj => (k.2.2 j hj).trans (h.2.2 j hj)⟩
theorem OnB.below {b B : Nat} {w w' : World} (h : OnB b w w') (hb : B ≤ b) : Below B w w' := ⟨h.1.os, h.1.tape, h.1.output, h.1.size, fun k hk => h.2.2 k (by omega)⟩
theorem OnB.cell {b : Nat} {w w' : World} (h : OnB b w w') {k o : Nat} {v : Value} (hc : w.cell? ⟨k, o, none⟩ = some v) (hk : k ≠ b) : w'.cell? ⟨k, o, none⟩ = some v := (World.cell?_of_block (w := w) (h.2.2 k hk)).trans hc

set_option maxRecDepth 100000 in
set_option maxHeartbeats 1600000 in
theorem read_any (b : Nat) (l : List UInt8) (size : Nat) (w : World) (h : Rd w b l) (hs : size ≤ 6) (hl : size ≤ l.length) (hm : l.length ≤ 1099511627776) :
    Calls Try.prog 76 #[.pointer (some ⟨b, 0, none⟩), .int .i64 (size : Nat)] w fun e w' => e = .returned (.int .i64 (beV (l.take size) : Nat)) ∧ Rd w' b (l.drop size) ∧ OnB b w w' := by
  have c0 := h.cell (i := 0) (by omega)
  have f0 := h.frozen (i := 0) (by omega)
  have HR := Lib.hid h
  have hb := h.lt
  have hsz := str_size l
  have HD := Lib.hid (str_drop l size)
  clear h
  obtain ⟨s, hs1⟩ : ∃ s, s = str l := ⟨_, rfl⟩
  rw [← hs1] at c0 hsz HD
  have HAT : Hid (∀ k (h : k < s.size) (h' : k < l.length), s[k] = l[k]) := Lib.hid (by subst hs1; exact fun k h h' => str_at l k h h')
  clear hs1
  go_enter Try.func76, Try.ntmps76
  go_wp2_with fail
  go_loopw [5, 6, 8] (fun n _ i wr => ∃ k : Nat, k ≤ size ∧ i = .int .i64 k ∧ n = .int .i64 (beV (l.take k) : Nat) ∧ wr = w) (fun _ _ i _ => size - (intOf i).toNat)
  case atStart => exact ⟨0, Nat.zero_le _, rfl, rfl, rfl⟩
  case round =>
    obtain ⟨k, hk, rfl, rfl, rfl⟩ := hrel
    by_cases hlt : k < size
    · have hkl : k < l.length := by omega
      have hks : k < s.size := by omega
      have HT := Lib.hid (beV_take l k hkl)
      have hv := beV_lt l k (by omega)
      have hp : 256 ^ k ≤ 256 ^ 5 := Nat.pow_le_pow_right (by decide) (by omega)
      have hv2 : beV (l.take k) < 1099511627776 := by have : (256 : Nat) ^ 5 = 1099511627776 := by decide
                                                      omega
      have ha := HAT.out k hks hkl
      have hy := byte_lt l[k]
      generalize beV (l.take k) = n at *
      have OR := bits_or_i64_byte n l[k].toNat (by omega) hy
      rw [← ha] at OR hy HT
      clear hv hp ha
      go_wp2_with fail
      go_roundw
      case rel => exact ⟨k + 1, by omega, by go_num, by rw [HT.out]; congr 1, trivial⟩
      case measure => simp [intOf]; omega
    · obtain rfl : k = size := by omega
      have SL := run_slice_string_l (P := Try.prog) wr 9 s str_kind .i64 (k : Int) (by omega) (by omega)
      rw [Int.toNat_natCast, HD.out] at SL
      have HN := Lib.hid (HR.out.set 0 (.string (str (l.drop k))))
      go_wp2_with fail
      go_ret
      exact ⟨rfl, HN.out.congr (fun i hi => by rw [if_pos (by omega)]), OnB.set _ _ _⟩

theorem rone_any (b : Nat) (l : List UInt8) (w : World) (h : Rd w b l) (hl : 1 ≤ l.length) (hm : l.length ≤ 1099511627776) :
    Calls Try.prog 68 #[.pointer (some ⟨b, 0, none⟩)] w fun e w' => e = .returned (.int .i64 (beV (l.take 1) : Nat)) ∧ Rd w' b (l.drop 1) ∧ OnB b w w' := by
  have H := Lib.hid (read_any b l 1 w h (by omega) hl hm)
  clear h
  go_enter Try.func68, Try.ntmps68
  go_wp2_with (go_at_call 76; refine H.out.mono ?_; rintro e w' ⟨rfl, h1⟩; have H1 := Lib.hid h1; clear h1)
  go_ret
  exact ⟨rfl, H1.out⟩
theorem rtwo_any (b : Nat) (l : List UInt8) (w : World) (h : Rd w b l) (hl : 2 ≤ l.length) (hm : l.length ≤ 1099511627776) :
    Calls Try.prog 71 #[.pointer (some ⟨b, 0, none⟩)] w fun e w' => e = .returned (.int .i64 (beV (l.take 2) : Nat)) ∧ Rd w' b (l.drop 2) ∧ OnB b w w' := by
  have H := Lib.hid (read_any b l 2 w h (by omega) hl hm)
  clear h
  go_enter Try.func71, Try.ntmps71
  go_wp2_with (go_at_call 76; refine H.out.mono ?_; rintro e w' ⟨rfl, h1⟩; have H1 := Lib.hid h1; clear h1)
  go_ret
  exact ⟨rfl, H1.out⟩
theorem rfour_any (b : Nat) (l : List UInt8) (w : World) (h : Rd w b l) (hl : 4 ≤ l.length) (hm : l.length ≤ 1099511627776) :
    Calls Try.prog 69 #[.pointer (some ⟨b, 0, none⟩)] w fun e w' => e = .returned (.int .i64 (beV (l.take 4) : Nat)) ∧ Rd w' b (l.drop 4) ∧ OnB b w w' := by
  have H := Lib.hid (read_any b l 4 w h (by omega) hl hm)
  clear h
  go_enter Try.func69, Try.ntmps69
  go_wp2_with (go_at_call 76; refine H.out.mono ?_; rintro e w' ⟨rfl, h1⟩; have H1 := Lib.hid h1; clear h1)
  go_ret
  exact ⟨rfl, H1.out⟩
theorem rsix_any (b : Nat) (l : List UInt8) (w : World) (h : Rd w b l) (hl : 6 ≤ l.length) (hm : l.length ≤ 1099511627776) :
    Calls Try.prog 70 #[.pointer (some ⟨b, 0, none⟩)] w fun e w' => e = .returned (.int .i64 (beV (l.take 6) : Nat)) ∧ Rd w' b (l.drop 6) ∧ OnB b w w' := by
  have H := Lib.hid (read_any b l 6 w h (by omega) hl hm)
  clear h
  go_enter Try.func70, Try.ntmps70
  go_wp2_with (go_at_call 76; refine H.out.mono ?_; rintro e w' ⟨rfl, h1⟩; have H1 := Lib.hid h1; clear h1)
  go_ret
  exact ⟨rfl, H1.out⟩
end Go.Proofs.Ytanillahofohgaa
