/- Layer 5: a string with bits inverted. -/
import Derived.Lib.ConvBytes
import Derived.Lib.BufferMore
import Derived.Test.YtanillahofohgaaRaS
set_option linter.unusedVariables false
set_option linter.unusedSimpArgs false
namespace Go.Proofs.Ytanillahofohgaa
open Go.RowKit Go.Shelf

theorem By_conv (s : ByteArray) (w : World) (c : Nat) (hc : s.size ≤ c) (hm : c ≤ maxLen) (B : Nat) (hB : B ≤ w.heap.size) : By B (w.drew.alloc (.cells (bytesRow s c) 5 ((bytesRow s c).size, (bytesRow s c).size + 1))) (.slice (some ⟨w.heap.size, 0, none⟩) s.size c) s.data.toList := by
  have hsz : (bytesRow s c).size = c := by
    have : s.data.size = s.size := rfl
    simp [bytesRow]
    omega
  have hl : s.data.toList.length = s.size := Array.length_toList
  unfold By
  rw [hl, hsz]
  refine ⟨by rw [Lib.byteCells_length, hl, Nat.mul_one], .inr ⟨w.heap.size, c, fun j => ((bytesRow s c)[j]?).getD default, rfl, hB, ⟨bytesRow s c, (c, c + 1), ?_, by rw [hsz, Nat.mul_one], fun j hj h => by simp at h; omega, fun i hi => ?_⟩, hc, hm, fun j hj => ?_⟩⟩
  · exact _root_.Go.heap_alloc_new w.drew _
  · have hi' : i < (bytesRow s c).size := by omega
    show (bytesRow s c)[i]? = some (((bytesRow s c)[i]?).getD default)
    rw [Array.getElem?_eq_getElem hi']
    rfl
  · have hj2 : j < s.size := by omega
    have hj' : j < s.data.size := hj2
    simp [Lib.byteCells, bytesRow, Array.getElem?_append, hj', hj2]
theorem conv_by (s : ByteArray) (w : World) (B : Nat) (hB : B ≤ w.heap.size) (hs : s.size ≤ maxLen) : ∃ v1 W1, (convert 9 51 (.string s)).run Try.prog w = .ok v1 W1 ∧ By B W1 v1 s.data.toList ∧ Below w.heap.size w W1 := by
  have h := run_bytes_of_string (P := Try.prog) w 9 51 5 s str_kind u8_slice (by kernel_rfl)
  refine ⟨_, _, h, By_conv s w _ (grownCap_ge w s.size 0 _) (grownCap_le_maxLen w s.size 0 _ hs) B hB, ?_⟩
  exact (Below.refl w.heap.size w).drew.alloc (Nat.le_refl _) _

theorem By.block {B : Nat} {W : World} {g n cap : Nat} {l : List UInt8} (h : By B W (.slice (some ⟨g, 0, none⟩) n cap) l) : ∃ f, n = l.length ∧ B ≤ g ∧ RF W g 5 cap f ∧ l.length ≤ cap ∧ cap ≤ maxLen ∧ ∀ j (hj : j < l.length), f j = .int .u8 (l[j].toNat : Nat) := by
  obtain ⟨hlen, ⟨e, _⟩ | ⟨g', cap', f, e, hB, rf, hc, hm, hx⟩⟩ := h
  · cases e
  · cases e
    rw [Nat.mul_one] at rf
    refine ⟨f, rfl, hB, rf, hc, hm, fun j hj => ?_⟩
    have := hx j (by omega)
    simp [Lib.byteCells, hj] at this
    exact this.symm
theorem By.of {B : Nat} {W : World} {g cap : Nat} {l : List UInt8} {f : Nat → Value} (hB : B ≤ g) (rf : RF W g 5 cap f) (hc : l.length ≤ cap) (hm : cap ≤ maxLen) (hf : ∀ j (hj : j < l.length), f j = .int .u8 (l[j].toNat : Nat)) : By B W (.slice (some ⟨g, 0, none⟩) l.length cap) l :=
  ⟨by simp [Lib.byteCells], .inr ⟨g, cap, f, rfl, hB, by rw [Nat.mul_one]; exact rf, hc, hm, fun j hj => by
    rw [Nat.mul_one] at hj
    rw [hf j hj]
    simp [Lib.byteCells, hj]⟩⟩
theorem By.set {B : Nat} {W : World} {g n cap : Nat} {l : List UInt8} (h : By B W (.slice (some ⟨g, 0, none⟩) n cap) l) (j : Nat) (x : UInt8) : By B (W.setCell ⟨g, j, none⟩ (.int .u8 (x.toNat : Nat))) (.slice (some ⟨g, 0, none⟩) n cap) (l.set j x) := by
  obtain ⟨f, rfl, hB, rf, hc, hm, hf⟩ := h.block
  have h2 := By.of (l := l.set j x) hB (rf.set j (.int .u8 (x.toNat : Nat))) (by rw [List.length_set]; exact hc) hm (fun i hi => by
    rw [List.getElem_set]
    by_cases e : i = j
    · subst e; rw [if_pos rfl, if_pos rfl]
    · rw [if_neg e, if_neg (fun h => e h.symm)]
      exact hf i (by rw [List.length_set] at hi; exact hi))
  rwa [List.length_set] at h2

def flB (b : UInt8) (k : Nat) : UInt8 := UInt8.ofNat (b.toNat ^^^ (128 / 2 ^ k))
theorem flB_nat (b : UInt8) (k : Nat) : (flB b k).toNat = b.toNat ^^^ (128 / 2 ^ k) := by
  have h1 : 128 / 2 ^ k < 256 := Nat.lt_of_le_of_lt (Nat.div_le_self _ _) (by decide)
  have h2 : b.toNat ^^^ (128 / 2 ^ k) < 256 := Nat.xor_lt_two_pow (n := 8) (byte_lt b) h1
  unfold flB
  rw [UInt8.toNat_ofNat']
  exact Nat.mod_eq_of_lt h2
/-- One bit inverted. -/
def flip1 (l : List UInt8) (n : Int) : List UInt8 := if inB n 0 (8 * l.length - 1) then l.set (n.toNat / 8) (flB ((l[n.toNat / 8]?).getD 0) (n.toNat % 8)) else l
def flL (l : List UInt8) (fl : List Int) : List UInt8 := fl.foldl flip1 l
theorem flip1_len (l : List UInt8) (n : Int) : (flip1 l n).length = l.length := by unfold flip1; split <;> simp
theorem flL_len (l : List UInt8) (fl : List Int) : (flL l fl).length = l.length := by
  induction fl generalizing l with
  | nil => rfl
  | cons n fl ih => show (flL (flip1 l n) fl).length = _; rw [ih, flip1_len]
theorem flL_take (l : List UInt8) (fl : List Int) (k : Nat) (h : k < fl.length) : flL l (fl.take (k + 1)) = flip1 (flL l (fl.take k)) fl[k] := by
  rw [List.take_succ_eq_append_getElem h]
  unfold flL
  rw [List.foldl_append]
  rfl
theorem bits_xor_flB (b : UInt8) (k : Nat) : bits .xor .u8 (b.toNat : Int) ((128 / 2 ^ k : Nat) : Int) = ((flB b k).toNat : Int) := by
  rw [bits_xor_u8_nat _ _ (byte_lt b) (Nat.lt_of_le_of_lt (Nat.div_le_self _ _) (by decide)), flB_nat]

set_option maxRecDepth 100000 in
set_option maxHeartbeats 3200000 in
theorem inverted_any (l : List UInt8) (v : Value) (fl : List Int) (w : World) (h : InS w v fl) (hl : l.length ≤ 1000000) (hfl : fl.length ≤ 1099511627776) :
    Calls Try.prog 58 #[.string (str l), v] w fun e w' => e = .returned (.string (str (flL l fl))) ∧ Below w.heap.size w w' := by
  have H := Lib.hid h
  obtain ⟨a, ca, rfl, hca⟩ := h.form
  clear h
  have hsz := str_size l
  obtain ⟨W1, cap, hcv, hby, hbl⟩ : ∃ W1 cap, (convert 9 51 (.string (str l))).run Try.prog w = .ok (.slice (some ⟨w.heap.size, 0, none⟩) l.length cap) W1 ∧ By w.heap.size W1 (.slice (some ⟨w.heap.size, 0, none⟩) l.length cap) l ∧ Below w.heap.size w W1 := by
    have h := run_bytes_of_string (P := Try.prog) w 9 51 5 (str l) str_kind u8_slice (by kernel_rfl)
    have h2 := By_conv (str l) w _ (grownCap_ge w (str l).size 0 5) (grownCap_le_maxLen w (str l).size 0 _ (by rw [str_size]; unfold maxLen; omega)) w.heap.size (Nat.le_refl _)
    rw [str_size] at h h2
    rw [str_list] at h2
    exact ⟨_, _, h, h2, (Below.refl w.heap.size w).drew.alloc (Nat.le_refl _) _⟩
  have HBY := Lib.hid hby
  have HBL := Lib.hid hbl
  have IW := Lib.hid isWithin_any
  clear hby hbl
  go_enter Try.func58, Try.ntmps58
  go_wp2_with fail
  clear hcv
  go_loopw [7, 12] (fun _ i wr => ∃ k : Nat, k ≤ fl.length ∧ i = .int .i64 k ∧ Hid (By w.heap.size wr (.slice (some ⟨w.heap.size, 0, none⟩) l.length cap) (flL l (fl.take k))) ∧ Hid (Below w.heap.size w wr)) (fun _ i _ => fl.length - (intOf i).toNat)
  case atStart => exact ⟨0, Nat.zero_le _, rfl, by simpa [flL] using HBY, HBL⟩
  case round =>
    obtain ⟨k, hk, rfl, HR, BL⟩ := hrel
    by_cases hlt : k < fl.length
    · obtain ⟨b1, o1, rfl, hb1, hi1, c1⟩ := (H.out.below BL.out).at hlt
      have HT := Lib.hid (flL_take l fl k hlt)
      have hml := flL_len l (fl.take k)
      generalize flL l (fl.take k) = m at *
      generalize fl[k] = z at *
      have HE : Hid (flip1 m z = if inB z 0 (8 * m.length - 1) then m.set (z.toNat / 8) (flB ((m[z.toNat / 8]?).getD 0) (z.toNat % 8)) else m) := Lib.hid rfl
      rw [hml] at HE
      have hz : inB z 0 (8 * (l.length : Int) - 1) = decide (0 ≤ z ∧ z ≤ 8 * (l.length : Int) - 1) := rfl
      by_cases hin : 0 ≤ z ∧ z ≤ 8 * (l.length : Int) - 1
      · rw [decide_eq_true hin] at hz
        obtain ⟨n, rfl⟩ : ∃ n : Nat, z = (n : Int) := ⟨z.toNat, by omega⟩
        simp only [Int.toNat_natCast] at HE
        rw [hz, if_pos rfl] at HE
        have hj : n / 8 < m.length := by omega
        obtain ⟨f, -, hB, rf, hcm, -, hf⟩ := HR.out.block
        have c2 := rf.cell (i := n / 8) (by omega)
        have f2 := rf.frozen (i := n / 8) (by omega)
        rw [hf (n / 8) hj] at c2
        have R2 := Lib.hid (HR.out.set (n / 8) (flB m[n / 8] (n % 8)))
        have hme : (m[n / 8]?).getD 0 = m[n / 8] := by rw [List.getElem?_eq_getElem hj]; rfl
        rw [hme] at HE
        have B2 := Lib.hid (BL.out.setCell (p := ⟨w.heap.size, n / 8, none⟩) (Nat.le_refl _) (.int .u8 ((flB m[n / 8] (n % 8)).toNat : Nat)))
        have C2 := Lib.hid c2
        have F2 := Lib.hid f2
        clear hme c2 f2 hf rf hcm hB
        go_wp2_with (go_at_call 41; refine (IW.out _ _ _ _).mono ?_; rintro e w' ⟨rfl, rfl⟩; rw [hz])
        have c2 := C2.out
        have f2 := F2.out
        have XF : Hid (bits .xor .u8 (m[n / 8].toNat : Int) ((128 : Int) / 2 ^ (n % 8)) = ((flB m[n / 8] (n % 8)).toNat : Int)) := Lib.hid (by
          have := bits_xor_flB m[n / 8] (n % 8)
          simpa using this)
        have q1 : Int.tdiv (n : Int) 8 = ((n / 8 : Nat) : Int) := by rw [Int.tdiv_eq_ediv_of_nonneg (by omega)]; omega
        have q2 : Int.tmod (n : Int) 8 = ((n % 8 : Nat) : Int) := by rw [Int.tmod_eq_emod_of_nonneg (by omega)]; omega
        have hby := byte_lt m[n / 8]
        have hr8 : n % 8 < 8 := Nat.mod_lt _ (by decide)
        have SH : Op.shift .shr .u8 128 .i64 ((n % 8 : Nat) : Int) = pure (.int .u8 ((128 / 2 ^ (n % 8) : Nat) : Int)) := by
          rw [shift_shr_any _ _ _ _ (by omega)]
          have e1 : min ((n % 8 : Nat) : Int).toNat IntKind.u8.bits = n % 8 := by simp [IntKind.bits]; omega
          rw [e1]
          simp
        go_region
        all_goals
          go_wp2_with fail
          go_roundw
          case rel => exact ⟨k + 1, by omega, by go_num, Lib.hid (by rw [XF.out, HT.out, HE.out]; exact By.below R2.out ((Below.refl _ _).drew)), Lib.hid (by rw [XF.out]; exact B2.out.drew)⟩
          case measure => simp [intOf]; omega
      · rw [decide_eq_false hin] at hz
        have R2 : Hid (By w.heap.size wr (.slice (some ⟨w.heap.size, 0, none⟩) l.length cap) (flL l (fl.take (k + 1)))) := Lib.hid (by rw [HT.out, HE.out, hz]; exact HR.out)
        go_wp2_with (go_at_call 41; refine (IW.out _ _ _ _).mono ?_; rintro e w' ⟨rfl, rfl⟩; rw [hz])
        go_roundw
        case rel => exact ⟨k + 1, by omega, by go_num, R2, BL⟩
        case measure => simp [intOf]; omega
    · obtain rfl : k = fl.length := by omega
      have HT : Hid (fl.take fl.length = fl) := Lib.hid (List.take_of_length_le (Nat.le_refl _))
      rw [HT.out] at HR
      have hcv := by_string HR.out
      rw [show (⟨(flL l fl).toArray⟩ : ByteArray) = str (flL l fl) by unfold str; rfl] at hcv
      go_wp2_with fail
      go_ret
      exact ⟨rfl, BL.out⟩
end Go.Proofs.Ytanillahofohgaa
