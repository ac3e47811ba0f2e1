/- Layer 4: hexadecimal digits: the numbers; formatBits at base 16. -/
import Derived.Shelf.Spec.TrailingZeros
import Derived.Test.YtlegacllbohbmaaDoorCaA
set_option linter.unusedVariables false
set_option linter.unusedSimpArgs false
namespace Go.Proofs.YtlegacllbohbmaaDoor
open Go.RowKit

/-! ### The digits -/
def hexD (d : Nat) : UInt8 := UInt8.ofNat (if d < 10 then 48 + d else 87 + d)
def hexB : Nat → Nat → List UInt8
  | 0, _ => []
  | k + 1, n => hexB k (n / 16) ++ [hexD (n % 16)]
theorem hexB_len : ∀ (k n : Nat), (hexB k n).length = k
  | 0, _ => rfl
  | k + 1, n => by rw [hexB, List.length_append, hexB_len k]; rfl
theorem hexB_front : ∀ (k n : Nat), hexB (k + 1) n = hexD (n / 16 ^ k % 16) :: hexB k n
  | 0, n => by simp [hexB]
  | k + 1, n => by
    rw [hexB, hexB_front k (n / 16), hexB, Nat.div_div_eq_div_mul, show 16 * 16 ^ k = 16 ^ (k + 1) by rw [Nat.pow_succ]; omega]
    rfl
theorem hexB_pad (m n : Nat) (h : n < 16 ^ m) : ∀ d, hexB (m + d) n = List.replicate d 48 ++ hexB m n
  | 0 => rfl
  | d + 1 => by
    have e : n / 16 ^ (m + d) = 0 := Nat.div_eq_of_lt (Nat.lt_of_lt_of_le h (Nat.pow_le_pow_right (by decide) (by omega)))
    rw [show m + (d + 1) = (m + d) + 1 by omega, hexB_front, e, hexB_pad m n h d]
    rfl
/-- The hexadecimal form. -/
def hexL (n : Nat) : List UInt8 := hexB 16 n
theorem hexL_len (n : Nat) : (hexL n).length = 16 := hexB_len 16 n
theorem hexL_of (m n : Nat) (hm : m ≤ 16) (h : n < 16 ^ m) : List.replicate (16 - m) 48 ++ hexB m n = hexL n := by
  have := hexB_pad m n h (16 - m)
  rw [show m + (16 - m) = 16 by omega] at this
  exact this.symm

/-- The digits of the text of library: the j last of them lie at the end of the array. -/
def HexS (w : World) (b n j : Nat) (W : World) : Prop :=
  (∀ p, p < 65 → ∃ v, W.cell? ⟨b, p, none⟩ = some v) ∧ (∀ p, W.frozen? ⟨b, p, none⟩ = false) ∧
  (∀ q, q < j → W.cell? ⟨b, 65 - j + q, none⟩ = some (.int .u8 (((hexB j n).getD q 0).toNat : Nat))) ∧ Below w.heap.size w W

theorem hexS_step {w : World} {b n j : Nat} {W : World} (h : HexS w b n j W) (hj : j < 65) (hb : w.heap.size ≤ b) : HexS w b n (j + 1) (W.setCell ⟨b, 64 - j, none⟩ (.int .u8 ((hexD (n / 16 ^ j % 16)).toNat : Nat))) := by
  obtain ⟨c, f, d, B⟩ := h
  obtain ⟨v0, h0⟩ := c (64 - j) (by omega)
  have same : (W.setCell ⟨b, 64 - j, none⟩ (.int .u8 ((hexD (n / 16 ^ j % 16)).toNat : Nat))).cell? ⟨b, 64 - j, none⟩ = some (.int .u8 ((hexD (n / 16 ^ j % 16)).toNat : Nat)) := World.cell?_setCell_same' _ _ _ (by rw [h0]; rfl)
  have other : ∀ p, p ≠ 64 - j → (W.setCell ⟨b, 64 - j, none⟩ (.int .u8 ((hexD (n / 16 ^ j % 16)).toNat : Nat))).cell? ⟨b, p, none⟩ = W.cell? ⟨b, p, none⟩ := fun p hp => by
    simp [go_sem, hp, Ne.symm hp]
  refine ⟨fun p hp => ?_, fun p => by rw [World.frozen?_setCell]; exact f p, fun q hq => ?_, B.setCell (p := ⟨b, 64 - j, none⟩) hb _⟩
  · by_cases e : p = 64 - j
    · rw [e]; exact ⟨_, same⟩
    · rw [other p e]; exact c p hp
  · rw [hexB_front]
    rcases q with _ | q
    · rw [show 65 - (j + 1) + 0 = 64 - j by omega, same]; rfl
    · rw [show 65 - (j + 1) + (q + 1) = 65 - j + q by omega, other _ (by omega), d q (by omega)]
      rfl
theorem hexG (d : Nat) (hd : d < 16) (z : Int) (hz : z = (d : Int)) (h : z.toNat < ({ data := #[48, 49, 50, 51, 52, 53, 54, 55, 56, 57, 97, 98, 99, 100, 101, 102, 103, 104, 105, 106, 107, 108, 109, 110, 111, 112, 113, 114, 115, 116, 117, 118, 119, 120, 121, 122] } : ByteArray).size) : ((({ data := #[48, 49, 50, 51, 52, 53, 54, 55, 56, 57, 97, 98, 99, 100, 101, 102, 103, 104, 105, 106, 107, 108, 109, 110, 111, 112, 113, 114, 115, 116, 117, 118, 119, 120, 121, 122] } : ByteArray)[z.toNat]'h).toNat : Int) = (((hexD d).toNat : Nat) : Int) := by
  subst hz
  have key : ∀ k : Fin 16, ({ data := #[48, 49, 50, 51, 52, 53, 54, 55, 56, 57, 97, 98, 99, 100, 101, 102, 103, 104, 105, 106, 107, 108, 109, 110, 111, 112, 113, 114, 115, 116, 117, 118, 119, 120, 121, 122] } : ByteArray).data[(k : Nat)]? = some (hexD k) := by decide
  have := key ⟨d, hd⟩
  obtain ⟨_, e⟩ := Array.getElem?_eq_some_iff.1 this
  rw [← e]
  rfl

theorem slice65 (b p : Nat) (hp : p ≤ 64) : ∀ W : World, (Instr.sliceAt 126 (.pointer (some ⟨b, 0, none⟩)) (some (.int .i64 (p : Int))) none none).run Tryd.prog W = .ok (.slice (some ⟨b, p, none⟩) (65 - p) (65 - p)) W := by
  intro W
  have e1 : Tryd.prog.arrayLen 126 = 65 := by kernel_rfl
  have e2 : Tryd.prog.underlying 126 = some (.array (Tryd.prog.arrayLen 126) (Tryd.prog.elem 126)) := by kernel_rfl
  have e3 : Tryd.prog.elem 126 = 5 := by kernel_rfl
  rw [run_sliceAt_array_l W _ _ e2 .i64 p (by omega) (by rw [e1]; omega), e1, e3]
  have h65 : ¬ (65 = p) := by omega
  simp [go_sem, h65]
theorem hexS_string {w W : World} {b n j p : Nat} (h : HexS w b n (j + 1) W) (hj : j ≤ 64) (hp : p = 64 - j) :
    (convert 27 9 (.slice (some ⟨b, p, none⟩) (65 - p) (65 - p))).run Tryd.prog W = .ok (.string ⟨(hexB (j + 1) n).toArray⟩) W := by
  obtain ⟨_, _, d, _⟩ := h
  have hl := hexB_len (j + 1) n
  have e : 65 - p = (hexB (j + 1) n).length := by omega
  rw [e]
  refine run_convert_bytes_back W _ _ 5 ⟨b, p, none⟩ _ (hexB (j + 1) n) (by kernel_rfl) (by kernel_rfl) (by kernel_rfl) fun q hq => ?_
  have := d q (by omega)
  rw [show 65 - (j + 1) + q = p + q by omega, List.getD_eq_getElem?_getD, List.getElem?_eq_getElem hq] at this
  have ha : (⟨b, p, none⟩ : Addr).add q = ⟨b, p + q, none⟩ := by unfold Addr.add; split <;> simp_all
  rw [ha]
  exact this

/-- Half a table of the library. -/
def Tz16 (w : World) : Prop := w.cell? ⟨3, 15, none⟩ = some (.int .u8 4)

theorem tz64_16 (w : World) (h : Tz16 w) : Calls Tryd.prog 81 #[.int .u64 16] w fun e w' => e = .returned (.int .i64 4) ∧ w = w' := by
  unfold Tz16 at h
  have key : IntKind.u64.wrap (bits BinOp.and IntKind.u64 16 (IntKind.u64.wrap (-16)) * 285870213051353865) / 288230376151711744 = 15 := by decide
  go_enter Tryd.func81, Tryd.ntmps81
  go_wp2_with (simp only [key])
  go_ret
  exact ⟨rfl, rfl⟩
theorem tz_16 (w : World) (h : Tz16 w) : Calls Tryd.prog 75 #[.int .u64 16] w fun e w' => e = .returned (.int .i64 4) ∧ w = w' := by
  go_enter Tryd.func75, Tryd.ntmps75
  go_wp2_with (go_at_call 81; refine (tz64_16 _ h).mono ?_; rintro e w' ⟨rfl, rfl⟩)
  go_ret
  exact ⟨rfl, rfl⟩
theorem pow2_16 (w : World) : Calls Tryd.prog 74 #[.int .i64 16] w fun e w' => e = .returned (.bool true) ∧ w = w' := by
  have key : bits BinOp.and IntKind.i64 16 15 = 0 := by decide
  go_enter Tryd.func74, Tryd.ntmps74
  go_wp2_with (simp only [key])
  go_ret
  exact ⟨rfl, rfl⟩


theorem and15 (u : Nat) (h : u < 18446744073709551616) : bits BinOp.and IntKind.u64 (u : Int) 15 = ((u % 16 : Nat) : Int) := by
  have := u64_and_nat u 15 h (by omega)
  rw [show ((15 : Nat) : Int) = 15 from rfl] at this
  rw [this, show (15 : Nat) = 2 ^ 4 - 1 from rfl, Nat.and_two_pow_sub_one_eq_mod u 4]
set_option maxRecDepth 100000 in
set_option maxHeartbeats 800000 in
theorem formatBits_16 (n : Nat) (w : World) (hn : n < 18446744073709551616) (ht : Tz16 w) :
    Calls Tryd.prog 58 #[.slice none 0 0, .int .u64 n, .int .i64 16, .bool false, .bool false] w fun e w' => (∃ m, m ≤ 16 ∧ n < 16 ^ m ∧ e = .returned (.tuple #[.slice none 0 0, .string ⟨(hexB m n).toArray⟩])) ∧ Below w.heap.size w w' := by
  have HT := Lib.hid ht
  have hg := cell_lt ht
  clear ht
  go_enter Tryd.func58, Tryd.ntmps58
  go_wp2_with fail
  refine (pow2_16 _).mono ?_
  rintro e w1 ⟨rfl, rfl⟩
  have H1 : Hid (Tz16 (w.alloc (.cells Tryd.zeroCells126 126))) := Lib.hid (by
    exact bc ((Below.refl _ _).alloc (Nat.le_refl _) _) HT.out)
  have S0 : Hid (HexS w w.heap.size n 0 (w.alloc (.cells Tryd.zeroCells126 126))) := Lib.hid (by
    refine ⟨fun p hp => ?_, fun p => ?_, fun q hq => absurd hq (by omega), (Below.refl _ _).alloc (Nat.le_refl _) _⟩
    · have e : (Tryd.zeroCells126).size = 65 := by kernel_rfl
      exact ⟨(Tryd.zeroCells126)[p]'(by omega), by simp [go_sem, hp, e]⟩
    · simp [go_sem])
  go_wp2_with fail
  refine (tz_16 _ H1.out).mono ?_
  rintro e w1 ⟨rfl, rfl⟩
  go_wp2_with fail
  go_loopw [1, 13] (fun u i wr => ∃ j : Nat, j ≤ 15 ∧ u = .int .u64 (n / 16 ^ j : Nat) ∧ i = .int .i64 (65 - j : Nat) ∧ (j = 0 ∨ 16 ^ j ≤ n) ∧ Hid (HexS w w.heap.size n j wr)) (fun u _ _ => (intOf u).toNat)
  case atStart => exact ⟨0, by omega, by simp, rfl, .inl rfl, S0⟩
  case round =>
    clear H1 S0
    obtain ⟨j, hj, rfl, rfl, hp, HS⟩ := hrel
    have hu : n / 16 ^ j < 18446744073709551616 := Nat.lt_of_le_of_lt (Nat.div_le_self _ _) hn
    have NX : n / 16 ^ (j + 1) = n / 16 ^ j / 16 := by rw [Nat.pow_succ, Nat.div_div_eq_div_mul]
    have HD : Hid (n / 16 ^ j % 16 = n / 16 ^ j % 16) := Lib.hid rfl
    obtain ⟨c0, f0, d0, B0⟩ := id HS.out
    obtain ⟨p, hp'⟩ : ∃ p, p = 64 - j := ⟨_, rfl⟩
    have HP := Lib.hid hp'
    have pl : p ≤ 64 := by omega
    obtain ⟨v0, c1⟩ := c0 p (by omega)
    have f1 := f0 p
    rw [show 65 - j = p + 1 by omega]
    have SX := Lib.hid (hexS_step HS.out (by omega) (Nat.le_refl _))
    rw [show 64 - j = p from hp'.symm] at SX
    clear HS c0 f0 d0 B0 hp'
    have hd := and15 _ hu
    have hd3 : 0 ≤ bits BinOp.and IntKind.u64 ((n / 16 ^ j : Nat) : Int) 15 ∧ bits BinOp.and IntKind.u64 ((n / 16 ^ j : Nat) : Int) 15 < 36 := by rw [hd]; omega
    have HG := hexG (n / 16 ^ j % 16) (Nat.mod_lt _ (by decide)) _ hd
    have HGG := Lib.hid HG
    have NXX := Lib.hid NX
    clear NX HG hd HD
    by_cases hlt : 16 ≤ n / 16 ^ j
    · have up : 16 ^ (j + 1) ≤ n := by
        have := (Nat.le_div_iff_mul_le (Nat.pow_pos (by decide : 0 < 16))).1 hlt
        rw [Nat.pow_succ]; omega
      have UP := Lib.hid up
      clear up
      generalize hU : n / 16 ^ j = u at *
      have HU := Lib.hid hU
      clear hU
      go_wp2_with fail
      go_roundw
      case rel =>
        have j15 : j + 1 ≤ 15 := by
          rcases Nat.lt_or_ge (j + 1) 16 with h | h
          · omega
          · exact absurd (Nat.le_trans (Nat.pow_le_pow_right (by decide : 0 < 16) h) UP.out) (by omega)
        exact ⟨j + 1, j15, by rw [NXX.out]; rfl, by rw [HP.out]; congr 1; omega, .inr UP.out, by rw [HGG.out _]; exact SX⟩
      case measure => simp [intOf]; omega
    · have dn : n < 16 ^ (j + 1) := by
        have := (Nat.div_lt_iff_lt_mul (Nat.pow_pos (by decide : 0 < 16))).1 (Nat.lt_of_not_le hlt)
        rw [Nat.pow_succ]; omega
      have DN := Lib.hid dn
      clear dn HGG hd3 hp
      generalize hU : n / 16 ^ j = u at *
      have HU := Lib.hid hU
      clear hU
      have ul : u < 16 := by omega
      have hum : u % 16 = u := Nat.mod_eq_of_lt ul
      rw [hum] at SX
      have h2 : ∀ h : u < ({ data := #[48, 49, 50, 51, 52, 53, 54, 55, 56, 57, 97, 98, 99, 100, 101, 102, 103, 104, 105, 106, 107, 108, 109, 110, 111, 112, 113, 114, 115, 116, 117, 118, 119, 120, 121, 122] } : ByteArray).size, (({ data := #[48, 49, 50, 51, 52, 53, 54, 55, 56, 57, 97, 98, 99, 100, 101, 102, 103, 104, 105, 106, 107, 108, 109, 110, 111, 112, 113, 114, 115, 116, 117, 118, 119, 120, 121, 122] } : ByteArray)[u]'h).toNat = (hexD u).toNat := fun h => by
        have := hexG u ul (u : Int) rfl (by simpa using h)
        exact Int.ofNat.inj (by simpa using this)
      clear hum NXX
      have hsl := slice65 w.heap.size p pl
      have hcv := hexS_string SX.out (by omega) HP.out
      go_wp2_with fail
      go_ret2
      exact ⟨⟨j + 1, by omega, DN.out, rfl⟩, SX.out.2.2.2⟩

theorem FormatUint_16i (n : Nat) (w : World) (hn : n < 18446744073709551616) (ht : Tz16 w) :
    Calls Tryd.prog 38 #[.int .u64 n, .int .i64 16] w fun e w' => (∃ m, m ≤ 16 ∧ n < 16 ^ m ∧ e = .returned (.string ⟨(hexB m n).toArray⟩)) ∧ Below w.heap.size w w' := by
  have HT := Lib.hid ht
  clear ht
  go_enter Tryd.func38, Tryd.ntmps38
  go_wp2_with fail
  refine (formatBits_16 n _ hn HT.out).mono ?_
  rintro e w1 ⟨⟨m, hm, hl, rfl⟩, hB⟩
  have HB := Lib.hid hB
  have HL := Lib.hid hl
  clear hB hl
  go_wp2_with fail
  go_ret
  exact ⟨⟨m, hm, HL.out, rfl⟩, HB.out⟩
theorem FormatUint_16 (n : Nat) (w : World) (hn : n < 18446744073709551616) (ht : Tz16 w) :
    Calls Tryd.prog 16 #[.int .u64 n, .int .i64 16] w fun e w' => (∃ m, m ≤ 16 ∧ n < 16 ^ m ∧ e = .returned (.string ⟨(hexB m n).toArray⟩)) ∧ Below w.heap.size w w' := by
  have HT := Lib.hid ht
  clear ht
  go_enter Tryd.func16, Tryd.ntmps16
  go_wp2_with fail
  refine (FormatUint_16i n _ hn HT.out).mono ?_
  rintro e w1 ⟨⟨m, hm, hl, rfl⟩, hB⟩
  have HB := Lib.hid hB
  have HL := Lib.hid hl
  clear hB hl
  go_wp2_with fail
  go_ret
  exact ⟨⟨m, hm, HL.out, rfl⟩, HB.out⟩
end Go.Proofs.YtlegacllbohbmaaDoor
