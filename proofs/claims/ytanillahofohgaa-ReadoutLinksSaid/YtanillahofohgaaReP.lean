/- Layer 5: bits inverted, of both, whatever the list. -/
import Derived.Test.YtanillahofohgaaRaT
set_option linter.unusedVariables false
set_option linter.unusedSimpArgs false
namespace Go.Proofs.Ytanillahofohgaa
open Go.RowKit

set_option maxRecDepth 100000 in
set_option maxHeartbeats 3200000 in
theorem inverted_all (l : List UInt8) (v : Value) (fl : List Int) (w : World) (h : InS w v fl) (hl : l.length ≤ 1000000) (hfl : fl.length ≤ 9223372036854775807) :
    Calls Try.prog 58 #[.string (str l), v] w fun e w' => e = .returned (.string (str (flL l fl))) ∧ Below w.heap.size w w' := by
  have H := Lib.hid h
  obtain ⟨a, ca, rfl, hca⟩ := h.form
  clear h
  have hsz := str_size l
  obtain ⟨W1, cap, hcv, hby, hbl⟩ : ∃ W1 cap, (convert 9 51 (.string (str l))).run Try.prog w = .ok (.slice (some ⟨w.heap.size, 0, none⟩) l.length cap) W1 ∧ By w.heap.size W1 (.slice (some ⟨w.heap.size, 0, none⟩) l.length cap) l ∧ Below w.heap.size w W1 := by
    have h := run_bytes_of_string (P := Try.prog) w 9 51 5 (str l) str_kind u8_slice (by kernel_rfl)
    have h2 := By_conv (str l) w _ (grownCap_ge w (str l).size 0 5) (grownCap_le_maxLen w (str l).size 0 _ (by rw [str_size]; unfold maxLen; omega)) w.heap.size (Nat.le_refl _)
    rw [str_size] at h h2
    rw [str_list] at h2
    exact ⟨_, _, h, h2, (Below.refl w.heap.size w).drew.alloc (Nat.le_refl _) _⟩
  have HBY := Lib.hid hby
  have HBL := Lib.hid hbl
  have IW := Lib.hid isWithin_any
  clear hby hbl
  go_enter Try.func58, Try.ntmps58
  go_wp2_with fail
  clear hcv
  go_loopw [7, 12] (fun _ i wr => ∃ k : Nat, k ≤ fl.length ∧ i = .int .i64 k ∧ Hid (By w.heap.size wr (.slice (some ⟨w.heap.size, 0, none⟩) l.length cap) (flL l (fl.take k))) ∧ Hid (Below w.heap.size w wr)) (fun _ i _ => fl.length - (intOf i).toNat)
  case atStart => exact ⟨0, Nat.zero_le _, rfl, by simpa [flL] using HBY, HBL⟩
  case round =>
    obtain ⟨k, hk, rfl, HR, BL⟩ := hrel
    by_cases hlt : k < fl.length
    · obtain ⟨b1, o1, rfl, hb1, hi1, c1⟩ := (H.out.below BL.out).at hlt
      have HT := Lib.hid (flL_take l fl k hlt)
      have hml := flL_len l (fl.take k)
      generalize flL l (fl.take k) = m at *
      generalize fl[k] = z at *
      have HE : Hid (flip1 m z = if inB z 0 (8 * m.length - 1) then m.set (z.toNat / 8) (flB ((m[z.toNat / 8]?).getD 0) (z.toNat % 8)) else m) := Lib.hid rfl
      rw [hml] at HE
      have hz : inB z 0 (8 * (l.length : Int) - 1) = decide (0 ≤ z ∧ z ≤ 8 * (l.length : Int) - 1) := rfl
      by_cases hin : 0 ≤ z ∧ z ≤ 8 * (l.length : Int) - 1
      · rw [decide_eq_true hin] at hz
        obtain ⟨n, rfl⟩ : ∃ n : Nat, z = (n : Int) := ⟨z.toNat, by omega⟩
        simp only [Int.toNat_natCast] at HE
        rw [hz, if_pos rfl] at HE
        have hj : n / 8 < m.length := by omega
        obtain ⟨f, -, hB, rf, hcm, -, hf⟩ := HR.out.block
        have c2 := rf.cell (i := n / 8) (by omega)
        have f2 := rf.frozen (i := n / 8) (by omega)
        rw [hf (n / 8) hj] at c2
        have R2 := Lib.hid (HR.out.set (n / 8) (flB m[n / 8] (n % 8)))
        have hme : (m[n / 8]?).getD 0 = m[n / 8] := by rw [List.getElem?_eq_getElem hj]; rfl
        rw [hme] at HE
        have B2 := Lib.hid (BL.out.setCell (p := ⟨w.heap.size, n / 8, none⟩) (Nat.le_refl _) (.int .u8 ((flB m[n / 8] (n % 8)).toNat : Nat)))
        have C2 := Lib.hid c2
        have F2 := Lib.hid f2
        clear hme c2 f2 hf rf hcm hB
        go_wp2_with (go_at_call 41; refine (IW.out _ _ _ _).mono ?_; rintro e w' ⟨rfl, rfl⟩; rw [hz])
        have c2 := C2.out
        have f2 := F2.out
        have XF : Hid (bits .xor .u8 (m[n / 8].toNat : Int) ((128 : Int) / 2 ^ (n % 8)) = ((flB m[n / 8] (n % 8)).toNat : Int)) := Lib.hid (by
          have := bits_xor_flB m[n / 8] (n % 8)
          simpa using this)
        have q1 : Int.tdiv (n : Int) 8 = ((n / 8 : Nat) : Int) := by rw [Int.tdiv_eq_ediv_of_nonneg (by omega)]; omega
        have q2 : Int.tmod (n : Int) 8 = ((n % 8 : Nat) : Int) := by rw [Int.tmod_eq_emod_of_nonneg (by omega)]; omega
        have hby := byte_lt m[n / 8]
        have hr8 : n % 8 < 8 := Nat.mod_lt _ (by decide)
        have SH : Op.shift .shr .u8 128 .i64 ((n % 8 : Nat) : Int) = pure (.int .u8 ((128 / 2 ^ (n % 8) : Nat) : Int)) := by
          rw [shift_shr_any _ _ _ _ (by omega)]
          have e1 : min ((n % 8 : Nat) : Int).toNat IntKind.u8.bits = n % 8 := by simp [IntKind.bits]; omega
          rw [e1]
          simp
        go_region
        all_goals
          go_wp2_with fail
          go_roundw
          case rel => exact ⟨k + 1, by omega, by go_num, Lib.hid (by rw [XF.out, HT.out, HE.out]; exact By.below R2.out ((Below.refl _ _).drew)), Lib.hid (by rw [XF.out]; exact B2.out.drew)⟩
          case measure => simp [intOf]; omega
      · rw [decide_eq_false hin] at hz
        have R2 : Hid (By w.heap.size wr (.slice (some ⟨w.heap.size, 0, none⟩) l.length cap) (flL l (fl.take (k + 1)))) := Lib.hid (by rw [HT.out, HE.out, hz]; exact HR.out)
        go_wp2_with (go_at_call 41; refine (IW.out _ _ _ _).mono ?_; rintro e w' ⟨rfl, rfl⟩; rw [hz])
        go_roundw
        case rel => exact ⟨k + 1, by omega, by go_num, R2, BL⟩
        case measure => simp [intOf]; omega
    · obtain rfl : k = fl.length := by omega
      have HT : Hid (fl.take fl.length = fl) := Lib.hid (List.take_of_length_le (Nat.le_refl _))
      rw [HT.out] at HR
      have hcv := by_string HR.out
      rw [show (⟨(flL l fl).toArray⟩ : ByteArray) = str (flL l fl) by unfold str; rfl] at hcv
      go_wp2_with fail
      go_ret
      exact ⟨rfl, BL.out⟩

theorem half_pow : ∀ r, r < 8 → (128 / 2 ^ r : Nat) / 2 = 128 / 2 ^ (r + 1) := by decide
theorem half_le : ∀ r, r < 9 → 128 / 2 ^ r < 256 := by decide
set_option maxRecDepth 100000 in
set_option maxHeartbeats 6400000 in
theorem refFlip_any (l : List UInt8) (v : Value) (fl : List Int) (w : World) (h : InS w v fl) (hl : l.length ≤ 1000000) (hfl : fl.length ≤ 9223372036854775807) :
    Calls Try.prog 57 #[.string (str l), v] w fun e w' => e = .returned (.string (str (flL l fl))) ∧ Below w.heap.size w w' := by
  have H := Lib.hid h
  obtain ⟨a, ca, rfl, hca⟩ := h.form
  clear h
  have hsz := str_size l
  obtain ⟨W1, cap, hcv, hby, hbl⟩ : ∃ W1 cap, (convert 9 51 (.string (str l))).run Try.prog w = .ok (.slice (some ⟨w.heap.size, 0, none⟩) l.length cap) W1 ∧ By w.heap.size W1 (.slice (some ⟨w.heap.size, 0, none⟩) l.length cap) l ∧ Below w.heap.size w W1 := by
    have h := run_bytes_of_string (P := Try.prog) w 9 51 5 (str l) str_kind u8_slice (by kernel_rfl)
    have h2 := By_conv (str l) w _ (grownCap_ge w (str l).size 0 5) (grownCap_le_maxLen w (str l).size 0 _ (by rw [str_size]; unfold maxLen; omega)) w.heap.size (Nat.le_refl _)
    rw [str_size] at h h2
    rw [str_list] at h2
    exact ⟨_, _, h, h2, (Below.refl w.heap.size w).drew.alloc (Nat.le_refl _) _⟩
  have HBY := Lib.hid hby
  have HBL := Lib.hid hbl
  have IW := Lib.hid refIn_any
  clear hby hbl
  go_enter Try.func57, Try.ntmps57
  go_wp2_with fail
  clear hcv
  go_loopw [6] (fun i wr => ∃ k : Nat, k ≤ fl.length ∧ i = .int .i64 k ∧ Hid (By w.heap.size wr (.slice (some ⟨w.heap.size, 0, none⟩) l.length cap) (flL l (fl.take k))) ∧ Hid (Below w.heap.size w wr)) (fun i _ => fl.length - (intOf i).toNat)
  case atStart => exact ⟨0, Nat.zero_le _, rfl, by simpa [flL] using HBY, HBL⟩
  case round =>
    obtain ⟨k, hk, rfl, HR, BL⟩ := hrel
    by_cases hlt : k < fl.length
    · have i0 : (k : Int) < (fl.length : Int) := by omega
      obtain ⟨b1, o1, rfl, hb1, hi1, c1⟩ := (H.out.below BL.out).at hlt
      have HT := Lib.hid (flL_take l fl k hlt)
      have hml := flL_len l (fl.take k)
      generalize flL l (fl.take k) = m at *
      generalize fl[k] = z at *
      have HE : Hid (flip1 m z = if inB z 0 (8 * m.length - 1) then m.set (z.toNat / 8) (flB ((m[z.toNat / 8]?).getD 0) (z.toNat % 8)) else m) := Lib.hid rfl
      rw [hml] at HE
      have hz : inB z 0 (8 * (l.length : Int) - 1) = decide (0 ≤ z ∧ z ≤ 8 * (l.length : Int) - 1) := rfl
      by_cases hin : 0 ≤ z ∧ z ≤ 8 * (l.length : Int) - 1
      · rw [decide_eq_true hin] at hz
        obtain ⟨n, rfl⟩ : ∃ n : Nat, z = (n : Int) := ⟨z.toNat, by omega⟩
        simp only [Int.toNat_natCast] at HE
        rw [hz, if_pos rfl] at HE
        have hj : n / 8 < m.length := by omega
        have hj2 : n / 8 < l.length := by omega
        obtain ⟨f, -, hB, rf, hcm, -, hf⟩ := HR.out.block
        have c2 := rf.cell (i := n / 8) (by omega)
        have f2 := rf.frozen (i := n / 8) (by omega)
        rw [hf (n / 8) hj] at c2
        have R2 := Lib.hid (HR.out.set (n / 8) (flB m[n / 8] (n % 8)))
        have hme : (m[n / 8]?).getD 0 = m[n / 8] := by rw [List.getElem?_eq_getElem hj]; rfl
        rw [hme] at HE
        have B2 := Lib.hid (BL.out.setCell (p := ⟨w.heap.size, n / 8, none⟩) (Nat.le_refl _) (.int .u8 ((flB m[n / 8] (n % 8)).toNat : Nat)))
        have hr8 : n % 8 < 8 := Nat.mod_lt _ (by decide)
        have XF : Hid (bits .xor .u8 (m[n / 8].toNat : Int) ((128 / 2 ^ (n % 8) : Nat) : Int) = ((flB m[n / 8] (n % 8)).toNat : Int)) := Lib.hid (bits_xor_flB m[n / 8] (n % 8))
        have hby := byte_lt m[n / 8]
        have C2 := Lib.hid c2
        have F2 := Lib.hid f2
        clear hme c2 f2 hf rf hcm hB
        go_wp2_with (go_at_call 43; refine (IW.out _ _ _ _).mono ?_; rintro e w' ⟨rfl, rfl⟩; rw [hz])
        obtain ⟨wo, rfl⟩ : ∃ wo : World, wo = wr := ⟨_, rfl⟩
        go_loopw [8, 9] (fun b j wr => ∃ r : Nat, r ≤ n % 8 ∧ j = .int .i64 r ∧ b = .int .u8 ((128 / 2 ^ r : Nat) : Int) ∧ wr = wo) (fun _ j _ => n % 8 - (intOf j).toNat)
        case atStart => exact ⟨0, Nat.zero_le _, rfl, rfl, rfl⟩
        case round =>
          obtain ⟨r, hr, rfl, rfl, rfl⟩ := hrel
          have hrb := half_le r (by omega)
          by_cases hrl : r < n % 8
          · have j0 : (r : Int) < (n : Int) % 8 := by omega
            have HP := Lib.hid (half_pow r (by omega))
            generalize 128 / 2 ^ r = bb at *
            go_wp2_with fail
            go_roundw
            case rel => exact ⟨r + 1, by omega, by go_num, congrArg (Value.int .u8) (by rw [← HP.out]; omega), trivial⟩
            case measure => simp [intOf]; omega
          · obtain rfl : r = n % 8 := by omega
            have j0 : ¬ ((n % 8 : Nat) : Int) < (n : Int) % 8 := by omega
            have c2 := C2.out
            have f2 := F2.out
            generalize hbb : 128 / 2 ^ (n % 8) = bb at *
            go_wp2_with fail
            go_roundw
            case rel => exact ⟨k + 1, by omega, by go_num, Lib.hid (by rw [XF.out, HT.out, HE.out]; exact R2.out), Lib.hid (by rw [XF.out]; exact B2.out)⟩
            case measure => simp [intOf]; omega
      · rw [decide_eq_false hin] at hz
        have R2 : Hid (By w.heap.size wr (.slice (some ⟨w.heap.size, 0, none⟩) l.length cap) (flL l (fl.take (k + 1)))) := Lib.hid (by rw [HT.out, HE.out, hz]; exact HR.out)
        go_wp2_with (go_at_call 43; refine (IW.out _ _ _ _).mono ?_; rintro e w' ⟨rfl, rfl⟩; rw [hz])
        go_roundw
        case rel => exact ⟨k + 1, by omega, by go_num, R2, BL⟩
        case measure => simp [intOf]; omega
    · obtain rfl : k = fl.length := by omega
      have i0 : ¬ (fl.length : Int) < (fl.length : Int) := by omega
      have HT : Hid (fl.take fl.length = fl) := Lib.hid (List.take_of_length_le (Nat.le_refl _))
      rw [HT.out] at HR
      have hcv := by_string HR.out
      rw [show (⟨(flL l fl).toArray⟩ : ByteArray) = str (flL l fl) by unfold str; rfl] at hcv
      go_wp2_with fail
      go_ret
      exact ⟨rfl, BL.out⟩
end Go.Proofs.Ytanillahofohgaa
