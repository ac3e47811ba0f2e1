/- Words joined. -/
import Derived.Test.YtlegacllbohbmaaDoorCaG
set_option linter.unusedVariables false
set_option linter.unusedSimpArgs false
namespace Go.Proofs.YtlegacllbohbmaaDoor
open Go.RowKit Go.Shelf

/-- The numbers of a line, each behind a space. -/
def numsL (v : Nat → Int) : Nat → List UInt8
  | 0 => []
  | k + 1 => numsL v k ++ (32 :: Lib.itoa (v k))
theorem numsL_len (v : Nat → Int) : ∀ k, (∀ j, j < k → -9223372036854775808 ≤ v j ∧ v j ≤ 9223372036854775807) → (numsL v k).length ≤ 22 * k
  | 0, _ => by simp [numsL]
  | k + 1, h => by
    have := numsL_len v k (fun j hj => h j (by omega))
    have h2 := Lib.itoa_length_le (v k) (h k (by omega)).1 (h k (by omega)).2
    simp [numsL]
    omega
/-- A slice of n numbers. -/
def NumS (w : World) (x : Value) (n : Nat) (v : Nat → Int) : Prop :=
  ∃ a cap, x = .slice a n cap ∧ (∀ k, k < n → -9223372036854775808 ≤ v k ∧ v k ≤ 9223372036854775807) ∧ (0 < n → ∃ b off, a = some ⟨b, off, none⟩ ∧ ∀ k, k < n → w.cell? ⟨b, off + k, none⟩ = some (.int .i64 (v k)))
theorem NumS.below {w w' : World} {x : Value} {n : Nat} {v : Nat → Int} (h : NumS w x n v) (k : Below w.heap.size w w') : NumS w' x n v := by
  obtain ⟨a, cap, rfl, hv, hc⟩ := h
  refine ⟨a, cap, rfl, hv, fun hn => ?_⟩
  obtain ⟨b, off, rfl, hcc⟩ := hc hn
  exact ⟨b, off, rfl, fun j hj => bc k (hcc j hj)⟩

theorem By_conv (s : ByteArray) (w : World) (c : Nat) (hc : s.size ≤ c) (hm : c ≤ maxLen) (B : Nat) (hB : B ≤ w.heap.size) : By B (w.drew.alloc (.cells (bytesRow s c) 5 ((bytesRow s c).size, (bytesRow s c).size + 1))) (.slice (some ⟨w.heap.size, 0, none⟩) s.size c) s.data.toList := by
  have hsz : (bytesRow s c).size = c := by
    have : s.data.size = s.size := rfl
    simp [bytesRow]
    omega
  have hl : s.data.toList.length = s.size := Array.length_toList
  unfold By
  rw [hl, hsz]
  refine ⟨by rw [Lib.byteCells_length, hl, Nat.mul_one], .inr ⟨w.heap.size, c, fun j => ((bytesRow s c)[j]?).getD default, rfl, hB, ⟨bytesRow s c, (c, c + 1), ?_, by rw [hsz, Nat.mul_one], fun j hj h => by simp at h; omega, fun i hi => ?_⟩, hc, hm, fun j hj => ?_⟩⟩
  · exact _root_.Go.heap_alloc_new w.drew _
  · have hi' : i < (bytesRow s c).size := by omega
    show (bytesRow s c)[i]? = some (((bytesRow s c)[i]?).getD default)
    rw [Array.getElem?_eq_getElem hi']
    rfl
  · have hj2 : j < s.size := by omega
    have hj' : j < s.data.size := hj2
    simp [Lib.byteCells, bytesRow, Array.getElem?_append, hj', hj2]
theorem conv_by (s : ByteArray) (w : World) (B : Nat) (hB : B ≤ w.heap.size) (hs : s.size ≤ maxLen) : ∃ v1 W1, (convert 9 27 (.string s)).run Tryd.prog w = .ok v1 W1 ∧ By B W1 v1 s.data.toList ∧ Below w.heap.size w W1 := by
  have h := run_bytes_of_string (P := Tryd.prog) w 9 27 5 s str_kind u8_slice (by kernel_rfl)
  refine ⟨_, _, h, By_conv s w _ (grownCap_ge w s.size 0 _) (grownCap_le_maxLen w s.size 0 _ hs) B hB, ?_⟩
  exact (Below.refl w.heap.size w).drew.alloc (Nat.le_refl _) _
theorem by_string (B : Nat) (W : World) (v : Value) (l : List UInt8) (h : By B W v l) : (convert 27 9 v).run Tryd.prog W = .ok (.string ⟨l.toArray⟩) W := by
  rcases h.2 with ⟨rfl, h0⟩ | ⟨g, cap, f, rfl, _⟩
  · have : l = [] := List.eq_nil_of_length_eq_zero h0
    subst this
    exact run_convert_bytes_nil W 27 5 u8_slice (by kernel_rfl) 0 0 9 str_kind
  · exact run_convert_bytes_back (P := Tryd.prog) W 27 9 5 ⟨g, 0, none⟩ cap l u8_slice (by kernel_rfl) str_kind (fun j hj => h.cells (g := g) rfl j _ (by simp [Lib.byteCells, hj]))

set_option maxHeartbeats 800000 in
set_option maxRecDepth 100000 in
theorem join_any (s : ByteArray) (x : Value) (n : Nat) (v : Nat → Int) (w : World) (hs : s.size ≤ 1000000) (hn : n ≤ 1000000) (hx : NumS w x n v) (htab : Pow w.heap.size w) :
    Calls Tryd.prog 35 #[.string s, x] w fun e w' => e = .returned (.string ⟨(s.data.toList ++ numsL v n).toArray⟩) ∧ Below w.heap.size w w' := by
  obtain ⟨a, cap, rfl, hv, hc⟩ := id hx
  have HX := Lib.hid hx
  have HT := Lib.hid htab
  have HV := Lib.hid hv
  have HC := Lib.hid hc
  clear hx htab hv hc
  obtain ⟨v1, W1, hcv, hby, hbl⟩ := conv_by s w w.heap.size (Nat.le_refl _) (by unfold maxLen; omega)
  have HB := Lib.hid hby
  have BL := Lib.hid hbl
  have sz : s.data.toList.length = s.size := Array.length_toList
  have SZ := Lib.hid sz
  clear hby hbl sz
  go_enter Tryd.func35, Tryd.ntmps35
  go_wp2_with fail
  clear hcv
  go_loopw [5, 12] (fun b i wr => ∃ k : Nat, k ≤ n ∧ i = .int .i64 k ∧ Hid (By w.heap.size wr b (s.data.toList ++ numsL v k)) ∧ Hid (Below w.heap.size w wr)) (fun _ i _ => n - (intOf i).toNat)
  case atStart => exact ⟨0, Nat.zero_le _, rfl, Lib.hid (by rw [numsL, List.append_nil]; exact HB.out), BL⟩
  case round =>
    clear HB BL
    obtain ⟨k, hk, rfl, HB, BL⟩ := hrel
    have hsz := BL.out.size
    have hnl := numsL_len v k (fun j hj => HV.out j (by omega))
    by_cases hlt : k < n
    · obtain ⟨b0, off, rfl, hcc⟩ := HC.out (by omega)
      have cc := bc BL.out (hcc k hlt)
      obtain ⟨z0, z1⟩ := HV.out k hlt
      have HN : Hid (numsL v (k + 1) = numsL v k ++ (32 :: Lib.itoa (v k))) := Lib.hid rfl
      clear hcc
      generalize v k = z at *
      have SZ' := SZ.out
      go_wp2_with (at_builtin; refine append_byte rfl _ _ rfl 32 32 rfl rfl HB.out rfl (by rw [List.length_append, SZ.out]; omega) hsz ?_)
      intro v2 w2 h2 b2 _
      have H2 := Lib.hid h2
      have B2 := Lib.hid b2
      have hsz2 := b2.size
      clear h2 b2
      go_wp2_with fail
      refine (AppendInt_any w.heap.size z z0 z1 v2 _ w2 H2.out (by omega) (by rw [List.length_append, List.length_append, SZ.out]; simp; omega) (HT.out.on (BL.out.trans B2.out))).mono ?_
      rintro e w3 ⟨v3, rfl, h3, b3⟩
      have H3 := Lib.hid h3
      have B3 := Lib.hid b3
      clear h3 b3 cc
      go_wp2_with fail
      go_roundw
      case rel =>
        refine ⟨k + 1, by omega, by go_num, Lib.hid ?_, Lib.hid (BL.out.trans (B2.out.trans B3.out))⟩
        rw [HN.out]
        have := H3.out
        rw [List.append_assoc, List.append_assoc] at this
        exact this
      case measure => simp [intOf]; omega
    · obtain rfl : k = n := by omega
      have hcv2 := by_string _ _ _ _ HB.out
      go_wp2_with fail
      go_ret
      exact ⟨rfl, BL.out⟩
end Go.Proofs.YtlegacllbohbmaaDoor
