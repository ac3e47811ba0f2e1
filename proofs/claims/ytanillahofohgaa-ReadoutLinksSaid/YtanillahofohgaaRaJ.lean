/- Layer 5: frames as bytes: the writer's numbers, the hits, the checks. -/
import Derived.Test.YtanillahofohgaaRaI
import Derived.Laws.IdiomStrings
set_option linter.unusedVariables false
set_option linter.unusedSimpArgs false
namespace Go.Proofs.Ytanillahofohgaa
open Go.RowKit

theorem by_string {B : Nat} {W : World} {v : Value} {l : List UInt8} (h : By B W v l) : (convert 51 9 v).run Try.prog W = .ok (.string ⟨l.toArray⟩) W := by
  rcases h.2 with ⟨rfl, h0⟩ | ⟨g, cap, f, rfl, _⟩
  · have : l = [] := List.eq_nil_of_length_eq_zero h0
    subst this
    exact run_convert_bytes_nil W 51 5 u8_slice (by kernel_rfl) 0 0 9 str_kind
  · exact run_convert_bytes_back (P := Try.prog) W 51 9 5 ⟨g, 0, none⟩ cap l u8_slice (by kernel_rfl) str_kind (fun j hj => Rw.cells h (g := g) rfl j _ (by simp [Lib.byteCells, hj]))
theorem size_str (l : List UInt8) : (⟨l.toArray⟩ : ByteArray).size = l.length := by show l.toArray.size = _; simp
theorem cat_size (a b : ByteArray) : (a ++ b).data.toList = a.data.toList ++ b.data.toList := by rw [ByteArray.data_append]; simp
theorem add_str (a b c : ByteArray) (h : c = a ++ b) (hs : c.size ≤ 9223372036854775807) : ∀ W : World, (Op.stringOp .add a b).run Try.prog W = .ok (.string c) W := fun W => by
  rw [run_string_add_if, if_neg (by rw [h, ByteArray.size_append] at hs; omega), h]
theorem By.below {B : Nat} {w w' : World} {v : Value} {l : List UInt8} (h : By B w v l) (k : Below w.heap.size w w') : By B w' v l := Rw.below h k

theorem Wr.below {b r : Nat} {w0 w w' : World} {l : List UInt8} (h : Wr b r w0 w l) (k : Below w.heap.size w w') : Wr b r w0 w' l := by
  obtain ⟨v, rf, hy, ho, bl, hk⟩ := h
  have := bl.size
  exact ⟨v, rf.below k, hy.below k, ho, bl.trans (k.mono (Nat.zero_le _)), fun j h1 h2 h3 => (k.block j (by omega)).trans (hk j h1 h2 h3)⟩
theorem Wr.rebase {b r : Nat} {w0 w : World} {l : List UInt8} (h : Wr b r w0 w l) : ∃ r', r' < w.heap.size ∧ (r' = b ∨ r' = r ∨ w0.heap.size ≤ r') ∧ ∀ W, Below w.heap.size w W → Wr b r' W W l := by
  obtain ⟨v, rf, hy, ho, bl, hk⟩ := h
  cases hv : v.ownBlock with
  | none => exact ⟨b, rf.lt, .inl rfl, fun W k => ⟨v, rf.below k, hy.below k, (fun g hg => by rw [hv] at hg; cases hg), Below.refl _ _, fun _ _ _ _ => rfl⟩⟩
  | some g =>
    refine ⟨g, (Rw.lt hy g hv).2, ?_, fun W k => ⟨v, rf.below k, hy.below k, (fun g' hg => by rw [hv] at hg; cases hg; exact .inl rfl), Below.refl _ _, fun _ _ _ _ => rfl⟩⟩
    rcases ho g hv with h | h
    · exact .inr (.inl h)
    · exact .inr (.inr h)
theorem Wr.trans {b r r' : Nat} {w0 w W w' : World} {l l' : List UInt8} (h : Wr b r w0 w l) (k : Below w.heap.size w W) (h' : Wr b r' W w' l') (hr : r' = b ∨ r' = r ∨ w0.heap.size ≤ r') (hb : b < w0.heap.size ∨ b = r) : Wr b r w0 w' l' := by
  obtain ⟨v, rf, hy, ho, bl, hk⟩ := h
  obtain ⟨v', rf', hy', ho', bl', hk'⟩ := h'
  have z1 := bl.size
  have z2 := k.size
  refine ⟨v', rf', hy', fun g hg => ?_, (bl.trans (k.mono (Nat.zero_le _))).trans bl', fun j h1 h2 h3 => ?_⟩
  · rcases ho' g hg with e | e
    · subst e
      rcases hr with e | e | e
      · subst e
        have := (Rw.kind hy' _ hg)
        obtain ⟨c, fz, e1⟩ := this
        obtain ⟨c2, fz2, e2⟩ := rf'.kind
        rw [e1] at e2
        cases e2
      · exact .inl e
      · exact .inr e
    · right; omega
  · rw [hk' j (by omega) h2 (by rcases hr with e | e | e <;> omega), k.block j (by omega), hk j h1 h2 h3]
theorem Wr.done {b r B : Nat} {w0 w : World} {l : List UInt8} (h : Wr b r w0 w l) (hb : B ≤ b) (hr : B ≤ r) (hB : B ≤ w0.heap.size) : Below B w0 w := by
  obtain ⟨v, rf, hy, ho, bl, hk⟩ := h
  exact ⟨bl.os, bl.tape, bl.output, bl.size, fun k hkB => hk k (by omega) (by omega) (by omega)⟩
theorem Wr.lt {b r : Nat} {w0 w : World} {l : List UInt8} (h : Wr b r w0 w l) : b < w.heap.size := by
  obtain ⟨v, rf, _⟩ := h
  exact rf.lt

theorem Wr.keep {b r : Nat} {w0 w : World} {l : List UInt8} (h : Wr b r w0 w l) {k : Nat} (h1 : k < w0.heap.size) (h2 : k ≠ b) (h3 : k ≠ r) : w.heap[k]? = w0.heap[k]? := by
  obtain ⟨v, rf, hy, ho, bl, hk⟩ := h
  exact hk k h1 h2 h3
theorem Wr.cell {b r : Nat} {w0 w : World} {l : List UInt8} (h : Wr b r w0 w l) {k o : Nat} {v : Value} (hc : w0.cell? ⟨k, o, none⟩ = some v) (h2 : k ≠ b) (h3 : k ≠ r) : w.cell? ⟨k, o, none⟩ = some v :=
  (World.cell?_of_block (w := w0) (h.keep (cell_lt hc) h2 h3)).trans hc

theorem one_any (b r : Nat) (w0 w : World) (l : List UInt8) (n : Nat) (hw : Wr b r w0 w l) (hn : n < 9223372036854775808) (hl : l.length ≤ 1000000000) :
    Calls Try.prog 61 #[.pointer (some ⟨b, 0, none⟩), .int .i64 (n : Nat)] w fun e w' => e = .returned (.tuple #[]) ∧ Wr b r w0 w' (l ++ beL n 1) := by
  have H := Lib.hid (write_any b r w0 w l n 1 hw hn (by omega) hl)
  clear hw
  go_enter Try.func61, Try.ntmps61
  go_wp2_with (go_at_call 74; refine H.out.mono ?_; rintro e w' ⟨rfl, h1⟩; have H1 := Lib.hid h1; clear h1)
  go_end0
  exact ⟨rfl, H1.out⟩
theorem two_any (b r : Nat) (w0 w : World) (l : List UInt8) (n : Nat) (hw : Wr b r w0 w l) (hn : n < 9223372036854775808) (hl : l.length ≤ 1000000000) :
    Calls Try.prog 64 #[.pointer (some ⟨b, 0, none⟩), .int .i64 (n : Nat)] w fun e w' => e = .returned (.tuple #[]) ∧ Wr b r w0 w' (l ++ beL n 2) := by
  have H := Lib.hid (write_any b r w0 w l n 2 hw hn (by omega) hl)
  clear hw
  go_enter Try.func64, Try.ntmps64
  go_wp2_with (go_at_call 74; refine H.out.mono ?_; rintro e w' ⟨rfl, h1⟩; have H1 := Lib.hid h1; clear h1)
  go_end0
  exact ⟨rfl, H1.out⟩
theorem four_any (b r : Nat) (w0 w : World) (l : List UInt8) (n : Nat) (hw : Wr b r w0 w l) (hn : n < 9223372036854775808) (hl : l.length ≤ 1000000000) :
    Calls Try.prog 62 #[.pointer (some ⟨b, 0, none⟩), .int .i64 (n : Nat)] w fun e w' => e = .returned (.tuple #[]) ∧ Wr b r w0 w' (l ++ beL n 4) := by
  have H := Lib.hid (write_any b r w0 w l n 4 hw hn (by omega) hl)
  clear hw
  go_enter Try.func62, Try.ntmps62
  go_wp2_with (go_at_call 74; refine H.out.mono ?_; rintro e w' ⟨rfl, h1⟩; have H1 := Lib.hid h1; clear h1)
  go_end0
  exact ⟨rfl, H1.out⟩
theorem six_any (b r : Nat) (w0 w : World) (l : List UInt8) (n : Nat) (hw : Wr b r w0 w l) (hn : n < 9223372036854775808) (hl : l.length ≤ 1000000000) :
    Calls Try.prog 63 #[.pointer (some ⟨b, 0, none⟩), .int .i64 (n : Nat)] w fun e w' => e = .returned (.tuple #[]) ∧ Wr b r w0 w' (l ++ beL n 6) := by
  have H := Lib.hid (write_any b r w0 w l n 6 hw hn (by omega) hl)
  clear hw
  go_enter Try.func63, Try.ntmps63
  go_wp2_with (go_at_call 74; refine H.out.mono ?_; rintro e w' ⟨rfl, h1⟩; have H1 := Lib.hid h1; clear h1)
  go_end0
  exact ⟨rfl, H1.out⟩

/-- What is sealed: with its check behind it. -/
def shutL (l : List UInt8) : List UInt8 := l ++ beL (crc0 l) 2
theorem shutL_len (l : List UInt8) : (shutL l).length = l.length + 2 := by unfold shutL; rw [List.length_append, beL_len]
theorem sealed_any (b r : Nat) (w0 w : World) (l : List UInt8) (hw : Wr b r w0 w l) (hl : l.length ≤ 1000000000) :
    Calls Try.prog 65 #[.pointer (some ⟨b, 0, none⟩)] w fun e w' => e = .returned (.string ⟨(shutL l).toArray⟩) ∧ Wr b r w0 w' (shutL l) := by
  have HT := Lib.hid (two_any b r w0 w l (crc0 l) hw (by have := crc0_lt l; omega) hl)
  obtain ⟨v, rf, hy, _⟩ := hw
  obtain ⟨va, vn, vc, rfl⟩ := hy.form
  have c0 := rf.cell (i := 0) (by omega)
  have hcv := by_string hy
  obtain ⟨s, hs⟩ : ∃ s : ByteArray, s = ⟨l.toArray⟩ := ⟨_, rfl⟩
  rw [← hs] at hcv
  have hcr : Hid (crc0 s.data.toList = crc0 l) := Lib.hid (by rw [hs])
  have hsz : s.size ≤ 1000000000 := by rw [hs, size_str]; exact hl
  have HC := Lib.hid (Crc_any s w (by unfold maxLen; omega))
  rw [hcr.out] at HC
  clear hs rf hy hcr
  go_enter Try.func65, Try.ntmps65
  go_wp2_with (first
    | (go_at_call 25; refine HC.out.mono ?_; rintro e w' ⟨rfl, rfl⟩)
    | (go_at_call 64; refine HT.out.mono ?_; rintro e w1 ⟨rfl, h1⟩; have H1 := Lib.hid h1; clear h1; obtain ⟨v1, rf1, hy1, hr1⟩ := H1.out; obtain ⟨v1a, v1n, v1c, rfl⟩ := hy1.form; have c1 := rf1.cell (i := 0) (by omega); have hcv1 := by_string hy1; clear c0 hcv rf1 hy1 hr1))
  go_ret
  exact ⟨rfl, H1.out⟩
end Go.Proofs.Ytanillahofohgaa
