/- Layer 5: the law ReadoutUnpacks. -/
import Derived.Test.YtlnllpmjolppbaaRbF
import Derived.Test.YtlnllpmjolppbaaRbG
import Derived.Test.YtlnllpmjolppbaaRbI
set_option linter.unusedVariables false
set_option linter.unusedSimpArgs false
set_option maxRecDepth 100000
namespace Go.Proofs.Ytlnllpmjolppbaa
open Go.RowKit

def unpG (m : List UInt8) : Fr := if unpOk m then unpF m else ⟨0, 0, 0, 0, []⟩
def unpN (m : List UInt8) : Nat := if unpOk m then 20 + 4 * hdN m else 0
def unpE (m : List UInt8) : Int := if unpOk m then 0 else 5
/-- What both answer, at any bytes. -/
theorem UnpPost.both {w w' : World} {m : List UInt8} {e : Ending} (h : UnpPost w m e w') : ∃ v, e = .returned (.tuple #[(unpG m).val v, .int .i64 (unpN m : Nat), .int .i64 (unpE m)]) ∧ HiS w' v (unpG m).hs ∧ Below w.heap.size w w' := by
  obtain ⟨h1, h2, h3⟩ := h
  unfold unpG unpN unpE
  cases ho : unpOk m with
  | true =>
    obtain ⟨v, e1, e2⟩ := h1 ho
    exact ⟨v, e1, e2.hi, h3⟩
  | false => exact ⟨.slice none 0 0, h2 ho, HiS.nil w', h3⟩
theorem unpG_len (m : List UInt8) : (unpG m).hs.length ≤ 65536 := by
  unfold unpG
  cases ho : unpOk m with
  | true =>
    show (rawL (m.drop 18) (hdN m)).length ≤ 65536
    rw [rawL_len]
    have := beV2_lt (m.drop 14)
    unfold hdN
    omega
  | false => exact Nat.zero_le _

set_option maxHeartbeats 6400000 in
theorem unpacks_any (m : List UInt8) (w : World) :
    Calls Try.prog 6 #[.string (str m)] w fun e w' => e = .returned (.bool true) ∧ Below w.heap.size w w' := by
  have hsz := str_size m
  have AW := Lib.hid awake_any
  have hns : (3000 : Int) < (m.length : Int) ∨ ¬ (3000 : Int) < (m.length : Int) := by omega
  rcases hns with i1 | i1
  · go_enter Try.func6, Try.ntmps6
    go_wp2_with (refine (AW.out _).mono ?_; rintro e w2 ⟨rfl, b2⟩)
    go_ret
    exact ⟨rfl, b2⟩
  have U1 := Lib.hid (fun W => (Unpack_any m W (by omega)).mono fun _ _ h => h.both)
  have U2 := Lib.hid (fun W => (refUnpack_any m W (by omega)).mono fun _ _ h => h.both)
  have CR := Lib.hid (fun W => Crc_any (str m) W (by rw [hsz]; unfold maxLen; omega))
  have RC := Lib.hid (fun W => refCrc_any (str m) W (by rw [hsz]; unfold maxLen; omega))
  have hgl := unpG_len m
  have SF := Lib.hid (fun W v1 v2 (h1 : HiS W v1 (unpG m).hs) (h2 : HiS W v2 (unpG m).hs) => SameFrame_same (unpG m) v1 v2 W h1 h2 (by omega))
  have PK := Lib.hid (fun W v1 (h1 : HiS W v1 (unpG m).hs) => Pack_any (unpG m) v1 W h1 (by omega))
  have HG : Hid (∀ v, (unpG m).val v = .agg #[.int .i64 (unpG m).l, .int .i64 (unpG m).s, .int .i64 (unpG m).e, .int .i64 (unpG m).t, v]) := Lib.hid fun _ => rfl
  have HPK : Hid (unpE m = 0 → packErr (unpG m) = 0 ∧ packB (unpG m) = m.take (unpN m) ∧ unpN m ≤ m.length) := Lib.hid fun h => by
    cases ho : unpOk m with
    | false => unfold unpE at h; rw [ho] at h; cases h
    | true =>
      obtain ⟨h1, h2⟩ := unpOk_pack ho
      have h3 := unpOk_len ho
      have g : unpG m = unpF m := by unfold unpG; rw [ho]; rfl
      have n : unpN m = 20 + 4 * hdN m := by unfold unpN; rw [ho]; rfl
      rw [g, n]
      refine ⟨?_, ?_, h3⟩
      · unfold packErr; rw [h1]; rfl
      · unfold packB; rw [h1]; exact h2
  have HE : Hid (unpE m = 0 ∨ unpE m = 5) := Lib.hid (by unfold unpE; split <;> simp)
  generalize hGG : unpG m = G at *
  generalize unpN m = n at *
  generalize unpE m = er at *
  generalize crc0 (str m).data.toList = cc at *
  go_enter Try.func6, Try.ntmps6
  go_wp2_with fail
  refine (U1.out _).mono ?_
  rintro e w1 ⟨v1, rfl, h1, b1⟩
  obtain ⟨a1, l1, e1, _⟩ := h1.form
  subst e1
  rw [HG.out]
  obtain ⟨W2, hW2⟩ : ∃ W, W = w1.alloc (.cells #[.int .i64 G.l, .int .i64 G.s, .int .i64 G.e, .int .i64 G.t, .slice a1 G.hs.length l1] 38) := ⟨_, rfl⟩
  have k2 : Below w1.heap.size w1 W2 := by rw [hW2]; exact (Below.refl _ _).alloc (Nat.le_refl _) _
  have X2 : Hid (Box W2 w1.heap.size G (.slice a1 G.hs.length l1)) := Lib.hid (by rw [hW2]; exact Box.fresh _ _ _)
  have H2 := Lib.hid (h1.below k2)
  have B2 := Lib.hid (Below.up b1 k2)
  clear h1 b1 k2 U1
  go_wp2_with fail
  rw [← hW2]
  clear hW2
  generalize w1.heap.size = x1 at *
  refine (U2.out _).mono ?_
  rintro e w3 ⟨v3, rfl, h3, b3⟩
  obtain ⟨a3, l3, e3, _⟩ := h3.form
  subst e3
  rw [HG.out]
  obtain ⟨W4, hW4⟩ : ∃ W, W = w3.alloc (.cells #[.int .i64 G.l, .int .i64 G.s, .int .i64 G.e, .int .i64 G.t, .slice a3 G.hs.length l3] 38) := ⟨_, rfl⟩
  have k4 : Below w3.heap.size w3 W4 := by rw [hW4]; exact (Below.refl _ _).alloc (Nat.le_refl _) _
  have x4 : Box W4 w3.heap.size G (.slice a3 G.hs.length l3) := by rw [hW4]; exact Box.fresh _ _ _
  have X4 := Lib.hid ((X2.out.below b3).below k4)
  have H4 := Lib.hid ((H2.out.below b3).below k4)
  have B4 := Lib.hid (Below.up (Below.up B2.out b3) k4)
  have SF4 := Lib.hid (SF.out W4 _ _ H4.out (h3.below k4))
  rw [HG.out, HG.out] at SF4
  obtain ⟨c0, c1, c2, c3, c4⟩ := X4.out
  obtain ⟨d0, d1, d2, d3, d4⟩ := x4
  rw [hW4] at c0 c1 c2 c3 c4 d0 d1 d2 d3 d4
  clear h3 b3 k4 U2 X2 H2 B2 SF
  go_wp2_with fail
  rw [← hW4]
  clear hW4 c0 c1 c2 c3 c4 d0 d1 d2 d3 d4
  refine SF4.out.mono ?_
  rintro e w5 ⟨rfl, b5⟩
  have X5 := Lib.hid (X4.out.below b5)
  have H5 := Lib.hid (H4.out.below b5)
  have B5 := Lib.hid (Below.up B4.out b5)
  clear b5 SF4 X4 H4 B4
  have PK5 := Lib.hid (PK.out w5 _ H5.out)
  rw [HG.out] at PK5
  obtain ⟨c0, c1, c2, c3, c4⟩ := X5.out
  rcases HE.out with rfl | rfl
  · obtain ⟨p1, p2, p3⟩ := HPK.out rfl
    rw [p1, p2, show (⟨(m.take n).toArray⟩ : ByteArray) = str (m.take n) by unfold str; rfl] at PK5
    have SL : ∀ W, (Instr.slice 9 (.string (str m)) none (some (.int .i64 (n : Nat))) none).run Try.prog W = .ok (.string (str (m.take n))) W := fun W => by
      rw [run_slice_string_h W 9 (str m) str_kind .i64 ((n : Nat) : Int) (by omega) (by omega), Int.toNat_natCast, str_take]
    clear p1 p2 hGG
    generalize str (m.take n) = pk at *
    go_wp2_with (first
      | (go_at_call 25; refine (CR.out _).mono ?_; rintro e wv ⟨rfl, rfl⟩)
      | (go_at_call 26; refine (RC.out _).mono ?_; rintro e wv ⟨rfl, rfl⟩)
      | (go_at_call 18; refine PK5.out.mono ?_; rintro e w6 ⟨rfl, b6⟩; have B6 := Lib.hid (Below.up B5.out b6); clear b6)
      | (go_at_call 11; refine (AW.out _).mono ?_; rintro e w7 ⟨rfl, b7⟩; have B7 := Lib.hid (Below.up B6.out b7); clear b7))
    go_ret
    exact ⟨rfl, B7.out⟩
  · clear PK5
    go_wp2_with (first
      | (go_at_call 25; refine (CR.out _).mono ?_; rintro e wv ⟨rfl, rfl⟩)
      | (go_at_call 26; refine (RC.out _).mono ?_; rintro e wv ⟨rfl, rfl⟩)
      | (go_at_call 11; refine (AW.out _).mono ?_; rintro e w7 ⟨rfl, b7⟩; have B7 := Lib.hid (Below.up B5.out b7); clear b7))
    go_ret
    exact ⟨rfl, B7.out⟩
end Go.Proofs.Ytlnllpmjolppbaa
