/- Layer 5: Scan of both, rows of frames compared. -/
import Derived.Test.YtanillahofohgaaReB
import Derived.Test.YtanillahofohgaaRbJ
set_option linter.unusedVariables false
set_option linter.unusedSimpArgs false
set_option maxRecDepth 100000
namespace Go.Proofs.Ytanillahofohgaa
open Go.RowKit Go.Shelf

theorem frame_new (w : World) (f : Fr) (x : Value) : (w.alloc (.cells #[.int .i64 f.l, .int .i64 f.s, .int .i64 f.e, .int .i64 f.t, x] 38)).cell? ⟨w.heap.size, 0, none⟩ = some (.int .i64 f.l) ∧ (w.alloc (.cells #[.int .i64 f.l, .int .i64 f.s, .int .i64 f.e, .int .i64 f.t, x] 38)).cell? ⟨w.heap.size, 1, none⟩ = some (.int .i64 f.s) ∧
    (w.alloc (.cells #[.int .i64 f.l, .int .i64 f.s, .int .i64 f.e, .int .i64 f.t, x] 38)).cell? ⟨w.heap.size, 2, none⟩ = some (.int .i64 f.e) ∧ (w.alloc (.cells #[.int .i64 f.l, .int .i64 f.s, .int .i64 f.e, .int .i64 f.t, x] 38)).cell? ⟨w.heap.size, 3, none⟩ = some (.int .i64 f.t) ∧
    (w.alloc (.cells #[.int .i64 f.l, .int .i64 f.s, .int .i64 f.e, .int .i64 f.t, x] 38)).cell? ⟨w.heap.size, 4, none⟩ = some x := Box.fresh w f x
def ScanPost (w : World) (fs : List Fr) (n : Nat) (e : Ending) (w' : World) : Prop := ∃ v, e = .returned (.tuple #[v, .int .i64 (n : Nat)]) ∧ FrS w' v fs ∧ Below w.heap.size w w'
def strLen : Value → Nat
  | .string s => s.size
  | _ => 0
theorem slice_from (m : List UInt8) (i : Nat) (a : Int) (ha : a = (i : Int)) (h : i ≤ m.length) : ∀ W : World, (Instr.slice 9 (.string (str m)) (some (.int .i64 a)) none none).run Try.prog W = .ok (.string (str (m.drop i))) W := fun W => by
  subst ha
  rw [run_slice_string_l W 9 (str m) str_kind .i64 (i : Int) (by omega) (by rw [str_size]; omega)]
  rw [Int.toNat_natCast, str_drop]

set_option maxHeartbeats 6400000 in
theorem refScan_any (m : List UInt8) (fs : List Fr) (n : Nat) (w : World) (hm : m.length ≤ 1000000) (hs : Sc m fs n) :
    Calls Try.prog 28 #[.string (str m)] w (ScanPost w fs n) := by
  have UP := Lib.hid (fun m' (h : m'.length ≤ 1000000) W => (refUnpack_any m' W h))
  have HS := Lib.hid hs
  have hfl : fs.length ≤ m.length ∧ n ≤ m.length := by
    have h1 := hs.sum.1
    have h2 := tot_len fs
    omega
  clear hs
  go_enter Try.func28, Try.ntmps28
  go_wp2_with fail
  go_loopw [0, 4, 5, 6, 7, 8] (fun s l lost _ _ _ wr => ∃ (m' : List UInt8) (done : FVs) (k k' : Nat) (fs' : List Fr), s = .string (str m') ∧ lost = .int .i64 (k : Nat) ∧ Hid (Sc m' fs' k') ∧ Hid (done.map Prod.fst ++ fs' = fs) ∧ Hid (k + k' = n) ∧ m'.length ≤ m.length ∧ Hid (Fo w.heap.size wr l done) ∧ Hid (Below w.heap.size w wr)) (fun s _ _ _ _ _ _ => strLen s)
  case atStart => exact ⟨m, [], 0, n, fs, rfl, rfl, HS, Lib.hid rfl, Lib.hid (by omega), Nat.le_refl _, Lib.hid (Fo.nil _ _), Lib.hid (Below.refl _ _)⟩
  case round =>
    obtain ⟨m', done, k, k', fs', rfl, rfl, HS', HF', HN', hm', HFo, HB⟩ := hrel
    have hsz := str_size m'
    by_cases h0 : 0 < m'.length
    · have i0 : (0 : Int) < (m'.length : Int) := by omega
      have U := Lib.hid (UP.out m' (by omega) wr)
      cases ho : unpOk m' with
      | true =>
        have hul := unpOk_len ho
        obtain ⟨fr, hfr, hsc⟩ : ∃ fr, fs' = unpF m' :: fr ∧ Hid (Sc (m'.drop (20 + 4 * hdN m')) fr k') := by
          obtain ⟨fr, e, h⟩ := HS'.out.of_yes ho
          exact ⟨fr, e, Lib.hid h⟩
        have HFR := Lib.hid hfr
        have U2 := Lib.hid (U.out.mono fun e w' h => show ∃ v, e = .returned (.tuple #[(unpF m').val v, .int .i64 ((20 + 4 * hdN m' : Nat) : Int), .int .i64 0]) ∧ Ho wr.heap.size w' v (unpF m').hs ∧ Below wr.heap.size wr w' from by obtain ⟨v, e1, e2⟩ := h.1 ho; exact ⟨v, e1, e2, h.2.2⟩)
        have SL := slice_from m' (20 + 4 * hdN m') ((20 + 4 * hdN m' : Nat) : Int) rfl hul
        have hdl : (m'.drop (20 + 4 * hdN m')).length < m'.length ∧ (m'.drop (20 + 4 * hdN m')).length ≤ m'.length := by rw [List.length_drop]; omega
        have hdz := str_size (m'.drop (20 + 4 * hdN m'))
        have hdn : done.length ≤ 1000000 := by
          have h2 := congrArg List.length HF'.out
          rw [List.length_append, List.length_map] at h2
          omega
        clear U hfr hul HS' ho
        generalize unpF m' = F at *
        generalize 20 + 4 * hdN m' = used at *
        generalize m'.drop used = md at *
        go_wp2_with fail
        refine U2.out.mono ?_
        rintro e w1 ⟨v1, rfl, h1, b1⟩
        obtain ⟨x, c, e1, _⟩ := h1.hi.form
        subst e1
        unfold Fr.val
        generalize F.hs.length = nn at *
        have hbs : w.heap.size ≤ w1.heap.size := by have := HB.out.size; have := b1.size; omega
        have H1 := Lib.hid (h1.mono HB.out.size)
        have FO1 := Lib.hid (HFo.out.below b1)
        have B1 := Lib.hid (Below.up HB.out b1)
        clear h1 b1 U2 HB HFo
        have kA : Below w1.heap.size w1 (w1.alloc (.cells #[.int .i64 F.l, .int .i64 F.s, .int .i64 F.e, .int .i64 F.t, .slice x nn c] 38)) := Below.alloc (Below.refl _ _) (Nat.le_refl _) _
        have kB : Below (w1.alloc (.cells #[.int .i64 F.l, .int .i64 F.s, .int .i64 F.e, .int .i64 F.t, .slice x nn c] 38)).heap.size (w1.alloc (.cells #[.int .i64 F.l, .int .i64 F.s, .int .i64 F.e, .int .i64 F.t, .slice x nn c] 38)) ((w1.alloc (.cells #[.int .i64 F.l, .int .i64 F.s, .int .i64 F.e, .int .i64 F.t, .slice x nn c] 38)).alloc (.cells #[.int .i64 F.l, .int .i64 F.s, .int .i64 F.e, .int .i64 F.t, .slice x nn c] 38)) := Below.alloc (Below.refl _ _) (Nat.le_refl _) _
        have fn2 := frame_new (w1.alloc (.cells #[.int .i64 F.l, .int .i64 F.s, .int .i64 F.e, .int .i64 F.t, .slice x nn c] 38)) F (.slice x nn c)
        rw [show (w1.alloc (.cells #[.int .i64 F.l, .int .i64 F.s, .int .i64 F.e, .int .i64 F.t, .slice x nn c] 38)).heap.size = w1.heap.size + 1 by simp] at fn2
        have FN2 := Lib.hid fn2
        clear fn2
        have FO2 := Lib.hid ((FO1.out.below kA).below kB)
        have H2 := Lib.hid ((H1.out.below kA).below kB)
        have B2 := Lib.hid (Below.up (Below.up B1.out kA) kB)
        have z2 : w.heap.size ≤ ((w1.alloc (.cells #[.int .i64 F.l, .int .i64 F.s, .int .i64 F.e, .int .i64 F.t, .slice x nn c] 38)).alloc (.cells #[.int .i64 F.l, .int .i64 F.s, .int .i64 F.e, .int .i64 F.t, .slice x nn c] 38)).heap.size := by have := B2.out.size; omega
        have Z2 := Lib.hid z2
        obtain ⟨c0, c1, c2, c3, c4⟩ := frame_new w1 F (.slice x nn c)
        clear kA kB z2
        go_wp2_with (at_builtin; go_loud (refine append_frame rfl _ _ rfl rfl FO2.out _ F x nn c H2.out rfl FN2.out.1 FN2.out.2.1 FN2.out.2.2.1 FN2.out.2.2.2.1 FN2.out.2.2.2.2 (by omega) Z2.out ?_))
        intro v5 w5 h5 b5
        have H5 := Lib.hid h5
        have B5 := Lib.hid (B2.out.trans b5)
        clear h5 b5 c0 c1 c2 c3 c4
        clear FN2 FO2 H2 B2 Z2 FO1 H1 B1
        go_wp2_with fail
        go_roundw
        case rel => exact ⟨md, done ++ [(F, .slice x nn c)], k, k', fr, rfl, rfl, hsc, Lib.hid (by rw [← HF'.out, HFR.out]; simp), HN', by omega, H5, B5⟩
        case measure => show (str md).size < (str m').size; omega
      | false =>
        obtain ⟨k1, hk1, hsc⟩ : ∃ k1, k' = k1 + 1 ∧ Hid (Sc (m'.drop 1) fs' k1) := by
          obtain ⟨k1, e, h⟩ := HS'.out.of_no h0 ho
          exact ⟨k1, e, Lib.hid h⟩
        have U2 := Lib.hid (U.out.mono fun e w' h => show e = .returned (.tuple #[nilFr, .int .i64 0, .int .i64 5]) ∧ Below wr.heap.size wr w' from ⟨h.2.1 ho, h.2.2⟩)
        have SL := slice_from m' 1 1 rfl h0
        have hdl : (m'.drop 1).length < m'.length ∧ (m'.drop 1).length ≤ m'.length := by rw [List.length_drop]; omega
        have hdz := str_size (m'.drop 1)
        have HK := Lib.hid hk1
        have hkn : k ≤ 1000000 := by have := HN'.out; omega
        clear U HS' ho hk1
        generalize m'.drop 1 = md at *
        unfold nilFr at U2
        go_wp2_with fail
        refine U2.out.mono ?_
        rintro e w1 ⟨rfl, b1⟩
        have FO1 := Lib.hid (HFo.out.below b1)
        have B1 := Lib.hid (Below.up HB.out b1)
        clear b1 U2 HB HFo
        go_wp2_with fail
        have kA : Below w1.heap.size w1 (w1.alloc (.cells #[.int .i64 0, .int .i64 0, .int .i64 0, .int .i64 0, .slice none 0 0] 38)) := Below.alloc (Below.refl _ _) (Nat.le_refl _) _
        go_roundw
        case rel => exact ⟨md, done, k + 1, k1, fs', rfl, by go_num, hsc, HF', Lib.hid (by have := HN'.out; have := HK.out; omega), by omega, Lib.hid (FO1.out.below kA), Lib.hid (Below.up B1.out kA)⟩
        case measure => show (str md).size < (str m').size; omega
    · have hm0 : m' = [] := List.eq_nil_of_length_eq_zero (by omega)
      subst hm0
      obtain ⟨e1, e2⟩ := HS'.out.of_nil
      have HE : Hid (done.map Prod.fst = fs ∧ k = n) := Lib.hid ⟨by rw [← HF'.out, e1]; simp, by rw [← HN'.out, e2]; rfl⟩
      clear e1 e2
      go_wp2_with fail
      go_ret2
      exact ⟨u4, by rw [← HE.out.2]; rfl, by rw [← HE.out.1]; exact HFo.out.frS, HB.out⟩
end Go.Proofs.Ytanillahofohgaa
