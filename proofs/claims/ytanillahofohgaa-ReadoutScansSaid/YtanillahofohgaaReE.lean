/- Layer 5: the program's Scan; rows of frames compared. -/
import Derived.Deep.LoopGhost
import Derived.Test.YtanillahofohgaaReD
set_option linter.unusedVariables false
set_option linter.unusedSimpArgs false
set_option maxRecDepth 100000
namespace Go.Proofs.Ytanillahofohgaa
open Go.RowKit Go.Shelf

set_option maxHeartbeats 6400000 in
theorem Scan_any (m : List UInt8) (fs : List Fr) (n : Nat) (w : World) (hm : m.length ≤ 1000000) (hs : Sc m fs n) :
    Calls Try.prog 27 #[.string (str m)] w (ScanPost w fs n) := by
  have UP := Lib.hid (fun m' (h : m'.length ≤ 1000000) W => (Unpack_any m' W (by omega)))
  have HS := Lib.hid hs
  have hfl : fs.length ≤ m.length ∧ n ≤ m.length := by
    have h1 := hs.sum.1
    have h2 := tot_len fs
    omega
  clear hs
  go_enter Try.func27, Try.ntmps27
  go_wp2_with fail
  go_step3
  go_wp2_with fail
  go_step3
  go_wp2_with fail
  go_loopg [0, 2, 3] (m.length + 1) (fun g s l lost wr => ∃ (m' : List UInt8) (done : FVs) (k k' : Nat) (fs' : List Fr), s = .string (str m') ∧ lost = .int .i64 (k : Nat) ∧ Hid (Sc m' fs' k') ∧ Hid (done.map Prod.fst ++ fs' = fs) ∧ Hid (k + k' = n) ∧ (m'.length ≤ m.length ∧ m'.length < g) ∧ Hid (Fo w.heap.size wr l done) ∧ Hid (Below w.heap.size w wr))
  case atStart => exact ⟨m, [], 0, n, fs, rfl, rfl, HS, Lib.hid rfl, Lib.hid (by omega), ⟨Nat.le_refl _, by omega⟩, Lib.hid (Fo.nil _ _), Lib.hid (Below.refl _ _)⟩
  case round =>
    obtain ⟨m', done, k, k', fs', rfl, rfl, HS', HF', HN', ⟨hm', hmg⟩, HFo, HB⟩ := hrel
    obtain ⟨wo, rfl⟩ : ∃ wo : World, wo = wr := ⟨_, rfl⟩
    obtain ⟨go, rfl⟩ : ∃ go : Nat, go = gk := ⟨_, rfl⟩
    have hsz := str_size m'
    go_wp2_with fail
    go_loopg [0, 2, 3, 10] m'.length (fun g s l lost i wr => ∃ j : Nat, j + g = m'.length ∧ s = .string (str m') ∧ l = u2 ∧ lost = .int .i64 (k : Nat) ∧ i = .int .i64 j ∧ Hid (∀ i, i < j → unpOk (m'.drop i) = false) ∧ Hid (Fo w.heap.size wr l done) ∧ Hid (Below w.heap.size w wr))
    case atStart => exact ⟨0, by omega, rfl, rfl, rfl, rfl, Lib.hid (fun i hi => absurd hi (Nat.not_lt_zero i)), HFo, HB⟩
    case round =>
      obtain ⟨j, hj, rfl, rfl, rfl, rfl, HJ, HFo, HB⟩ := hrel
      cases gk with
      | zero =>
        obtain ⟨n', e1, e2⟩ := HS'.out.skip m'.length (Nat.le_refl _) (fun i hi => HJ.out i (by omega))
        rw [List.drop_length] at e2
        obtain ⟨e3, e4⟩ := e2.of_nil
        have HE : Hid (done.map Prod.fst = fs ∧ k + m'.length = n) := Lib.hid ⟨by rw [← HF'.out, e3]; simp, by have := HN'.out; omega⟩
        have hkb : k + m'.length ≤ 1000000 := by have := HE.out.2; omega
        have hjz : ¬ ((j : Int) < (m'.length : Int)) := by omega
        clear e1 e2 e3 e4
        go_wp2_with fail
        try rw [Exit.noGoto_ret]
        go_ret2
        exact ⟨u2, by rw [← HE.out.2]; rfl, by rw [← HE.out.1]; exact HFo.out.frS, HB.out⟩
      | succ g2 =>
        have hjz : (j : Int) < (m'.length : Int) := by omega
        have SJ := slice_from m' j (j : Int) rfl (by omega)
        have hjl : (m'.drop j).length = m'.length - j := List.length_drop
        have U := Lib.hid (UP.out (m'.drop j) (by omega) wr)
        have hkb : k + j ≤ 1000000 := by
          obtain ⟨n', e1, -⟩ := HS'.out.skip j (by omega) HJ.out
          have := HN'.out
          omega
        cases ho : unpOk (m'.drop j) with
        | true =>
          have hul := unpOk_len ho
          obtain ⟨n', e1, e2⟩ := HS'.out.skip j (by omega) HJ.out
          obtain ⟨fr, hfr, hsc⟩ : ∃ fr, fs' = unpF (m'.drop j) :: fr ∧ Hid (Sc (m'.drop (j + (20 + 4 * hdN (m'.drop j)))) fr n') := by
            obtain ⟨fr, e, h⟩ := e2.of_yes ho
            rw [List.drop_drop] at h
            exact ⟨fr, e, Lib.hid h⟩
          have HFR := Lib.hid hfr
          have HK := Lib.hid (show (k + j) + n' = n by have := HN'.out; omega)
          have U2 := Lib.hid (U.out.mono fun e w' h => show ∃ v, e = .returned (.tuple #[(unpF (m'.drop j)).val v, .int .i64 ((20 + 4 * hdN (m'.drop j) : Nat) : Int), .int .i64 0]) ∧ Ho wr.heap.size w' v (unpF (m'.drop j)).hs ∧ Below wr.heap.size wr w' from by obtain ⟨v, e1, e2⟩ := h.1 ho; exact ⟨v, e1, e2, h.2.2⟩)
          have SL := slice_from m' (j + (20 + 4 * hdN (m'.drop j))) ((j : Int) + ((20 + 4 * hdN (m'.drop j) : Nat) : Int)) (by omega) (by omega)
          have hdl : (m'.drop (j + (20 + 4 * hdN (m'.drop j)))).length < m'.length := by rw [List.length_drop]; omega
          have hdz := str_size (m'.drop (j + (20 + 4 * hdN (m'.drop j))))
          have hub : 20 + 4 * hdN (m'.drop j) ≤ 1000000 := by omega
          have hdn : done.length ≤ 1000000 := by
            have h2 := congrArg List.length HF'.out
            rw [List.length_append, List.length_map] at h2
            omega
          clear U hfr hul e1 e2 HJ ho HN'
          generalize unpF (m'.drop j) = F at *
          generalize 20 + 4 * hdN (m'.drop j) = used at *
          generalize m'.drop (j + used) = md at *
          generalize m'.drop j = mj at *
          go_wp2_with fail
          refine U2.out.mono ?_
          rintro e w1 ⟨v1, rfl, h1, b1⟩
          obtain ⟨x, c, e1, _⟩ := h1.hi.form
          subst e1
          unfold Fr.val
          generalize F.hs.length = nn at *
          have H1 := Lib.hid (h1.mono HB.out.size)
          have FO1 := Lib.hid (HFo.out.below b1)
          have B1 := Lib.hid (Below.up HB.out b1)
          clear h1 b1 U2 HB HFo
          have kA : Below w1.heap.size w1 (w1.alloc (.cells #[.int .i64 F.l, .int .i64 F.s, .int .i64 F.e, .int .i64 F.t, .slice x nn c] 38)) := Below.alloc (Below.refl _ _) (Nat.le_refl _) _
          have kB : Below (w1.alloc (.cells #[.int .i64 F.l, .int .i64 F.s, .int .i64 F.e, .int .i64 F.t, .slice x nn c] 38)).heap.size (w1.alloc (.cells #[.int .i64 F.l, .int .i64 F.s, .int .i64 F.e, .int .i64 F.t, .slice x nn c] 38)) ((w1.alloc (.cells #[.int .i64 F.l, .int .i64 F.s, .int .i64 F.e, .int .i64 F.t, .slice x nn c] 38)).alloc (.cells #[.int .i64 F.l, .int .i64 F.s, .int .i64 F.e, .int .i64 F.t, .slice x nn c] 38)) := Below.alloc (Below.refl _ _) (Nat.le_refl _) _
          have fn2 := frame_new (w1.alloc (.cells #[.int .i64 F.l, .int .i64 F.s, .int .i64 F.e, .int .i64 F.t, .slice x nn c] 38)) F (.slice x nn c)
          rw [show (w1.alloc (.cells #[.int .i64 F.l, .int .i64 F.s, .int .i64 F.e, .int .i64 F.t, .slice x nn c] 38)).heap.size = w1.heap.size + 1 by simp] at fn2
          have FN2 := Lib.hid fn2
          clear fn2
          have FO2 := Lib.hid ((FO1.out.below kA).below kB)
          have H2 := Lib.hid ((H1.out.below kA).below kB)
          have B2 := Lib.hid (Below.up (Below.up B1.out kA) kB)
          have Z2 := Lib.hid B2.out.size
          obtain ⟨c0, c1, c2, c3, c4⟩ := frame_new w1 F (.slice x nn c)
          clear kA kB
          go_wp2_with (at_builtin; refine append_frame rfl _ _ rfl rfl FO2.out _ F x nn c H2.out rfl FN2.out.1 FN2.out.2.1 FN2.out.2.2.1 FN2.out.2.2.2.1 FN2.out.2.2.2.2 (by omega) Z2.out ?_)
          intro v5 w5 h5 b5
          have H5 := Lib.hid h5
          have B5 := Lib.hid (B2.out.trans b5)
          clear h5 b5 c0 c1 c2 c3 c4
          clear FN2 FO2 H2 B2 Z2 FO1 H1 B1
          go_wp2_with fail
          go_roundg (go - 1)
          case measure => omega
          case rel => exact ⟨md, done ++ [(F, .slice x nn c)], k + j, n', fr, rfl, by go_num, hsc, Lib.hid (by rw [← HF'.out, HFR.out]; simp), HK, ⟨by omega, by omega⟩, H5, B5⟩
        | false =>
          have HJ2 : Hid (∀ i, i < j + 1 → unpOk (m'.drop i) = false) := Lib.hid fun i hi => by
            by_cases hij : i < j
            · exact HJ.out i hij
            · obtain rfl : i = j := by omega
              exact ho
          have U2 := Lib.hid (U.out.mono fun e w' h => show e = .returned (.tuple #[nilFr, .int .i64 0, .int .i64 5]) ∧ Below wr.heap.size wr w' from ⟨h.2.1 ho, h.2.2⟩)
          clear U ho HJ
          generalize m'.drop j = mj at *
          unfold nilFr at U2
          go_wp2_with fail
          refine U2.out.mono ?_
          rintro e w1 ⟨rfl, b1⟩
          have FO1 := Lib.hid (HFo.out.below b1)
          have B1 := Lib.hid (Below.up HB.out b1)
          clear b1 U2 HB HFo
          go_wp2_with fail
          have kA : Below w1.heap.size w1 (w1.alloc (.cells #[.int .i64 0, .int .i64 0, .int .i64 0, .int .i64 0, .slice none 0 0] 38)) := Below.alloc (Below.refl _ _) (Nat.le_refl _) _
          go_roundg g2
          case measure => omega
          case rel => exact ⟨j + 1, by omega, rfl, rfl, rfl, by go_num, HJ2, Lib.hid (FO1.out.below kA), Lib.hid (Below.up B1.out kA)⟩
end Go.Proofs.Ytanillahofohgaa
