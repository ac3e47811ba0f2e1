/- Layer 5: is a frame valid? The document's answer. -/
import Derived.Test.YtanillahofohgaaRaL
set_option linter.unusedVariables false
set_option linter.unusedSimpArgs false
namespace Go.Proofs.Ytanillahofohgaa
open Go.RowKit

theorem hitsB_len : ∀ (l : Hits) (b : Int), hitsB b l = true → -1 ≤ b → b < 4096 → (l.length : Int) ≤ 4095 - b
  | [], b, _, h1, h2 => by simp; omega
  | x :: l, b, h, h1, h2 => by
    simp only [hitsB, Bool.and_eq_true] at h
    obtain ⟨h3, h4⟩ := h
    simp only [hitB, Bool.and_eq_true, decide_eq_true_eq] at h3
    have := hitsB_len l x.1 h4 (by omega) (by omega)
    simp only [List.length_cons]
    omega
/-- A frame is valid just if its head's numbers and its hits are. -/
theorem ok_ref (f : Fr) : f.ok = ((inB f.l 0 15 && inB f.s 0 31) && evB f.e f.t && hitsB (-1) f.hs) := by
  unfold Fr.ok headB
  cases h : hitsB (-1) f.hs with
  | false => simp
  | true =>
    have := hitsB_len f.hs (-1) h (by omega) (by omega)
    have e : decide ((f.hs.length : Int) ≤ 4096) = true := decide_eq_true (by omega)
    rw [e, Bool.and_true]

set_option maxRecDepth 100000 in
set_option maxHeartbeats 3200000 in
theorem refCheck_any (f : Fr) (v : Value) (w : World) (h : HiS w v f.hs) (hl : f.hs.length ≤ 1099511627776) :
    Calls Try.prog 21 #[f.val v] w fun en w' => en = .returned (.bool f.ok) ∧ Below w.heap.size w w' := by
  rw [ok_ref]
  obtain ⟨l, s, e, t, hs⟩ := f
  simp only at h hl
  unfold Fr.val
  simp only
  have H := Lib.hid h
  obtain ⟨a, cap, rfl, hc⟩ := h.form
  clear h
  have IW := Lib.hid refIn_any
  have b0 : Below w.heap.size w (w.alloc (.cells #[.int .i64 l, .int .i64 s, .int .i64 e, .int .i64 t, .slice a hs.length cap] 38)) := (Below.refl _ _).alloc (Nat.le_refl _) _
  have r0 : RF (w.alloc (.cells #[.int .i64 l, .int .i64 s, .int .i64 e, .int .i64 t, .slice a hs.length cap] 38)) w.heap.size 38 5 (fun i => ((#[.int .i64 l, .int .i64 s, .int .i64 e, .int .i64 t, .slice a hs.length cap] : Array Value)[i]?).getD default) := RF_new w _ _ 5 _ rfl (fun i hi => by rw [Array.getElem?_eq_getElem hi]; rfl)
  have B0 := Lib.hid b0
  have R0 := Lib.hid r0
  have hz0 : (w.alloc (.cells #[.int .i64 l, .int .i64 s, .int .i64 e, .int .i64 t, .slice a hs.length cap] 38)).heap.size = w.heap.size + 1 := by simp
  clear b0 r0
  unfold evB
  cases h1 : inB l 0 15 with
  | false =>
    go_enter Try.func21, Try.ntmps21
    go_wp2_with (go_at_call 43; refine (IW.out _ _ _ _).mono ?_; rintro e w' ⟨rfl, rfl⟩; rw [h1])
    go_ret
    exact ⟨rfl, B0.out⟩
  | true =>
    cases h2 : inB s 0 31 with
    | false =>
      go_enter Try.func21, Try.ntmps21
      go_wp2_with (go_at_call 43; refine (IW.out _ _ _ _).mono ?_; rintro e w' ⟨rfl, rfl⟩; first | rw [h1] | rw [h2])
      go_ret
      exact ⟨rfl, B0.out⟩
    | true =>
      cases h3 : inB e 0 4294967295 with
      | false =>
        go_enter Try.func21, Try.ntmps21
        go_wp2_with (go_at_call 43; refine (IW.out _ _ _ _).mono ?_; rintro e w' ⟨rfl, rfl⟩; first | rw [h1] | rw [h2] | rw [h3])
        go_ret
        exact ⟨rfl, B0.out⟩
      | true =>
        cases h4 : inB t 0 1099511627776 with
        | false =>
          go_enter Try.func21, Try.ntmps21
          go_wp2_with (go_at_call 43; refine (IW.out _ _ _ _).mono ?_; rintro e w' ⟨rfl, rfl⟩; first | rw [h1] | rw [h2] | rw [h3] | rw [h4])
          go_ret
          exact ⟨rfl, B0.out⟩
        | true =>
          simp only [Bool.true_and]
          go_enter Try.func21, Try.ntmps21
          go_wp2_with (go_at_call 43; refine (IW.out _ _ _ _).mono ?_; rintro e w' ⟨rfl, rfl⟩; first | rw [h1] | rw [h2] | rw [h3] | rw [h4])
          clear h1 h2 h3 h4
          generalize (w.alloc (.cells #[.int .i64 l, .int .i64 s, .int .i64 e, .int .i64 t, .slice a hs.length cap] 38)) = w1 at *
          go_loopw [3] (fun i wr => ∃ (k : Nat) (b : Int), k ≤ hs.length ∧ i = .int .i64 k ∧ Hid (hitsB (-1) hs = hitsB b (hs.drop k)) ∧ Hid (Below w1.heap.size w1 wr) ∧ Hid ((k = 0 ∧ b = -1) ∨ ∃ (j : Nat) (hj : j < hs.length), k = j + 1 ∧ b = (hs[j]).1 ∧ 0 ≤ b)) (fun i _ => hs.length - (intOf i).toNat)
          case atStart => exact ⟨0, -1, Nat.zero_le _, rfl, Lib.hid rfl, Lib.hid (Below.refl _ _), Lib.hid (.inl ⟨rfl, rfl⟩)⟩
          case round =>
            obtain ⟨k, b, hk, rfl, HE, BL, HB⟩ := hrel
            have BB : Hid (Below w.heap.size w wr) := Lib.hid (Below.up B0.out BL.out)
            have g4 : wr.cell? ⟨w.heap.size, 4, none⟩ = some (.slice a hs.length cap) := (R0.out.below BL.out).cell (i := 4) (by omega)
            by_cases hlt : k < hs.length
            · obtain ⟨b1, o1, rfl, hb1, hi1, c1, c1'⟩ := (H.out.below BB.out).at hlt
              have HD := Lib.hid (hitsB_drop b hs k hlt)
              obtain ⟨⟨x1, x2⟩, hxy⟩ : ∃ x, x = hs[k] := ⟨_, rfl⟩
              rw [← hxy] at HD c1 c1' hi1
              have HXY := Lib.hid hxy
              clear hxy
              simp only [I64] at HD c1 c1' hi1
              have D1 := Lib.hid (fun W => (refIn_any x1 0 4095 W).mono (fun _ _ h => (⟨h.1, h.2.symm⟩ : _ ∧ _ = W)))
              have D2 := Lib.hid (fun W => (refIn_any x2 1 4095 W).mono (fun _ _ h => (⟨h.1, h.2.symm⟩ : _ ∧ _ = W)))
              cases h1 : inB x1 0 4095 with
              | false =>
                have hh : hitB b (x1, x2) = false := by
                  have := inB_false.1 h1
                  unfold hitB
                  have hb : -1 ≤ b := by rcases HB.out with ⟨_, e⟩ | ⟨_, _, _, _, e⟩ <;> omega
                  cases h5 : decide (b < x1) <;> cases h6 : decide (x1 < 4096) <;> simp at h5 h6 ⊢
                  omega
                have HH := Lib.hid hh
                clear hh HB
                rw [h1] at D1
                go_wp2_with fail
                go_quiet ((go_at_call 43; first | (with_reducible exact Calls.quiet_of_same (D1.out _)) | (with_reducible exact Calls.quiet_of_same (D2.out _))))
                go_wp2_with fail
                go_ret
                exact ⟨ret_bool (by rw [HE.out, HD.out, HH.out]; rfl), Below.drewN BB.out _⟩
              | true =>
                cases h2 : inB x2 1 4095 with
                | false =>
                  have hh : hitB b (x1, x2) = false := by unfold hitB; rw [h2, Bool.and_false]
                  have HH := Lib.hid hh
                  clear hh HB
                  rw [h1] at D1
                  rw [h2] at D2
                  go_wp2_with fail
                  go_quiet ((go_at_call 43; first | (with_reducible exact Calls.quiet_of_same (D1.out _)) | (with_reducible exact Calls.quiet_of_same (D2.out _))))
                  go_wp2_with fail
                  go_ret
                  exact ⟨ret_bool (by rw [HE.out, HD.out, HH.out]; rfl), Below.drewN BB.out _⟩
                | true =>
                  rcases HB.out with ⟨rfl, rfl⟩ | ⟨j, hj, rfl, rfl, hj0⟩
                  · have hh : hitB (-1) (x1, x2) = true := by
                      have := inB_true.1 h1
                      unfold hitB; rw [h2]; simp; omega
                    have hx0 : 0 ≤ x1 := (inB_true.1 h1).1
                    have HH := Lib.hid hh
                    simp only [Nat.zero_mul, Nat.add_zero] at c1 c1'
                    clear hh HB
                    rw [h1] at D1
                    rw [h2] at D2
                    have HX := Lib.hid (show x1 = (hs[0]).1 by rw [← HXY.out])
                    go_wp2_with fail
                    go_quiet ((go_at_call 43; first | (with_reducible exact Calls.quiet_of_same (D1.out _)) | (with_reducible exact Calls.quiet_of_same (D2.out _))))
                    go_wp2_with fail
                    go_roundw
                    case rel => exact ⟨1, x1, by omega, by go_num, Lib.hid (by rw [HE.out, HD.out, HH.out]; rfl), Lib.hid (Below.drewN BL.out _), Lib.hid (.inr ⟨0, hlt, rfl, HX.out, hx0⟩)⟩
                    case measure => simp [intOf]; omega
                  · obtain ⟨b2, o2, e2, _, hi2, c2, c2'⟩ := (H.out.below BB.out).at hj
                    cases e2
                    obtain ⟨b, hb⟩ : ∃ b, b = (hs[j]).1 := ⟨_, rfl⟩
                    rw [← hb] at HE HD hj0 c2
                    rw [h1] at D1
                    rw [h2] at D2
                    have HBJ := Lib.hid hb
                    have hi2' := hi2.1
                    rw [← hb] at hi2'
                    simp only [I64] at hi2'
                    clear HB hb hi2 c2'
                    have WJ : IntKind.i64.wrap (((j + 1 : Nat) : Int) - 1) = (j : Int) := by rw [IntWalk.i64_in _ (by omega)]; omega
                    by_cases hle : x1 ≤ b
                    · have hh : hitB b (x1, x2) = false := by unfold hitB; simp; omega
                      have HH := Lib.hid hh
                      clear hh
                      go_wp2_with fail
                      go_quiet ((go_at_call 43; first | (with_reducible exact Calls.quiet_of_same (D1.out _)) | (with_reducible exact Calls.quiet_of_same (D2.out _))))
                      go_wp2_with fail
                      go_ret
                      exact ⟨ret_bool (by rw [HE.out, HD.out, HH.out]; rfl), Below.drewN BB.out _⟩
                    · have hh : hitB b (x1, x2) = true := by
                        have := inB_true.1 h1
                        unfold hitB; rw [h2]; simp; omega
                      have HH := Lib.hid hh
                      have hx0 : 0 ≤ x1 := (inB_true.1 h1).1
                      clear hh
                      have HX := Lib.hid (show x1 = (hs[j + 1]).1 by rw [← HXY.out])
                      go_wp2_with fail
                      go_quiet ((go_at_call 43; first | (with_reducible exact Calls.quiet_of_same (D1.out _)) | (with_reducible exact Calls.quiet_of_same (D2.out _))))
                      go_wp2_with fail
                      go_roundw
                      case rel => exact ⟨j + 1 + 1, x1, by omega, by go_num, Lib.hid (by rw [HE.out, HD.out, HH.out]; rfl), Lib.hid (Below.drewN BL.out _), Lib.hid (.inr ⟨j + 1, hlt, rfl, HX.out, hx0⟩)⟩
                      case measure => simp [intOf]; omega
            · obtain rfl : k = hs.length := by omega
              go_wp2_with fail
              go_ret
              exact ⟨ret_bool (by rw [HE.out]; simp [hitsB]), BB.out⟩
end Go.Proofs.Ytanillahofohgaa
