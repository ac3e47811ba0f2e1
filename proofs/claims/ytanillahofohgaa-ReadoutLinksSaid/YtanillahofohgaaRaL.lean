/- Layer 5: is a frame valid? -/
import Derived.Test.YtanillahofohgaaRaK
set_option linter.unusedVariables false
set_option linter.unusedSimpArgs false
namespace Go.Proofs.Ytanillahofohgaa
open Go.RowKit

def hitB (b : Int) (x : Int × Int) : Bool := decide (b < x.1) && decide (x.1 < 4096) && inB x.2 1 4095
def hitsB : Int → Hits → Bool
  | _, [] => true
  | b, x :: l => hitB b x && hitsB x.1 l
theorem hitsB_drop (b : Int) (l : Hits) (k : Nat) (h : k < l.length) : hitsB b (l.drop k) = (hitB b l[k] && hitsB (l[k]).1 (l.drop (k + 1))) := by
  rw [List.drop_eq_getElem_cons h]; rfl
def evB (e t : Int) : Bool := inB e 0 4294967295 && inB t 0 1099511627776
def headB (l s e t h : Int) : Bool := (inB l 0 15 && inB s 0 31) && evB e t && decide (h ≤ 4096)
/-- A frame but for its hits. -/
structure Fr where
  l : Int
  s : Int
  e : Int
  t : Int
  hs : Hits
def Fr.val (f : Fr) (v : Value) : Value := .agg #[.int .i64 f.l, .int .i64 f.s, .int .i64 f.e, .int .i64 f.t, v]
def Fr.ok (f : Fr) : Bool := headB f.l f.s f.e f.t f.hs.length && hitsB (-1) f.hs

theorem isHit_any (b x1 x2 : Int) (w : World) :
    Calls Try.prog 49 #[.agg #[.int .i64 x1, .int .i64 x2], .int .i64 b] w fun e w' => e = .returned (.bool (hitB b (x1, x2))) ∧ Below w.heap.size w w' := by
  have IW := Lib.hid isWithin_any
  have HB : Hid (Below w.heap.size w (w.alloc (.cells #[.int .i64 x1, .int .i64 x2] 35))) := Lib.hid ((Below.refl _ _).alloc (Nat.le_refl _) _)
  by_cases h1 : b < x1
  · by_cases h2 : x1 < 4096
    · have e : Hid (hitB b (x1, x2) = inB x2 1 4095) := Lib.hid (by simp [hitB, h1, h2])
      go_enter Try.func49, Try.ntmps49
      go_wp2_with (go_at_call 41; refine (IW.out _ _ _ _).mono ?_; rintro e w' ⟨rfl, rfl⟩)
      go_ret
      exact ⟨ret_bool (by rw [e.out]), HB.out⟩
    · have e : Hid (hitB b (x1, x2) = false) := Lib.hid (by simp [hitB, h1, h2])
      go_enter Try.func49, Try.ntmps49
      go_wp2_with fail
      go_ret
      exact ⟨ret_bool (by rw [e.out]), HB.out⟩
  · have e : Hid (hitB b (x1, x2) = false) := Lib.hid (by simp [hitB, h1])
    go_enter Try.func49, Try.ntmps49
    go_wp2_with fail
    go_ret
    exact ⟨ret_bool (by rw [e.out]), HB.out⟩
theorem isEvent_any (e t : Int) (w : World) :
    Calls Try.prog 66 #[.int .i64 e, .int .i64 t] w fun en w' => en = .returned (.bool (evB e t)) ∧ w = w' := by
  have IW := Lib.hid isWithin_any
  cases h1 : inB e 0 4294967295 with
  | true =>
    have ee : Hid (evB e t = inB t 0 1099511627776) := Lib.hid (by simp [evB, h1])
    go_enter Try.func66, Try.ntmps66
    go_wp2_with (go_at_call 41; refine (IW.out _ _ _ _).mono ?_; rintro e w' ⟨rfl, rfl⟩; try rw [h1])
    go_ret
    exact ⟨ret_bool (by rw [ee.out]), rfl⟩
  | false =>
    have ee : Hid (evB e t = false) := Lib.hid (by simp [evB, h1])
    go_enter Try.func66, Try.ntmps66
    go_wp2_with (go_at_call 41; refine (IW.out _ _ _ _).mono ?_; rintro e w' ⟨rfl, rfl⟩; try rw [h1])
    go_ret
    exact ⟨ret_bool (by rw [ee.out]), rfl⟩
set_option maxRecDepth 20000 in
theorem isHead_any (l s e t h : Int) (va : Option Addr) (vn vc : Nat) (w : World) :
    Calls Try.prog 48 #[.agg #[.int .i64 l, .int .i64 s, .int .i64 e, .int .i64 t, .slice va vn vc], .int .i64 h] w fun en w' => en = .returned (.bool (headB l s e t h)) ∧ Below w.heap.size w w' := by
  have IW := Lib.hid isWithin_any
  have IE := Lib.hid isEvent_any
  have HB : Hid (Below w.heap.size w (w.alloc (.cells #[.int .i64 l, .int .i64 s, .int .i64 e, .int .i64 t, .slice va vn vc] 38))) := Lib.hid ((Below.refl _ _).alloc (Nat.le_refl _) _)
  cases h1 : inB l 0 15 with
  | false =>
    have ee : Hid (headB l s e t h = false) := Lib.hid (by simp [headB, h1])
    go_enter Try.func48, Try.ntmps48
    go_wp2_with (go_at_call 41; refine (IW.out _ _ _ _).mono ?_; rintro e w' ⟨rfl, rfl⟩; try rw [h1])
    go_ret
    exact ⟨ret_bool (by rw [ee.out]), HB.out⟩
  | true =>
    cases h2 : inB s 0 31 with
    | false =>
      have ee : Hid (headB l s e t h = false) := Lib.hid (by simp [headB, h1, h2])
      go_enter Try.func48, Try.ntmps48
      go_wp2_with (go_at_call 41; refine (IW.out _ _ _ _).mono ?_; rintro e w' ⟨rfl, rfl⟩; first | rw [h1] | rw [h2])
      go_ret
      exact ⟨ret_bool (by rw [ee.out]), HB.out⟩
    | true =>
      cases h3 : evB e t with
      | false =>
        have ee : Hid (headB l s e t h = false) := Lib.hid (by simp [headB, h1, h2, h3])
        go_enter Try.func48, Try.ntmps48
        go_wp2_with (first
          | (go_at_call 41; refine (IW.out _ _ _ _).mono ?_; rintro e w' ⟨rfl, rfl⟩; (first | rw [h1] | rw [h2]))
          | (go_at_call 66; refine (IE.out _ _ _).mono ?_; rintro e w' ⟨rfl, rfl⟩; rw [h3]))
        go_ret
        exact ⟨ret_bool (by rw [ee.out]), HB.out⟩
      | true =>
        have ee : Hid (headB l s e t h = decide (h ≤ 4096)) := Lib.hid (by simp [headB, h1, h2, h3])
        go_enter Try.func48, Try.ntmps48
        go_wp2_with (first
          | (go_at_call 41; refine (IW.out _ _ _ _).mono ?_; rintro e w' ⟨rfl, rfl⟩; (first | rw [h1] | rw [h2]))
          | (go_at_call 66; refine (IE.out _ _ _).mono ?_; rintro e w' ⟨rfl, rfl⟩; rw [h3]))
        go_ret
        exact ⟨ret_bool (by rw [ee.out]), HB.out⟩
set_option maxRecDepth 100000 in
set_option maxHeartbeats 1600000 in
theorem Check_any (f : Fr) (v : Value) (w : World) (h : HiS w v f.hs) (hl : f.hs.length ≤ 1099511627776) :
    Calls Try.prog 20 #[f.val v] w fun en w' => en = .returned (.bool f.ok) ∧ Below w.heap.size w w' := by
  obtain ⟨l, s, e, t, hs⟩ := f
  simp only at h hl
  unfold Fr.val Fr.ok
  simp only
  have H := Lib.hid h
  obtain ⟨a, cap, rfl, hc⟩ := h.form
  clear h
  have b0 : Below w.heap.size w (w.alloc (.cells #[.int .i64 l, .int .i64 s, .int .i64 e, .int .i64 t, .slice a hs.length cap] 38)) := (Below.refl _ _).alloc (Nat.le_refl _) _
  have r0 : RF (w.alloc (.cells #[.int .i64 l, .int .i64 s, .int .i64 e, .int .i64 t, .slice a hs.length cap] 38)) w.heap.size 38 5 (fun i => ((#[.int .i64 l, .int .i64 s, .int .i64 e, .int .i64 t, .slice a hs.length cap] : Array Value)[i]?).getD default) := RF_new w _ _ 5 _ rfl (fun i hi => by rw [Array.getElem?_eq_getElem hi]; rfl)
  have B0 := Lib.hid b0
  have R0 := Lib.hid r0
  have hz0 : (w.alloc (.cells #[.int .i64 l, .int .i64 s, .int .i64 e, .int .i64 t, .slice a hs.length cap] 38)).heap.size = w.heap.size + 1 := by simp
  clear b0 r0
  cases hh : headB l s e t hs.length with
  | false =>
    go_enter Try.func20, Try.ntmps20
    go_wp2_with (go_at_call 48; refine (isHead_any _ _ _ _ _ _ _ _ _).mono ?_; rintro e w1 ⟨rfl, b1⟩; have B1 := Lib.hid (Below.up B0.out b1); clear b1; rw [hh])
    go_ret
    exact ⟨rfl, B1.out⟩
  | true =>
    go_enter Try.func20, Try.ntmps20
    go_wp2_with (go_at_call 48; refine (isHead_any _ _ _ _ _ _ _ _ _).mono ?_; rintro e w1 ⟨rfl, b1⟩; have B1 := Lib.hid (Below.up B0.out b1); have R1 := Lib.hid (R0.out.below b1); have g1 : w1.cell? ⟨w.heap.size, 4, none⟩ = some (.slice a hs.length cap) := R1.out.cell (i := 4) (by omega); clear b1; rw [hh])
    clear g1 R1
    go_loopw [3, 5, 15] (fun u _ i wr => ∃ (k : Nat) (b : Int), k ≤ hs.length ∧ i = .int .i64 k ∧ u = .int .i64 b ∧ Hid (hitsB (-1) hs = hitsB b (hs.drop k)) ∧ Hid (Below w.heap.size w wr)) (fun _ _ i _ => hs.length - (intOf i).toNat)
    case atStart => exact ⟨0, -1, Nat.zero_le _, rfl, rfl, Lib.hid rfl, B1⟩
    case round =>
      obtain ⟨k, b, hk, rfl, rfl, HE, BL⟩ := hrel
      by_cases hlt : k < hs.length
      · obtain ⟨b1, o1, rfl, hb1, hi1, c1, c1'⟩ := (H.out.below BL.out).at hlt
        have HD := Lib.hid (hitsB_drop b hs k hlt)
        obtain ⟨⟨x1, x2⟩, hxy⟩ : ∃ x, x = hs[k] := ⟨_, rfl⟩
        rw [← hxy] at HD c1 c1' hi1
        clear hxy
        simp only [I64] at HD c1 c1' hi1
        have BA : Hid (Below w.heap.size w (wr.alloc (.cells #[.int .i64 x1, .int .i64 x2] 35))) := Lib.hid (BL.out.alloc BL.out.size _)
        obtain ⟨d0, d1⟩ := new_two wr (.int .i64 x1) (.int .i64 x2) 35
        have D0 := Lib.hid d0
        clear d0 d1
        cases hb : hitB b (x1, x2) with
        | true =>
          go_wp2_with (go_at_call 49; refine (isHit_any _ _ _ _).mono ?_; rintro e w2 ⟨rfl, b2⟩; have B2 := Lib.hid (Below.up BA.out b2); have g2 := bc b2 D0.out; clear b2; rw [hb])
          go_roundw
          case rel => exact ⟨k + 1, x1, by omega, by go_num, rfl, Lib.hid (by rw [HE.out, HD.out, hb]; rfl), B2⟩
          case measure => simp [intOf]; omega
        | false =>
          go_wp2_with (go_at_call 49; refine (isHit_any _ _ _ _).mono ?_; rintro e w2 ⟨rfl, b2⟩; have B2 := Lib.hid (Below.up BA.out b2); clear b2; rw [hb])
          go_ret
          exact ⟨ret_bool (by rw [HE.out, HD.out, hb]; rfl), B2.out⟩
      · obtain rfl : k = hs.length := by omega
        go_wp2_with fail
        go_ret
        exact ⟨ret_bool (by rw [HE.out]; simp [hitsB]), BL.out⟩
end Go.Proofs.Ytanillahofohgaa
