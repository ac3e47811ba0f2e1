/- Layer 5: what both links answer, together. -/
import Derived.Test.YtanillahofohgaaReV
set_option linter.unusedVariables false
set_option linter.unusedSimpArgs false
set_option maxRecDepth 100000
namespace Go.Proofs.Ytanillahofohgaa
open Go.RowKit

set_option maxHeartbeats 3200000 in
theorem Send_mva (B lb : Nat) (room cr : Int) (x : List UInt8) (q u : Strs) (v : Value) (fl : List Int) (w : World) (f : Nat → Value) (h : LkW B w lb room cr (x :: q) u f) (hcr : 1 ≤ cr ∧ cr ≤ 256) (hq : q.length ≤ 256) (hu : u.length ≤ 1000) (hx : x.length ≤ 1000000) (hv : InS w v fl) (hfl : fl.length ≤ 9223372036854775807) (hBw : B ≤ w.heap.size) (hbv : ∀ W : World, (∀ k, k < w.heap.size → ¬ Lb lb f k → W.heap[k]? = w.heap[k]?) → InS W v fl) :
    Calls Try.prog 36 #[.pointer (some ⟨lb, 0, none⟩), v] w fun e w' => e = .returned (.bool true) ∧ Moved B lb w f room (cr - 1) q (u ++ [flL x fl]) w' := by
  have H := Lib.hid h
  have IM := Lib.hid (isMade_any lb w h.c0)
  have HBV := Lib.hid hbv
  obtain ⟨va, vc, rfl, _⟩ := hv.form
  have c2 := h.c2
  have f2 := h.rf.frozen (i := 2) (by omega)
  obtain ⟨a3, k3, c3⟩ := h.c3
  have SZ := Lib.hid (size_any lb 3 a3 (x :: q).length k3 w c3)
  obtain ⟨hk, ck⟩ := link_credit h (cr - 1)
  have CK := Lib.hid ck
  have HK := Lib.hid hk
  have BK := Lib.hid (Mv.credit lb w f (.int .i64 (cr - 1)))
  have hne : ((((x :: q).length : Nat) : Int) == 0) = false := by simp; omega
  obtain ⟨n, hn⟩ : ∃ n, n = (x :: q).length := ⟨_, rfl⟩
  rw [← hn] at SZ hne
  have hcr0 : (cr == 0) = false := by simp; omega
  clear h c3 hk ck hn hv hbv
  go_enter Try.func36, Try.ntmps36
  go_wp2_with (first
    | (go_at_call 53; refine IM.out.mono ?_; rintro e w' ⟨rfl, rfl⟩)
    | (go_at_call 54; refine SZ.out.mono ?_; rintro e w' ⟨rfl, rfl⟩))
  generalize (w.setCell ⟨lb, 2, none⟩ (.int .i64 (cr - 1))) = w1 at *
  have hB := H.out.hB
  have hbl := H.out.rf.lt
  clear c2 f2 SZ IM hne hcr0
  generalize (updF f 2 (.int .i64 (cr - 1))) = f1 at *
  have HD := Lib.hid (HK.out.below (Below.refl w1.heap.size w1).drew)
  have CD := Lib.hid CK.out.drew
  have BD := Lib.hid (BK.out.trans (Mv.below f1 (Below.refl w1.heap.size w1).drew))
  go_region_law
    (first
      | (refine step_at (Eq.refl true) ?_; go_simp; go_at_call 59; ((with_reducible refine (cut_any B lb 3 5 98 (by decide) f1 (f1 3) x q w1.drew HD.out.rf (by omega) rfl HD.out.qs (by omega)).mono ?_); rintro e w6 ⟨rfl, v', w5, g, rfl, h5, k1, k2, k3, o5⟩; have H5 := Lib.hid (mv_cut_q HD.out h5 k1 k2 k3 o5); have B5 := Lib.hid (BD.out.trans H5.out.2.1); have C5 := Lib.hid (CD.out.trans H5.out.2.2); have IS := Lib.hid (HBV.out _ B5.out.keep); clear h5 k1 k2 k3 o5; dsimp only))
      | (refine step_at (Eq.refl true) ?_; go_simp; go_at_call 58; ((with_reducible refine (inverted_all x _ fl _ IS.out hx hfl).mono ?_); rintro e w7 ⟨rfl, b7⟩; have H7 := Lib.hid (H5.out.1.below b7); have B7 := Lib.hid (B5.out.trans (Mv.below _ b7)); have C7 := Lib.hid (C5.out.trans (b7.mono (by have := C5.out.size; omega))); clear b7; dsimp only))
      | (refine step_at (Eq.refl true) ?_; go_simp; go_at_call 55; ((with_reducible refine (add_any B lb 4 5 98 (by decide) _ _ u (flL x fl) w7 H7.out.rf (by omega) rfl H7.out.us (by have := B7.out.sz; omega) (by omega)).mono ?_); rintro e w9 ⟨rfl, v9, w8, rfl, h8, hw8, hlb8⟩; have H9 := Lib.hid (mv_add_u H7.out h8 hw8 hlb8); clear h8 hw8 hlb8; dsimp only)))
  all_goals
    go_wp2_with fail
    go_ret
    exact ⟨rfl, _, H9.out.1, B7.out.trans H9.out.2.1, C7.out.trans H9.out.2.2⟩

/-- What the document's Offer answers. -/
def OfA (P : Nat → Prop) (w : World) (room c : Int) (uv : Value) (q : Strs) (s : List UInt8) (e : Ending) (w' : World) : Prop :=
  ∃ q2, e = .returned (.tuple #[.agg #[.int .i64 room, .int .i64 c, q2, uv], .int .i64 (offC room q s)]) ∧ StS (fun b => w.heap.size ≤ b ∨ P b) w' q2 (offQ room q s) ∧ Below w.heap.size w w'
theorem refOffer_all (P : Nat → Prop) (room c : Int) (qv uv : Value) (q : Strs) (s : List UInt8) (w : World) (hq : StS P w qv q) (hu : ∃ a n k, uv = .slice a n k) (hql : q.length ≤ 1000) :
    Calls Try.prog 33 #[.agg #[.int .i64 room, .int .i64 c, qv, uv], .string (str s)] w (OfA P w room c uv q s) := by
  by_cases h1 : 16404 < s.length
  · have e1 : offC room q s = 3 := by unfold offC; rw [if_pos h1]
    refine (refOffer_long P room c qv uv q s w hq hu h1).mono fun e w' h => ⟨qv, ?_, ?_, h.2⟩
    · rw [e1]; exact h.1
    · rw [offQ_of.2 (by omega)]
      exact (hq.below h.2).mono fun b _ hp => .inr hp
  · by_cases h2 : (q.length : Int) = room
    · have e1 : offC room q s = 6 := by unfold offC; rw [if_neg h1, if_pos h2]
      refine (refOffer_full P room c qv uv q s w hq hu (by omega) h2).mono fun e w' h => ⟨qv, ?_, ?_, h.2⟩
      · rw [e1]; exact h.1
      · rw [offQ_of.2 (by omega)]
        exact (hq.below h.2).mono fun b _ hp => .inr hp
    · have e1 : offC room q s = 0 := by unfold offC; rw [if_neg h1, if_neg h2]
      refine (refOffer_yes P room c qv uv q s w hq hu (by omega) h2 hql).mono fun e w' h => ?_
      obtain ⟨q2, h3, h4, h5⟩ := h
      refine ⟨q2, ?_, ?_, h5⟩
      · rw [e1]; exact h3
      · rw [offQ_of.1 e1]
        exact h4.mono fun b _ hp => .inl hp
/-- What Send leaves. -/
def sndQ (c : Int) (q : Strs) : Strs := if sndB c q then q.tail else q
def sndU (c : Int) (q u : Strs) (fl : List Int) : Strs := if sndB c q then u ++ [flL (q.headD []) fl] else u
def sndC (c : Int) (q : Strs) : Int := if sndB c q then c - 1 else c
def SnA (P P' : Nat → Prop) (w : World) (room c : Int) (q u : Strs) (fl : List Int) (e : Ending) (w' : World) : Prop :=
  ∃ q2 u2, e = .returned (.tuple #[.agg #[.int .i64 room, .int .i64 (sndC c q), q2, u2], .bool (sndB c q)]) ∧ StS P w' q2 (sndQ c q) ∧ StS (fun b => w.heap.size ≤ b ∨ P' b) w' u2 (sndU c q u fl) ∧ Below w.heap.size w w'
theorem snd_cons {c : Int} {q : Strs} (h : sndB c q = true) : ∃ x q', q = x :: q' ∧ c ≠ 0 := by
  cases q with
  | nil => simp [sndB] at h
  | cons x q' => exact ⟨x, q', rfl, by simpa [sndB] using h⟩
theorem refSend_all (P P' : Nat → Prop) (room c : Int) (qv uv fv : Value) (q u : Strs) (fl : List Int) (w : World) (hq : StS P w qv q) (hu : StS P' w uv u) (hf : InS w fv fl) (hc : 0 ≤ c ∧ c ≤ 1000) (hql : q.length ≤ 1000) (hul : u.length ≤ 1000) (hx : ∀ x ∈ q, x.length ≤ 1000000) (hfl : fl.length ≤ 9223372036854775807) :
    Calls Try.prog 35 #[.agg #[.int .i64 room, .int .i64 c, qv, uv], fv] w (SnA P P' w room c q u fl) := by
  cases hs : sndB c q with
  | false =>
    obtain ⟨ua, uc, eu, _⟩ := hu.form
    obtain ⟨fa, fc, ef, _⟩ := hf.form
    refine (refSend_no P P' room c qv uv fv q u w hq ⟨_, _, _, eu⟩ ⟨_, _, _, ef⟩ hs hql).mono fun e w' h => ⟨qv, uv, ?_, ?_, ?_, h.2⟩
    · unfold sndC; rw [hs]; exact h.1
    · unfold sndQ; rw [hs]; exact hq.below h.2
    · unfold sndU; rw [hs]; exact (hu.below h.2).mono fun b _ hp => .inr hp
  | true =>
    obtain ⟨x, q', rfl, hc0⟩ := snd_cons hs
    refine (refSend_yes P P' room c qv uv fv x q' u fl w hq hu hf ⟨by omega, hc.2⟩ (by simp at hql; omega) hul (hx x (by simp)) hfl).mono fun e w' h => ?_
    obtain ⟨q2, u2, h3, h4, h5, h6⟩ := h
    refine ⟨q2, u2, ?_, ?_, ?_, h6⟩
    · unfold sndC; rw [hs]; exact h3
    · unfold sndQ; rw [hs]; exact h4
    · unfold sndU; rw [hs]; exact h5.mono fun b _ hp => .inl hp
theorem str_nil : (⟨#[]⟩ : ByteArray) = str [] := by unfold str; rfl
/-- What Take answers and leaves. -/
def tkC (c : Int) (u : Strs) : Int := if u.isEmpty then c else c + 1
def TkA (P : Nat → Prop) (w : World) (room c : Int) (qv : Value) (u : Strs) (e : Ending) (w' : World) : Prop :=
  ∃ u2, e = .returned (.tuple #[.agg #[.int .i64 room, .int .i64 (tkC c u), qv, u2], .string (str (u.headD [])), .bool (!u.isEmpty)]) ∧ StS P w' u2 u.tail ∧ Below w.heap.size w w'
theorem refTake_all (P : Nat → Prop) (room c : Int) (qv uv : Value) (u : Strs) (w : World) (hq : ∃ a n k, qv = .slice a n k) (hu : StS P w uv u) (hc : 0 ≤ c ∧ c ≤ 1000) (hul : u.length ≤ 1000) :
    Calls Try.prog 37 #[.agg #[.int .i64 room, .int .i64 c, qv, uv]] w (TkA P w room c qv u) := by
  cases u with
  | nil => exact (refTake_no P room c qv uv w hq hu).mono fun e w' h => ⟨uv, by rw [h.1, str_nil]; rfl, hu.below h.2, h.2⟩
  | cons x u =>
    refine (refTake_yes P room c qv uv x u w hq hu hc (by simp at hul; omega)).mono fun e w' h => ?_
    obtain ⟨u2, h1, h2, h3⟩ := h
    exact ⟨u2, h1, h2.below h3, h3⟩
/-- What the program's link answers. -/
theorem Send_all (B lb : Nat) (room c : Int) (q u : Strs) (v : Value) (fl : List Int) (w : World) (f : Nat → Value) (h : LkW B w lb room c q u f) (hc : 0 ≤ c ∧ c ≤ 256) (hql : q.length ≤ 256) (hul : u.length ≤ 1000) (hx : ∀ x ∈ q, x.length ≤ 1000000) (hv : InS w v fl) (hfl : fl.length ≤ 9223372036854775807) (hbv : ∀ W : World, (∀ k, k < w.heap.size → ¬ Lb lb f k → W.heap[k]? = w.heap[k]?) → InS W v fl) :
    Calls Try.prog 36 #[.pointer (some ⟨lb, 0, none⟩), v] w fun e w' => e = .returned (.bool (sndB c q)) ∧ Moved B lb w f room (sndC c q) (sndQ c q) (sndU c q u fl) w' := by
  cases hs : sndB c q with
  | false =>
    obtain ⟨va, vc, ev, _⟩ := hv.form
    refine (Send_no B lb room c q u v w ⟨f, h⟩ hs hql ⟨_, _, _, ev⟩).mono fun e w' h2 => ?_
    obtain ⟨rfl, rfl⟩ := h2
    unfold sndC sndQ sndU
    rw [hs]
    exact ⟨rfl, Moved.stay h (Below.refl _ _)⟩
  | true =>
    obtain ⟨x, q', rfl, hc0⟩ := snd_cons hs
    have hB := h.hB
    have hlt := h.rf.lt
    unfold sndC sndQ sndU
    rw [hs]
    exact Send_mva B lb room c x q' u v fl w f h (by omega) (by simp at hql; omega) hul (hx x (by simp)) hv hfl (by omega) hbv
theorem Take_all (B lb : Nat) (room c : Int) (q u : Strs) (w : World) (f : Nat → Value) (h : LkW B w lb room c q u f) (hc : 0 ≤ c ∧ c ≤ 1000) (hul : u.length ≤ 1000) :
    Calls Try.prog 38 #[.pointer (some ⟨lb, 0, none⟩)] w fun e w' => e = .returned (.tuple #[.string (str (u.headD [])), .bool (!u.isEmpty)]) ∧ Moved B lb w f room (tkC c u) q u.tail w' := by
  cases u with
  | nil =>
    refine (Take_no B lb room c q w ⟨f, h⟩).mono fun e w' h2 => ?_
    obtain ⟨rfl, rfl⟩ := h2
    exact ⟨by rw [str_nil]; rfl, Moved.stay h (Below.refl _ _)⟩
  | cons x u => exact Take_mv B lb room c x q u w f h hc (by simp at hul; omega)
end Go.Proofs.Ytanillahofohgaa
