/- Layer 5: links in memory; what their methods leave alone. -/
import Derived.Test.YtanillahofohgaaRaU
set_option linter.unusedVariables false
set_option linter.unusedSimpArgs false
set_option maxRecDepth 100000
namespace Go.Proofs.Ytanillahofohgaa
open Go.RowKit

theorem set_size (w : World) (a : Addr) (v : Value) : (w.setCell a v).heap.size = w.heap.size := by simp [World.setCell]
/-- The blocks of a link. -/
def Lb (lb : Nat) (f : Nat → Value) (k : Nat) : Prop := k = lb ∨ (f 3).ownBlock = some k ∨ (f 4).ownBlock = some k
/-- What a link's methods do: blocks that are not the link's stay; those that are its own, were so, or are new. -/
structure Mv (lb : Nat) (w : World) (f : Nat → Value) (w' : World) (f' : Nat → Value) : Prop where
  sz : w.heap.size ≤ w'.heap.size
  keep : ∀ k, k < w.heap.size → ¬ Lb lb f k → w'.heap[k]? = w.heap[k]?
  own : ∀ k, Lb lb f' k → Lb lb f k ∨ w.heap.size ≤ k
theorem Mv.trans {lb : Nat} {w w1 w2 : World} {f f1 f2 : Nat → Value} (h : Mv lb w f w1 f1) (k : Mv lb w1 f1 w2 f2) : Mv lb w f w2 f2 :=
  ⟨Nat.le_trans h.sz k.sz, fun b hb hn => (k.keep b (Nat.lt_of_lt_of_le hb h.sz) fun hx => by
      rcases h.own b hx with a | a
      · exact hn a
      · omega).trans (h.keep b hb hn), fun b hb => by
    have s := h.sz
    rcases k.own b hb with a | a
    · exact h.own b a
    · exact .inr (by omega)⟩
theorem Mv.below {lb : Nat} {w w' : World} (f : Nat → Value) (h : Below w.heap.size w w') : Mv lb w f w' f := ⟨h.size, fun k hk _ => h.block k hk, fun k hk => .inl hk⟩
theorem Mv.credit (lb : Nat) (w : World) (f : Nat → Value) (v : Value) : Mv lb w f (w.setCell ⟨lb, 2, none⟩ v) (updF f 2 v) :=
  ⟨Nat.le_of_eq (set_size _ _ _).symm, fun k hk hn => Below.heap_setCell _ _ _ _ (fun e => hn (.inl e)), fun k hk => .inl hk⟩

theorem mv_add_q {B : Nat} {w : World} {lb : Nat} {room cr : Int} {q u : Strs} {f : Nat → Value} {s : List UInt8} (h : LkW B w lb room cr q u f) {v' : Value} {w5 : World} (hv : So B w5 v' (q ++ [s]))
    (hw : ∃ W1, Below w.heap.size w W1 ∧ W1.grownBy w5 (f 3).ownBlock ∧ (v'.ownBlock = (f 3).ownBlock ∨ ∃ g, v'.ownBlock = some g ∧ W1.heap.size ≤ g)) (hlb : w5.heap[lb]? = w.heap[lb]?) :
    LkW B (w5.setCell ⟨lb, 3, none⟩ v') lb room cr (q ++ [s]) u (updF f 3 v') ∧ Mv lb w f (w5.setCell ⟨lb, 3, none⟩ v') (updF f 3 v') ∧ Below B w (w5.setCell ⟨lb, 3, none⟩ v') := by
  have hbw := (link_add_q h hv hw hlb).2
  obtain ⟨W1, b1, g1, l1⟩ := hw
  have hblt := h.rf.lt
  have hB := h.hB
  have z1 := b1.size
  have z5 := g1.size
  have hj : ∀ g, (f 4).ownBlock = some g → w5.heap[g]? = w.heap[g]? := fun g hg => by
    have := (h.us.lt g hg).2
    rw [g1.block g (by omega) (fun e => by rcases h.ap with a | a <;> rw [← e] at a <;> first | cases a | exact a hg.symm), b1.block g this]
  obtain ⟨r, s1, s2, ap⟩ := link_set h (.inl ⟨rfl, rfl⟩) h.qs h.us hv hlb hj (fun g hg e => by
    have := (h.us.lt g e).2
    rcases l1 with a | ⟨g', a, hg'⟩
    · rcases h.ap with b | b
      · rw [hg, b] at a; cases a
      · exact b (by rw [← a, hg, e])
    · rw [hg] at a; cases a; omega)
  refine ⟨⟨hB, r, h.f0, h.f1, h.f2, s1, s2, ap⟩, ⟨?_, fun k hk hn => ?_, fun k hk => ?_⟩, hbw⟩
  · rw [set_size]; omega
  · rw [Below.heap_setCell _ _ _ _ (fun e => hn (.inl e)), g1.block k (by omega) (fun e => hn (.inr (.inl e.symm))), b1.block k hk]
  · rcases hk with a | a | a
    · exact .inl (.inl a)
    · have a' : v'.ownBlock = some k := a
      rcases l1 with b | ⟨g', b, hg'⟩
      · exact .inl (.inr (.inl (by rw [← b, a'])))
      · rw [a'] at b; cases b; exact .inr (by omega)
    · exact .inl (.inr (.inr a))
theorem mv_add_u {B : Nat} {w : World} {lb : Nat} {room cr : Int} {q u : Strs} {f : Nat → Value} {s : List UInt8} (h : LkW B w lb room cr q u f) {v' : Value} {w5 : World} (hv : So B w5 v' (u ++ [s]))
    (hw : ∃ W1, Below w.heap.size w W1 ∧ W1.grownBy w5 (f 4).ownBlock ∧ (v'.ownBlock = (f 4).ownBlock ∨ ∃ g, v'.ownBlock = some g ∧ W1.heap.size ≤ g)) (hlb : w5.heap[lb]? = w.heap[lb]?) :
    LkW B (w5.setCell ⟨lb, 4, none⟩ v') lb room cr q (u ++ [s]) (updF f 4 v') ∧ Mv lb w f (w5.setCell ⟨lb, 4, none⟩ v') (updF f 4 v') ∧ Below B w (w5.setCell ⟨lb, 4, none⟩ v') := by
  have hbw := (link_add_u h hv hw hlb).2
  obtain ⟨W1, b1, g1, l1⟩ := hw
  have hblt := h.rf.lt
  have hB := h.hB
  have z1 := b1.size
  have z5 := g1.size
  have hne : ∀ g, (f 3).ownBlock = some g → (f 4).ownBlock ≠ some g := fun g hg e => by
    rcases h.ap with a | a
    · rw [hg] at a; cases a
    · exact a (by rw [hg, e])
  have hj : ∀ g, (f 3).ownBlock = some g → w5.heap[g]? = w.heap[g]? := fun g hg => by
    have := (h.qs.lt g hg).2
    rw [g1.block g (by omega) (fun e => hne g hg e.symm), b1.block g this]
  obtain ⟨r, s1, s2, ap⟩ := link_set h (.inr ⟨rfl, rfl⟩) h.us h.qs hv hlb hj (fun g hg e => by
    have := (h.qs.lt g e).2
    rcases l1 with a | ⟨g', a, hg'⟩
    · exact hne g e (by rw [← a, hg])
    · rw [hg] at a; cases a; omega)
  refine ⟨⟨hB, r, h.f0, h.f1, h.f2, s2, s1, ?_⟩, ⟨?_, fun k hk hn => ?_, fun k hk => ?_⟩, hbw⟩
  · show (f 3).ownBlock = none ∨ (f 3).ownBlock ≠ v'.ownBlock
    cases hg : (f 3).ownBlock with
    | none => exact .inl rfl
    | some g =>
      refine .inr fun e => ?_
      rcases ap with a | a
      · rw [a] at e; cases e
      · exact a (by rw [← e, hg])
  · rw [set_size]; omega
  · rw [Below.heap_setCell _ _ _ _ (fun e => hn (.inl e)), g1.block k (by omega) (fun e => hn (.inr (.inr e.symm))), b1.block k hk]
  · rcases hk with a | a | a
    · exact .inl (.inl a)
    · exact .inl (.inr (.inl a))
    · have a' : v'.ownBlock = some k := a
      rcases l1 with b | ⟨g', b, hg'⟩
      · exact .inl (.inr (.inr (by rw [← b, a'])))
      · rw [a'] at b; cases b; exact .inr (by omega)
theorem mv_cut_q {B : Nat} {w : World} {lb : Nat} {room cr : Int} {x : List UInt8} {q u : Strs} {f : Nat → Value} (h : LkW B w lb room cr (x :: q) u f) {v' : Value} {w5 : World} {g : Nat} (hv : So B w5 v' q)
    (h1 : (f 3).ownBlock = some g) (h2 : v'.ownBlock = some g) (h3 : g ≠ lb) (ho : OnB g w w5) :
    LkW B (w5.setCell ⟨lb, 3, none⟩ v') lb room cr q u (updF f 3 v') ∧ Mv lb w f (w5.setCell ⟨lb, 3, none⟩ v') (updF f 3 v') ∧ Below B w (w5.setCell ⟨lb, 3, none⟩ v') := by
  have hbw := (link_cut_q h hv h1 h2 h3 ho).2
  have hB := h.hB
  have hne : (f 4).ownBlock ≠ some g := fun e => by
    rcases h.ap with a | a
    · rw [h1] at a; cases a
    · exact a (by rw [h1, e])
  obtain ⟨r, s1, s2, ap⟩ := link_set h (.inl ⟨rfl, rfl⟩) h.qs h.us hv (ho.2.2 lb h3.symm) (fun g' hg' => ho.2.2 g' (by rintro rfl; exact hne hg')) (fun g' hg' e => by
    rw [h2] at hg'; cases hg'; exact hne e)
  refine ⟨⟨hB, r, h.f0, h.f1, h.f2, s1, s2, ap⟩, ⟨?_, fun k hk hn => ?_, fun k hk => ?_⟩, hbw⟩
  · rw [set_size, ho.2.1]; exact Nat.le_refl _
  · rw [Below.heap_setCell _ _ _ _ (fun e => hn (.inl e)), ho.2.2 k (by rintro rfl; exact hn (.inr (.inl h1)))]
  · rcases hk with a | a | a
    · exact .inl (.inl a)
    · exact .inl (.inr (.inl (by rw [h1, ← h2]; exact a)))
    · exact .inl (.inr (.inr a))
theorem mv_cut_u {B : Nat} {w : World} {lb : Nat} {room cr : Int} {x : List UInt8} {q u : Strs} {f : Nat → Value} (h : LkW B w lb room cr q (x :: u) f) {v' : Value} {w5 : World} {g : Nat} (hv : So B w5 v' u)
    (h1 : (f 4).ownBlock = some g) (h2 : v'.ownBlock = some g) (h3 : g ≠ lb) (ho : OnB g w w5) :
    LkW B (w5.setCell ⟨lb, 4, none⟩ v') lb room cr q u (updF f 4 v') ∧ Mv lb w f (w5.setCell ⟨lb, 4, none⟩ v') (updF f 4 v') ∧ Below B w (w5.setCell ⟨lb, 4, none⟩ v') := by
  have hbw := (link_cut_u h hv h1 h2 h3 ho).2
  have hB := h.hB
  have hne : (f 3).ownBlock ≠ some g := fun e => by
    rcases h.ap with a | a
    · rw [e] at a; cases a
    · exact a (by rw [h1, e])
  obtain ⟨r, s1, s2, ap⟩ := link_set h (.inr ⟨rfl, rfl⟩) h.us h.qs hv (ho.2.2 lb h3.symm) (fun g' hg' => ho.2.2 g' (by rintro rfl; exact hne hg')) (fun g' hg' e => by
    rw [h2] at hg'; cases hg'; exact hne e)
  refine ⟨⟨hB, r, h.f0, h.f1, h.f2, s2, s1, .inr ?_⟩, ⟨?_, fun k hk hn => ?_, fun k hk => ?_⟩, hbw⟩
  · show (f 3).ownBlock ≠ v'.ownBlock
    rw [h2]
    exact hne
  · rw [set_size, ho.2.1]; exact Nat.le_refl _
  · rw [Below.heap_setCell _ _ _ _ (fun e => hn (.inl e)), ho.2.2 k (by rintro rfl; exact hn (.inr (.inr h1)))]
  · rcases hk with a | a | a
    · exact .inl (.inl a)
    · exact .inl (.inr (.inl a))
    · exact .inl (.inr (.inr (by rw [h1, ← h2]; exact a)))

/-- What a link is, behind a method. -/
def Moved (B lb : Nat) (w : World) (f : Nat → Value) (room cr : Int) (q u : Strs) (w' : World) : Prop := ∃ f', LkW B w' lb room cr q u f' ∧ Mv lb w f w' f' ∧ Below B w w'
theorem Moved.stay {B lb : Nat} {w w' : World} {f : Nat → Value} {room cr : Int} {q u : Strs} (h : LkW B w lb room cr q u f) (k : Below w.heap.size w w') : Moved B lb w f room cr q u w' := ⟨f, h.below k, Mv.below f k, k.mono (by have := h.hB; have := h.rf.lt; omega)⟩

set_option maxHeartbeats 1600000 in
theorem Offer_mv (B lb : Nat) (room cr : Int) (q u : Strs) (s : List UInt8) (w : World) (f : Nat → Value) (h : LkW B w lb room cr q u f) (hr : room ≤ 256) (hq : q.length ≤ 256) :
    Calls Try.prog 34 #[.pointer (some ⟨lb, 0, none⟩), .string (str s)] w fun e w' => e = .returned (.int .i64 (offC room q s)) ∧ Moved B lb w f room cr (offQ room q s) u w' := by
  have H := Lib.hid h
  have c0 := h.c0
  have hsz := str_size s
  have IM := Lib.hid (isMade_any lb w c0)
  clear h c0
  by_cases h1 : 16404 < s.length
  · have hc : Hid (offC room q s = 3 ∧ offQ room q s = q) := Lib.hid (by
      have : offC room q s = 3 := by unfold offC; rw [if_pos h1]
      exact ⟨this, by unfold offQ; rw [if_neg (by omega)]⟩)
    go_enter Try.func34, Try.ntmps34
    go_wp2_with (go_at_call 53; refine IM.out.mono ?_; rintro e w' ⟨rfl, rfl⟩)
    go_ret
    exact ⟨ret_int hc.out.1.symm, by rw [hc.out.2]; exact Moved.stay H.out (Below.refl _ _)⟩
  · have c1 := H.out.c1
    obtain ⟨a3, k3, c3⟩ := H.out.c3
    have SZ := Lib.hid (fun n => bool_rev (size_any lb 3 a3 q.length k3 (w.drewN n) c3))
    have i1 : ¬ (16404 : Int) < (s.length : Int) := by omega
    by_cases h2 : (q.length : Int) = room
    · have hc : Hid (offC room q s = 6 ∧ offQ room q s = q) := Lib.hid (by
        have : offC room q s = 6 := by unfold offC; rw [if_neg h1, if_pos h2]
        exact ⟨this, by unfold offQ; rw [if_neg (by omega)]⟩)
      clear h1
      subst h2
      go_enter Try.func34, Try.ntmps34
      go_wp2_with (go_at_call 53; refine IM.out.mono ?_; rintro e w' ⟨rfl, rfl⟩)
      go_quiet ((go_at_call 54; with_reducible exact Calls.quiet_of_same (SZ.out _)))
      go_wp2_with fail
      go_ret
      exact ⟨ret_int hc.out.1.symm, by rw [hc.out.2]; exact Moved.stay H.out (Below.drewN (Below.refl _ _) _)⟩
    · have hc : Hid (offC room q s = 0 ∧ offQ room q s = q ++ [s]) := Lib.hid (by
        have : offC room q s = 0 := by unfold offC; rw [if_neg h1, if_neg h2]
        exact ⟨this, by unfold offQ; rw [if_pos this]⟩)
      have hb2 : (((q.length : Nat) : Int) == room) = false := by simpa using h2
      have CL := Lib.hid (fun W => clone_any (str s) W (by omega))
      clear h1
      go_enter Try.func34, Try.ntmps34
      go_wp2_with (go_at_call 53; refine IM.out.mono ?_; rintro e w' ⟨rfl, rfl⟩)
      go_quiet ((go_at_call 54; with_reducible exact Calls.quiet_of_same (SZ.out _)))
      have H2 := Lib.hid (H.out.below (Below.drewN (Below.refl w.heap.size w) nq))
      have K2 : Hid (Below w.heap.size w (w.drewN nq)) := Lib.hid (Below.drewN (Below.refl w.heap.size w) nq)
      clear c1 c3 SZ IM
      generalize w.drewN nq = w2 at *
      go_wp2_with fail
      have K3 := Lib.hid K2.out.drew
      have H3 := Lib.hid (H2.out.below (Below.refl w2.heap.size w2).drew)
      have hB := H.out.hB
      go_region_law
        (first
          | (refine step_at (Eq.refl true) ?_; go_simp; go_at_call 56; ((with_reducible refine (CL.out _).mono ?_); rintro e w3 ⟨rfl, b3⟩; have K4 := Lib.hid (Below.up K3.out b3); have H4 := Lib.hid (H3.out.below b3); clear b3; dsimp only))
          | (refine step_at (Eq.refl true) ?_; go_simp; go_at_call 55; ((with_reducible refine (add_any B lb 3 5 98 (by decide) f (f 3) q s w3 H4.out.rf (by omega) rfl H4.out.qs (by have := H4.out.rf.lt; omega) (by omega)).mono ?_); rintro e w6 ⟨rfl, v', w5, rfl, h5, hw5, hlb⟩; have H5 := Lib.hid (mv_add_q H4.out h5 hw5 hlb); clear h5 hw5 hlb; dsimp only)))
      all_goals
        go_wp2_with fail
        go_ret
        exact ⟨ret_int hc.out.1.symm, by rw [hc.out.2]; exact ⟨_, H5.out.1, (Mv.below f K4.out).trans H5.out.2.1, (K4.out.mono (by have := H.out.rf.lt; omega)).trans H5.out.2.2⟩⟩

set_option maxHeartbeats 3200000 in
theorem Send_mv (B lb : Nat) (room cr : Int) (x : List UInt8) (q u : Strs) (v : Value) (fl : List Int) (w : World) (f : Nat → Value) (h : LkW B w lb room cr (x :: q) u f) (hcr : 1 ≤ cr ∧ cr ≤ 256) (hq : q.length ≤ 256) (hu : u.length ≤ 1000) (hx : x.length ≤ 1000000) (hv : InS w v fl) (hfl : fl.length ≤ 1099511627776) (hBw : B ≤ w.heap.size) (hbv : ∀ W : World, (∀ k, k < w.heap.size → ¬ Lb lb f k → W.heap[k]? = w.heap[k]?) → InS W v fl) :
    Calls Try.prog 36 #[.pointer (some ⟨lb, 0, none⟩), v] w fun e w' => e = .returned (.bool true) ∧ Moved B lb w f room (cr - 1) q (u ++ [flL x fl]) w' := by
  have H := Lib.hid h
  have IM := Lib.hid (isMade_any lb w h.c0)
  have HBV := Lib.hid hbv
  obtain ⟨va, vc, rfl, _⟩ := hv.form
  have c2 := h.c2
  have f2 := h.rf.frozen (i := 2) (by omega)
  obtain ⟨a3, k3, c3⟩ := h.c3
  have SZ := Lib.hid (size_any lb 3 a3 (x :: q).length k3 w c3)
  obtain ⟨hk, ck⟩ := link_credit h (cr - 1)
  have CK := Lib.hid ck
  have HK := Lib.hid hk
  have BK := Lib.hid (Mv.credit lb w f (.int .i64 (cr - 1)))
  have hne : ((((x :: q).length : Nat) : Int) == 0) = false := by simp; omega
  obtain ⟨n, hn⟩ : ∃ n, n = (x :: q).length := ⟨_, rfl⟩
  rw [← hn] at SZ hne
  have hcr0 : (cr == 0) = false := by simp; omega
  clear h c3 hk ck hn hv hbv
  go_enter Try.func36, Try.ntmps36
  go_wp2_with (first
    | (go_at_call 53; refine IM.out.mono ?_; rintro e w' ⟨rfl, rfl⟩)
    | (go_at_call 54; refine SZ.out.mono ?_; rintro e w' ⟨rfl, rfl⟩))
  generalize (w.setCell ⟨lb, 2, none⟩ (.int .i64 (cr - 1))) = w1 at *
  have hB := H.out.hB
  have hbl := H.out.rf.lt
  clear c2 f2 SZ IM hne hcr0
  generalize (updF f 2 (.int .i64 (cr - 1))) = f1 at *
  have HD := Lib.hid (HK.out.below (Below.refl w1.heap.size w1).drew)
  have CD := Lib.hid CK.out.drew
  have BD := Lib.hid (BK.out.trans (Mv.below f1 (Below.refl w1.heap.size w1).drew))
  go_region_law
    (first
      | (refine step_at (Eq.refl true) ?_; go_simp; go_at_call 59; ((with_reducible refine (cut_any B lb 3 5 98 (by decide) f1 (f1 3) x q w1.drew HD.out.rf (by omega) rfl HD.out.qs (by omega)).mono ?_); rintro e w6 ⟨rfl, v', w5, g, rfl, h5, k1, k2, k3, o5⟩; have H5 := Lib.hid (mv_cut_q HD.out h5 k1 k2 k3 o5); have B5 := Lib.hid (BD.out.trans H5.out.2.1); have C5 := Lib.hid (CD.out.trans H5.out.2.2); have IS := Lib.hid (HBV.out _ B5.out.keep); clear h5 k1 k2 k3 o5; dsimp only))
      | (refine step_at (Eq.refl true) ?_; go_simp; go_at_call 58; ((with_reducible refine (inverted_any x _ fl _ IS.out hx hfl).mono ?_); rintro e w7 ⟨rfl, b7⟩; have H7 := Lib.hid (H5.out.1.below b7); have B7 := Lib.hid (B5.out.trans (Mv.below _ b7)); have C7 := Lib.hid (C5.out.trans (b7.mono (by have := C5.out.size; omega))); clear b7; dsimp only))
      | (refine step_at (Eq.refl true) ?_; go_simp; go_at_call 55; ((with_reducible refine (add_any B lb 4 5 98 (by decide) _ _ u (flL x fl) w7 H7.out.rf (by omega) rfl H7.out.us (by have := B7.out.sz; omega) (by omega)).mono ?_); rintro e w9 ⟨rfl, v9, w8, rfl, h8, hw8, hlb8⟩; have H9 := Lib.hid (mv_add_u H7.out h8 hw8 hlb8); clear h8 hw8 hlb8; dsimp only)))
  all_goals
    go_wp2_with fail
    go_ret
    exact ⟨rfl, _, H9.out.1, B7.out.trans H9.out.2.1, C7.out.trans H9.out.2.2⟩
set_option maxHeartbeats 3200000 in
theorem Take_mv (B lb : Nat) (room cr : Int) (x : List UInt8) (q u : Strs) (w : World) (f : Nat → Value) (h : LkW B w lb room cr q (x :: u) f) (hcr : 0 ≤ cr ∧ cr ≤ 1000) (hu : u.length ≤ 1000) :
    Calls Try.prog 38 #[.pointer (some ⟨lb, 0, none⟩)] w fun e w' => e = .returned (.tuple #[.string (str x), .bool true]) ∧ Moved B lb w f room (cr + 1) q u w' := by
  have IM := Lib.hid (isMade_any lb w h.c0)
  have c2 := h.c2
  have f2 := h.rf.frozen (i := 2) (by omega)
  obtain ⟨a4, k4, c4⟩ := h.c4
  have SZ := Lib.hid (size_any lb 4 a4 (x :: u).length k4 w c4)
  obtain ⟨hk, ck⟩ := link_credit h (cr + 1)
  have CK := Lib.hid ck
  have HK := Lib.hid hk
  have BK := Lib.hid (Mv.credit lb w f (.int .i64 (cr + 1)))
  have hne : ((((x :: u).length : Nat) : Int) == 0) = false := by simp; omega
  obtain ⟨n, hn⟩ : ∃ n, n = (x :: u).length := ⟨_, rfl⟩
  rw [← hn] at SZ hne
  clear h c4 hk ck hn
  go_enter Try.func38, Try.ntmps38
  go_wp2_with (first
    | (go_at_call 53; refine IM.out.mono ?_; rintro e w' ⟨rfl, rfl⟩)
    | (go_at_call 54; refine SZ.out.mono ?_; rintro e w' ⟨rfl, rfl⟩)
    | (go_at_call 59; refine (cut_any B lb 4 5 98 (by decide) _ _ x u _ HK.out.rf (by omega) rfl HK.out.us (by omega)).mono ?_; rintro e w6 ⟨rfl, v', w5, g, rfl, h5, k1, k2, k3, o5⟩; have H5 := Lib.hid (mv_cut_u HK.out h5 k1 k2 k3 o5); clear h5 k1 k2 k3 o5))
  go_ret2
  exact ⟨rfl, _, H5.out.1, BK.out.trans H5.out.2.1, CK.out.trans H5.out.2.2⟩
set_option maxHeartbeats 3200000 in
theorem Waiting_mv (B lb : Nat) (room cr : Int) (q u : Strs) (w : World) (f : Nat → Value) (h : LkW B w lb room cr q u f) :
    Calls Try.prog 39 #[.pointer (some ⟨lb, 0, none⟩)] w fun e w' => e = .returned (.tuple #[.int .i64 (q.length : Nat), .int .i64 (u.length : Nat), .int .i64 cr]) ∧ Below w.heap.size w w' := by
  have H := Lib.hid h
  have IM := Lib.hid (isMade_any lb w h.c0)
  have c2 := h.c2
  obtain ⟨a3, k3, c3⟩ := h.c3
  obtain ⟨a4, k4, c4⟩ := h.c4
  have S3 := Lib.hid (fun n => bool_rev (size_any lb 3 a3 q.length k3 (w.drewN n) c3))
  have S4 := Lib.hid (fun n => bool_rev (size_any lb 4 a4 u.length k4 (w.drewN n) c4))
  clear h c3 c4
  go_enter Try.func39, Try.ntmps39
  go_wp2_with (go_at_call 53; refine IM.out.mono ?_; rintro e w' ⟨rfl, rfl⟩)
  go_quiet ((go_at_call 54; first | (with_reducible exact Calls.quiet_of_same (S3.out _)) | (with_reducible exact Calls.quiet_of_same (S4.out _))))
  go_wp2_with fail
  go_ret3
  exact ⟨rfl, Below.drewN (Below.refl _ _) _⟩
end Go.Proofs.Ytanillahofohgaa
