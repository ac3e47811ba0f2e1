/- Layer 5: links in memory. -/
import Derived.LaidEqlPtr
import Derived.Test.YtanillahofohgaaRaT
set_option linter.unusedVariables false
set_option linter.unusedSimpArgs false
set_option maxRecDepth 100000
namespace Go.Proofs.Ytanillahofohgaa
open Go.RowKit

def updF (f : Nat → Value) (k : Nat) (v : Value) : Nat → Value := fun j => if j = k then v else f j
/-- A link in block lb. -/
structure LkW (B : Nat) (W : World) (lb : Nat) (room cr : Int) (q u : Strs) (f : Nat → Value) : Prop where
  hB : B ≤ lb
  rf : RF W lb 98 5 f
  f0 : f 0 = .pointer (some ⟨lb, 0, none⟩)
  f1 : f 1 = .int .i64 room
  f2 : f 2 = .int .i64 cr
  qs : So B W (f 3) q
  us : So B W (f 4) u
  ap : (f 3).ownBlock = none ∨ (f 3).ownBlock ≠ (f 4).ownBlock
def LinkAt (B : Nat) (W : World) (lb : Nat) (room cr : Int) (q u : Strs) : Prop := ∃ f, LkW B W lb room cr q u f
theorem LkW.below {B : Nat} {W W' : World} {lb : Nat} {room cr : Int} {q u : Strs} {f : Nat → Value} (h : LkW B W lb room cr q u f) (k : Below W.heap.size W W') : LkW B W' lb room cr q u f :=
  ⟨h.hB, h.rf.below k, h.f0, h.f1, h.f2, h.qs.below k, h.us.below k, h.ap⟩
theorem LinkAt.below {B : Nat} {W W' : World} {lb : Nat} {room cr : Int} {q u : Strs} (h : LinkAt B W lb room cr q u) (k : Below W.heap.size W W') : LinkAt B W' lb room cr q u := by
  obtain ⟨f, h⟩ := h
  exact ⟨f, h.below k⟩
/-- A row of strings lies apart from a link. -/
theorem So.ne {B : Nat} {W : World} {v : Value} {l : Strs} {lb n : Nat} {f : Nat → Value} (h : So B W v l) (rf : RF W lb 98 n f) : ∀ g, v.ownBlock = some g → g ≠ lb := by
  rintro g hg rfl
  obtain ⟨c, fz, e1⟩ := Rw.kind h _ hg
  obtain ⟨c2, fz2, e2⟩ := rf.kind
  rw [e1] at e2
  cases e2
theorem So.same {B : Nat} {W W' : World} {v : Value} {l : Strs} (h : So B W v l) (k : ∀ g, v.ownBlock = some g → W'.heap[g]? = W.heap[g]?) : So B W' v l := Rw.same h k
theorem So.lt {B : Nat} {W : World} {v : Value} {l : Strs} (h : So B W v l) : ∀ g, v.ownBlock = some g → B ≤ g ∧ g < W.heap.size := Rw.lt h

/-- A row of a link that was changed; the other one stays. -/
theorem link_set {B : Nat} {w w5 : World} {lb k j : Nat} {room cr : Int} {q u : Strs} {f : Nat → Value} {v' : Value} {l l' m : Strs} (h : LkW B w lb room cr q u f) (hk : k = 3 ∧ j = 4 ∨ k = 4 ∧ j = 3)
    (hl : So B w (f k) l) (hm : So B w (f j) m) (hv : So B w5 v' l') (hlb : w5.heap[lb]? = w.heap[lb]?) (hj : ∀ g, (f j).ownBlock = some g → w5.heap[g]? = w.heap[g]?)
    (hap : ∀ g, v'.ownBlock = some g → (f j).ownBlock ≠ some g) :
    RF (w5.setCell ⟨lb, k, none⟩ v') lb 98 5 (updF f k v') ∧ So B (w5.setCell ⟨lb, k, none⟩ v') v' l' ∧ So B (w5.setCell ⟨lb, k, none⟩ v') (f j) m ∧ (v'.ownBlock = none ∨ v'.ownBlock ≠ (f j).ownBlock) := by
  have r5 := h.rf.of_block hlb
  refine ⟨r5.set k v', hv.same fun g hg => Below.heap_setCell _ _ _ _ (hv.ne r5 g hg), hm.same fun g hg => ?_, ?_⟩
  · rw [Below.heap_setCell _ _ _ _ (hm.ne h.rf g hg), hj g hg]
  · cases hg : v'.ownBlock with
    | none => exact .inl rfl
    | some g => exact .inr fun e => hap g hg e.symm

theorem link_add_q {B : Nat} {w : World} {lb : Nat} {room cr : Int} {q u : Strs} {f : Nat → Value} {s : List UInt8} (h : LkW B w lb room cr q u f) {v' : Value} {w5 : World} (hv : So B w5 v' (q ++ [s]))
    (hw : ∃ W1, Below w.heap.size w W1 ∧ W1.grownBy w5 (f 3).ownBlock ∧ (v'.ownBlock = (f 3).ownBlock ∨ ∃ g, v'.ownBlock = some g ∧ W1.heap.size ≤ g)) (hlb : w5.heap[lb]? = w.heap[lb]?) :
    LinkAt B (w5.setCell ⟨lb, 3, none⟩ v') lb room cr (q ++ [s]) u ∧ Below B w (w5.setCell ⟨lb, 3, none⟩ v') := by
  obtain ⟨W1, b1, g1, l1⟩ := hw
  have hblt := h.rf.lt
  have hB := h.hB
  have z1 := b1.size
  have hj : ∀ g, (f 4).ownBlock = some g → w5.heap[g]? = w.heap[g]? := fun g hg => by
    have := (h.us.lt g hg).2
    rw [g1.block g (by omega) (fun e => by rcases h.ap with a | a <;> rw [← e] at a <;> first | cases a | exact a hg.symm), b1.block g this]
  obtain ⟨r, s1, s2, ap⟩ := link_set h (.inl ⟨rfl, rfl⟩) h.qs h.us hv hlb hj (fun g hg e => by
    have := (h.us.lt g e).2
    rcases l1 with a | ⟨g', a, hg'⟩
    · rcases h.ap with b | b
      · rw [hg, b] at a; cases a
      · exact b (by rw [← a, hg, e])
    · rw [hg] at a; cases a; omega)
  refine ⟨⟨_, hB, r, ?_, ?_, ?_, s1, s2, ap⟩, ?_⟩
  · exact h.f0
  · exact h.f1
  · exact h.f2
  · exact ((b1.mono (by omega)).trans (grown_below g1 (fun g hg => (h.qs.lt g hg).1) (by omega))).setCell (p := ⟨lb, 3, none⟩) hB _
theorem link_add_u {B : Nat} {w : World} {lb : Nat} {room cr : Int} {q u : Strs} {f : Nat → Value} {s : List UInt8} (h : LkW B w lb room cr q u f) {v' : Value} {w5 : World} (hv : So B w5 v' (u ++ [s]))
    (hw : ∃ W1, Below w.heap.size w W1 ∧ W1.grownBy w5 (f 4).ownBlock ∧ (v'.ownBlock = (f 4).ownBlock ∨ ∃ g, v'.ownBlock = some g ∧ W1.heap.size ≤ g)) (hlb : w5.heap[lb]? = w.heap[lb]?) :
    LinkAt B (w5.setCell ⟨lb, 4, none⟩ v') lb room cr q (u ++ [s]) ∧ Below B w (w5.setCell ⟨lb, 4, none⟩ v') := by
  obtain ⟨W1, b1, g1, l1⟩ := hw
  have hblt := h.rf.lt
  have hB := h.hB
  have z1 := b1.size
  have hne : ∀ g, (f 3).ownBlock = some g → (f 4).ownBlock ≠ some g := fun g hg e => by
    rcases h.ap with a | a
    · rw [hg] at a; cases a
    · exact a (by rw [hg, e])
  have hj : ∀ g, (f 3).ownBlock = some g → w5.heap[g]? = w.heap[g]? := fun g hg => by
    have := (h.qs.lt g hg).2
    rw [g1.block g (by omega) (fun e => hne g hg e.symm), b1.block g this]
  obtain ⟨r, s1, s2, ap⟩ := link_set h (.inr ⟨rfl, rfl⟩) h.us h.qs hv hlb hj (fun g hg e => by
    have := (h.qs.lt g e).2
    rcases l1 with a | ⟨g', a, hg'⟩
    · exact hne g e (by rw [← a, hg])
    · rw [hg] at a; cases a; omega)
  refine ⟨⟨_, hB, r, ?_, ?_, ?_, s2, s1, ?_⟩, ?_⟩
  · exact h.f0
  · exact h.f1
  · exact h.f2
  · show (f 3).ownBlock = none ∨ (f 3).ownBlock ≠ v'.ownBlock
    cases hg : (f 3).ownBlock with
    | none => exact .inl rfl
    | some g =>
      refine .inr fun e => ?_
      rcases ap with a | a
      · rw [a] at e; cases e
      · exact a (by rw [← e, hg])
  · exact ((b1.mono (by omega)).trans (grown_below g1 (fun g hg => (h.us.lt g hg).1) (by omega))).setCell (p := ⟨lb, 4, none⟩) hB _
theorem link_cut_q {B : Nat} {w : World} {lb : Nat} {room cr : Int} {x : List UInt8} {q u : Strs} {f : Nat → Value} (h : LkW B w lb room cr (x :: q) u f) {v' : Value} {w5 : World} {g : Nat} (hv : So B w5 v' q)
    (h1 : (f 3).ownBlock = some g) (h2 : v'.ownBlock = some g) (h3 : g ≠ lb) (ho : OnB g w w5) :
    LinkAt B (w5.setCell ⟨lb, 3, none⟩ v') lb room cr q u ∧ Below B w (w5.setCell ⟨lb, 3, none⟩ v') := by
  have hB := h.hB
  have hne : (f 4).ownBlock ≠ some g := fun e => by
    rcases h.ap with a | a
    · rw [h1] at a; cases a
    · exact a (by rw [h1, e])
  obtain ⟨r, s1, s2, ap⟩ := link_set h (.inl ⟨rfl, rfl⟩) h.qs h.us hv (ho.2.2 lb h3.symm) (fun g' hg' => ho.2.2 g' (by rintro rfl; exact hne hg')) (fun g' hg' e => by
    rw [h2] at hg'; cases hg'; exact hne e)
  exact ⟨⟨_, hB, r, h.f0, h.f1, h.f2, s1, s2, ap⟩, (ho.below (h.qs.lt g h1).1).setCell (p := ⟨lb, 3, none⟩) hB _⟩
theorem link_cut_u {B : Nat} {w : World} {lb : Nat} {room cr : Int} {x : List UInt8} {q u : Strs} {f : Nat → Value} (h : LkW B w lb room cr q (x :: u) f) {v' : Value} {w5 : World} {g : Nat} (hv : So B w5 v' u)
    (h1 : (f 4).ownBlock = some g) (h2 : v'.ownBlock = some g) (h3 : g ≠ lb) (ho : OnB g w w5) :
    LinkAt B (w5.setCell ⟨lb, 4, none⟩ v') lb room cr q u ∧ Below B w (w5.setCell ⟨lb, 4, none⟩ v') := by
  have hB := h.hB
  have hne : (f 3).ownBlock ≠ some g := fun e => by
    rcases h.ap with a | a
    · rw [e] at a; cases a
    · exact a (by rw [h1, e])
  obtain ⟨r, s1, s2, ap⟩ := link_set h (.inr ⟨rfl, rfl⟩) h.us h.qs hv (ho.2.2 lb h3.symm) (fun g' hg' => ho.2.2 g' (by rintro rfl; exact hne hg')) (fun g' hg' e => by
    rw [h2] at hg'; cases hg'; exact hne e)
  refine ⟨⟨_, hB, r, h.f0, h.f1, h.f2, s2, s1, .inr ?_⟩, (ho.below (h.us.lt g h1).1).setCell (p := ⟨lb, 4, none⟩) hB _⟩
  show (f 3).ownBlock ≠ v'.ownBlock
  rw [h2]
  exact hne
theorem link_credit {B : Nat} {w : World} {lb : Nat} {room cr : Int} {q u : Strs} {f : Nat → Value} (h : LkW B w lb room cr q u f) (c : Int) :
    LkW B (w.setCell ⟨lb, 2, none⟩ (.int .i64 c)) lb room c q u (updF f 2 (.int .i64 c)) ∧ Below B w (w.setCell ⟨lb, 2, none⟩ (.int .i64 c)) := by
  refine ⟨⟨h.hB, h.rf.set 2 _, h.f0, h.f1, rfl, h.qs.same fun g hg => Below.heap_setCell _ _ _ _ (h.qs.ne h.rf g hg), h.us.same fun g hg => Below.heap_setCell _ _ _ _ (h.us.ne h.rf g hg), h.ap⟩, (Below.refl _ _).setCell (p := ⟨lb, 2, none⟩) h.hB _⟩

/-! ### The methods -/
theorem link_same (a : Addr) (W : World) : (binOp .eql 60 (.pointer (some a)) (.pointer (some a))).run Try.prog W = .ok (.bool true) W := by
  obtain ⟨i, hi⟩ := Option.isSome_iff_exists.1 (show (Try.prog.info? 98).isSome = true by kernel_rfl)
  exact run_eql_ptr_same W a (by kernel_rfl) hi
theorem isMade_any (lb : Nat) (w : World) (h : w.cell? ⟨lb, 0, none⟩ = some (.pointer (some ⟨lb, 0, none⟩))) :
    Calls Try.prog 53 #[.pointer (some ⟨lb, 0, none⟩)] w fun e w' => e = .returned (.bool true) ∧ w = w' := by
  have he := link_same ⟨lb, 0, none⟩
  go_enter Try.func53, Try.ntmps53
  go_wp2_with fail
  go_ret
  exact ⟨rfl, rfl⟩
def newOk (room cr : Int) : Bool := inB room 1 256 && inB cr 1 256
theorem NewLink_no (room cr : Int) (w : World) (h : newOk room cr = false) :
    Calls Try.prog 31 #[.int .i64 room, .int .i64 cr] w fun e w' => e = .returned (.tuple #[.pointer none, .int .i64 2]) ∧ w = w' := by
  have IW := Lib.hid isWithin_any
  unfold newOk at h
  cases h1 : inB room 1 256 with
  | false =>
    go_enter Try.func31, Try.ntmps31
    go_wp2_with (go_at_call 41; refine (IW.out _ _ _ _).mono ?_; rintro e w' ⟨rfl, rfl⟩; rw [h1])
    go_ret2
    exact ⟨rfl, rfl⟩
  | true =>
    rw [h1] at h
    have h2 : inB cr 1 256 = false := by simpa using h
    clear h
    go_enter Try.func31, Try.ntmps31
    go_wp2_with (go_at_call 41; refine (IW.out _ _ _ _).mono ?_; rintro e w' ⟨rfl, rfl⟩; first | rw [h1] | rw [h2])
    go_ret2
    exact ⟨rfl, rfl⟩
theorem NewLink_yes (room cr : Int) (w : World) (h : newOk room cr = true) :
    Calls Try.prog 31 #[.int .i64 room, .int .i64 cr] w fun e w' => e = .returned (.tuple #[.pointer (some ⟨w.heap.size, 0, none⟩), .int .i64 0]) ∧ LinkAt w.heap.size w' w.heap.size room cr [] [] ∧ Below w.heap.size w w' := by
  have IW := Lib.hid isWithin_any
  unfold newOk at h
  rw [Bool.and_eq_true] at h
  obtain ⟨h1, h2⟩ := h
  have hr : RF (w.alloc (.cells #[.pointer (some ⟨w.heap.size, 0, none⟩), .int .i64 room, .int .i64 cr, .slice none 0 0, .slice none 0 0] 98)) w.heap.size 98 5 (fun i => ((#[.pointer (some ⟨w.heap.size, 0, none⟩), .int .i64 room, .int .i64 cr, .slice none 0 0, .slice none 0 0] : Array Value)[i]?).getD default) := RF_new w _ _ 5 _ rfl (fun i hi => by rw [Array.getElem?_eq_getElem hi]; rfl)
  have HR := Lib.hid hr
  clear hr
  go_enter Try.func31, Try.ntmps31
  go_wp2_with (go_at_call 41; refine (IW.out _ _ _ _).mono ?_; rintro e w' ⟨rfl, rfl⟩; first | rw [h1] | rw [h2])
  go_ret2
  exact ⟨rfl, ⟨_, Nat.le_refl _, HR.out, rfl, rfl, rfl, So.nil _ _, So.nil _ _, .inl rfl⟩, (Below.refl _ _).alloc (Nat.le_refl _) _⟩

theorem LkW.c0 {B : Nat} {W : World} {lb : Nat} {room cr : Int} {q u : Strs} {f : Nat → Value} (h : LkW B W lb room cr q u f) : W.cell? ⟨lb, 0, none⟩ = some (.pointer (some ⟨lb, 0, none⟩)) := by rw [h.rf.cell (i := 0) (by omega), h.f0]
theorem LkW.c1 {B : Nat} {W : World} {lb : Nat} {room cr : Int} {q u : Strs} {f : Nat → Value} (h : LkW B W lb room cr q u f) : W.cell? ⟨lb, 1, none⟩ = some (.int .i64 room) := by rw [h.rf.cell (i := 1) (by omega), h.f1]
theorem LkW.c2 {B : Nat} {W : World} {lb : Nat} {room cr : Int} {q u : Strs} {f : Nat → Value} (h : LkW B W lb room cr q u f) : W.cell? ⟨lb, 2, none⟩ = some (.int .i64 cr) := by rw [h.rf.cell (i := 2) (by omega), h.f2]
theorem LkW.c3 {B : Nat} {W : World} {lb : Nat} {room cr : Int} {q u : Strs} {f : Nat → Value} (h : LkW B W lb room cr q u f) : ∃ a c, W.cell? ⟨lb, 3, none⟩ = some (.slice a q.length c) := by
  obtain ⟨a, c, e, _⟩ := h.qs.form
  exact ⟨a, c, by rw [h.rf.cell (i := 3) (by omega), e]⟩
theorem LkW.c4 {B : Nat} {W : World} {lb : Nat} {room cr : Int} {q u : Strs} {f : Nat → Value} (h : LkW B W lb room cr q u f) : ∃ a c, W.cell? ⟨lb, 4, none⟩ = some (.slice a u.length c) := by
  obtain ⟨a, c, e, _⟩ := h.us.form
  exact ⟨a, c, by rw [h.rf.cell (i := 4) (by omega), e]⟩
theorem bool_rev {P : Program} {f : FuncId} {args : Array Value} {w : World} {v : Value} (h : Calls P f args w fun e w' => e = .returned v ∧ w = w') : Calls P f args w fun e w' => e = .returned v ∧ w' = w := h.mono fun _ _ h => ⟨h.1, h.2.symm⟩

/-- What Offer answers. -/
def offC (room : Int) (q : Strs) (s : List UInt8) : Int := if 16404 < s.length then 3 else if (q.length : Int) = room then 6 else 0
def offQ (room : Int) (q : Strs) (s : List UInt8) : Strs := if offC room q s = 0 then q ++ [s] else q
set_option maxHeartbeats 1600000 in
theorem Offer_any (B lb : Nat) (room cr : Int) (q u : Strs) (s : List UInt8) (w : World) (h : LinkAt B w lb room cr q u) (hr : room ≤ 256) (hq : q.length ≤ 256) :
    Calls Try.prog 34 #[.pointer (some ⟨lb, 0, none⟩), .string (str s)] w fun e w' => e = .returned (.int .i64 (offC room q s)) ∧ LinkAt B w' lb room cr (offQ room q s) u ∧ Below B w w' := by
  obtain ⟨f, h⟩ := h
  have H := Lib.hid h
  have c0 := h.c0
  have hsz := str_size s
  have IM := Lib.hid (isMade_any lb w c0)
  clear h c0
  by_cases h1 : 16404 < s.length
  · have hc : Hid (offC room q s = 3 ∧ offQ room q s = q) := Lib.hid (by
      have : offC room q s = 3 := by unfold offC; rw [if_pos h1]
      exact ⟨this, by unfold offQ; rw [if_neg (by omega)]⟩)
    go_enter Try.func34, Try.ntmps34
    go_wp2_with (go_at_call 53; refine IM.out.mono ?_; rintro e w' ⟨rfl, rfl⟩)
    go_ret
    exact ⟨ret_int hc.out.1.symm, by rw [hc.out.2]; exact ⟨f, H.out⟩, Below.refl _ _⟩
  · have c1 := H.out.c1
    obtain ⟨a3, k3, c3⟩ := H.out.c3
    have SZ := Lib.hid (fun n => bool_rev (size_any lb 3 a3 q.length k3 (w.drewN n) c3))
    have i1 : ¬ (16404 : Int) < (s.length : Int) := by omega
    by_cases h2 : (q.length : Int) = room
    · have hc : Hid (offC room q s = 6 ∧ offQ room q s = q) := Lib.hid (by
        have : offC room q s = 6 := by unfold offC; rw [if_neg h1, if_pos h2]
        exact ⟨this, by unfold offQ; rw [if_neg (by omega)]⟩)
      clear h1
      subst h2
      go_enter Try.func34, Try.ntmps34
      go_wp2_with (go_at_call 53; refine IM.out.mono ?_; rintro e w' ⟨rfl, rfl⟩)
      go_quiet ((go_at_call 54; with_reducible exact Calls.quiet_of_same (SZ.out _)))
      go_wp2_with fail
      go_ret
      exact ⟨ret_int hc.out.1.symm, by rw [hc.out.2]; exact ⟨f, H.out.below (Below.drewN (Below.refl _ _) _)⟩, Below.drewN (Below.refl _ _) _⟩
    · have hc : Hid (offC room q s = 0 ∧ offQ room q s = q ++ [s]) := Lib.hid (by
        have : offC room q s = 0 := by unfold offC; rw [if_neg h1, if_neg h2]
        exact ⟨this, by unfold offQ; rw [if_pos this]⟩)
      have hb2 : (((q.length : Nat) : Int) == room) = false := by simpa using h2
      have CL := Lib.hid (fun W => clone_any (str s) W (by omega))
      clear h1
      go_enter Try.func34, Try.ntmps34
      go_wp2_with (go_at_call 53; refine IM.out.mono ?_; rintro e w' ⟨rfl, rfl⟩)
      go_quiet ((go_at_call 54; with_reducible exact Calls.quiet_of_same (SZ.out _)))
      have H2 := Lib.hid (H.out.below (Below.drewN (Below.refl w.heap.size w) nq))
      have K2 : Hid (Below w.heap.size w (w.drewN nq)) := Lib.hid (Below.drewN (Below.refl w.heap.size w) nq)
      clear c1 c3 SZ IM
      generalize w.drewN nq = w2 at *
      go_wp2_with fail
      have K3 := Lib.hid K2.out.drew
      have H3 := Lib.hid (H2.out.below (Below.refl w2.heap.size w2).drew)
      have hB := H.out.hB
      go_region_law
        (first
          | (refine step_at (Eq.refl true) ?_; go_simp; go_at_call 56; ((with_reducible refine (CL.out _).mono ?_); rintro e w3 ⟨rfl, b3⟩; have K4 := Lib.hid (Below.up K3.out b3); have H4 := Lib.hid (H3.out.below b3); clear b3; dsimp only))
          | (refine step_at (Eq.refl true) ?_; go_simp; go_at_call 55; ((with_reducible refine (add_any B lb 3 5 98 (by decide) f (f 3) q s w3 H4.out.rf (by omega) rfl H4.out.qs (by have := H4.out.rf.lt; omega) (by omega)).mono ?_); rintro e w6 ⟨rfl, v', w5, rfl, h5, hw5, hlb⟩; have H5 := Lib.hid (link_add_q H4.out h5 hw5 hlb); clear h5 hw5 hlb; dsimp only)))
      all_goals
        go_wp2_with fail
        go_ret
        exact ⟨ret_int hc.out.1.symm, by rw [hc.out.2]; exact H5.out.1, (K4.out.mono (by have := H.out.rf.lt; omega)).trans H5.out.2⟩

/-- What a cut keeps. -/
theorem send_keep {B : Nat} {w w1 w5 : World} {lb g : Nat} {room cr cr1 : Int} {q u q1 u1 : Strs} {f0 f : Nat → Value} (h0 : LkW B w lb room cr1 q1 u1 f0) (h : LkW B w1 lb room cr q u f)
    (hw : ∀ k, k ≠ lb → w1.heap[k]? = w.heap[k]?) (hg : (f 3).ownBlock = some g) (o : OnB g w1 w5) (v' : Value) :
    ∀ k, k < w.heap.size → (k < B ∨ ∃ c fz, w.heap[k]? = some (.cells c 3 fz)) → (w5.setCell ⟨lb, 3, none⟩ v').heap[k]? = w.heap[k]? := by
  intro k hk hx
  have hB := h.hB
  have hgB := (h.qs.lt g hg).1
  have e1 : k ≠ lb := by
    rintro rfl
    rcases hx with a | ⟨c, fz, e⟩
    · omega
    · obtain ⟨c2, fz2, e2⟩ := h0.rf.kind
      rw [e] at e2
      cases e2
  have e2 : k ≠ g := by
    rintro rfl
    rcases hx with a | ⟨c, fz, e⟩
    · omega
    · obtain ⟨c2, fz2, e2⟩ := Rw.kind h.qs k hg
      rw [hw k e1, e] at e2
      cases e2
  rw [Below.heap_setCell _ _ _ _ e1, o.2.2 k e2, hw k e1]

def sndB (cr : Int) (q : Strs) : Bool := !(q.isEmpty) && decide (cr ≠ 0)
set_option maxHeartbeats 3200000 in
theorem Send_no (B lb : Nat) (room cr : Int) (q u : Strs) (v : Value) (w : World) (h : LinkAt B w lb room cr q u) (hs : sndB cr q = false) (hq : q.length ≤ 256) (hv : ∃ a n c, v = .slice a n c) :
    Calls Try.prog 36 #[.pointer (some ⟨lb, 0, none⟩), v] w fun e w' => e = .returned (.bool false) ∧ w = w' := by
  obtain ⟨f, h⟩ := h
  obtain ⟨va, vn, vc, rfl⟩ := hv
  have IM := Lib.hid (isMade_any lb w h.c0)
  have c2 := h.c2
  obtain ⟨a3, k3, c3⟩ := h.c3
  have SZ := Lib.hid (size_any lb 3 a3 q.length k3 w c3)
  clear h c3
  cases q with
  | nil =>
    go_enter Try.func36, Try.ntmps36
    go_wp2_with (first
      | (go_at_call 53; refine IM.out.mono ?_; rintro e w' ⟨rfl, rfl⟩)
      | (go_at_call 54; refine SZ.out.mono ?_; rintro e w' ⟨rfl, rfl⟩; rw [show List.length ([] : Strs) = 0 from rfl]))
    go_ret
    exact ⟨rfl, rfl⟩
  | cons x q =>
    have hcr : cr = 0 := by simpa [sndB] using hs
    subst hcr
    have hne : ((((x :: q).length : Nat) : Int) == 0) = false := by simp; omega
    obtain ⟨n, hn⟩ : ∃ n, n = (x :: q).length := ⟨_, rfl⟩
    rw [← hn] at SZ hne
    clear hn hs
    go_enter Try.func36, Try.ntmps36
    go_wp2_with (first
      | (go_at_call 53; refine IM.out.mono ?_; rintro e w' ⟨rfl, rfl⟩)
      | (go_at_call 54; refine SZ.out.mono ?_; rintro e w' ⟨rfl, rfl⟩))
    all_goals
      go_ret
      exact ⟨rfl, rfl⟩
set_option maxHeartbeats 3200000 in
theorem Send_yes (B lb : Nat) (room cr : Int) (x : List UInt8) (q u : Strs) (v : Value) (fl : List Int) (w : World) (h : LinkAt B w lb room cr (x :: q) u) (hcr : 1 ≤ cr ∧ cr ≤ 256) (hq : q.length ≤ 256) (hu : u.length ≤ 1000) (hx : x.length ≤ 1000000) (hv : InS w v fl) (hfl : fl.length ≤ 1099511627776) (hBw : B ≤ w.heap.size) (hbv : ∀ W : World, (∀ k, k < w.heap.size → (k < B ∨ ∃ c fz, w.heap[k]? = some (.cells c 3 fz)) → W.heap[k]? = w.heap[k]?) → InS W v fl) :
    Calls Try.prog 36 #[.pointer (some ⟨lb, 0, none⟩), v] w fun e w' => e = .returned (.bool true) ∧ LinkAt B w' lb room (cr - 1) q (u ++ [flL x fl]) ∧ Below B w w' := by
  obtain ⟨f, h⟩ := h
  have H := Lib.hid h
  have IM := Lib.hid (isMade_any lb w h.c0)
  have HBV := Lib.hid hbv
  obtain ⟨va, vc, rfl, _⟩ := hv.form
  have c2 := h.c2
  have f2 := h.rf.frozen (i := 2) (by omega)
  obtain ⟨a3, k3, c3⟩ := h.c3
  have SZ := Lib.hid (size_any lb 3 a3 (x :: q).length k3 w c3)
  obtain ⟨hk, bk⟩ := link_credit h (cr - 1)
  have HK := Lib.hid hk
  have BK := Lib.hid bk
  have hne : ((((x :: q).length : Nat) : Int) == 0) = false := by simp; omega
  obtain ⟨n, hn⟩ : ∃ n, n = (x :: q).length := ⟨_, rfl⟩
  rw [← hn] at SZ hne
  have hcr0 : (cr == 0) = false := by simp; omega
  clear h c3 hk bk hn hv hbv
  go_enter Try.func36, Try.ntmps36
  go_wp2_with (first
    | (go_at_call 53; refine IM.out.mono ?_; rintro e w' ⟨rfl, rfl⟩)
    | (go_at_call 54; refine SZ.out.mono ?_; rintro e w' ⟨rfl, rfl⟩))
  have W1 : Hid (∀ k, k ≠ lb → (w.setCell ⟨lb, 2, none⟩ (.int .i64 (cr - 1))).heap[k]? = w.heap[k]?) := Lib.hid (fun k hk => Below.heap_setCell _ _ _ _ hk)
  generalize (w.setCell ⟨lb, 2, none⟩ (.int .i64 (cr - 1))) = w1 at *
  have hB := H.out.hB
  have hbl := H.out.rf.lt
  clear c2 f2 SZ IM hne hcr0
  generalize (updF f 2 (.int .i64 (cr - 1))) = f1 at *
  have BD := Lib.hid BK.out.drew
  have HD := Lib.hid (HK.out.below (Below.refl w1.heap.size w1).drew)
  go_region_law
    (first
      | (refine step_at (Eq.refl true) ?_; go_simp; go_at_call 59; ((with_reducible refine (cut_any B lb 3 5 98 (by decide) f1 (f1 3) x q w1.drew HD.out.rf (by omega) rfl HD.out.qs (by omega)).mono ?_); rintro e w6 ⟨rfl, v', w5, g, rfl, h5, k1, k2, k3, o5⟩; have H5 := Lib.hid (link_cut_q HD.out h5 k1 k2 k3 o5); have B5 := Lib.hid (BD.out.trans H5.out.2); have IS := Lib.hid (HBV.out _ (send_keep H.out HD.out (fun k hk => W1.out k hk) k1 o5 v')); clear h5 k1 k2 k3 o5; dsimp only))
      | (refine step_at (Eq.refl true) ?_; go_simp; go_at_call 58; ((with_reducible refine (inverted_any x _ fl _ IS.out hx hfl).mono ?_); rintro e w7 ⟨rfl, b7⟩; have H7 := Lib.hid (H5.out.1.below b7); have B7 := Lib.hid (B5.out.trans (b7.mono (by have := B5.out.size; omega))); clear b7; dsimp only))
      | (refine step_at (Eq.refl true) ?_; go_simp; go_at_call 55; obtain ⟨f7, h7⟩ := H7.out; ((with_reducible refine (add_any B lb 4 5 98 (by decide) f7 (f7 4) u (flL x fl) w7 h7.rf (by omega) rfl h7.us (by have := B7.out.size; omega) (by omega)).mono ?_); rintro e w9 ⟨rfl, v9, w8, rfl, h8, hw8, hlb8⟩; have H9 := Lib.hid (link_add_u h7 h8 hw8 hlb8); clear h8 hw8 hlb8 h7; dsimp only)))
  all_goals
    go_wp2_with fail
    go_ret
    exact ⟨rfl, H9.out.1, B7.out.trans H9.out.2⟩
set_option maxHeartbeats 3200000 in
theorem Take_no (B lb : Nat) (room cr : Int) (q : Strs) (w : World) (h : LinkAt B w lb room cr q []) :
    Calls Try.prog 38 #[.pointer (some ⟨lb, 0, none⟩)] w fun e w' => e = .returned (.tuple #[.string ⟨#[]⟩, .bool false]) ∧ w = w' := by
  obtain ⟨f, h⟩ := h
  have IM := Lib.hid (isMade_any lb w h.c0)
  obtain ⟨a4, k4, c4⟩ := h.c4
  have SZ := Lib.hid (size_any lb 4 a4 ([] : Strs).length k4 w c4)
  clear h c4
  go_enter Try.func38, Try.ntmps38
  go_wp2_with (first
    | (go_at_call 53; refine IM.out.mono ?_; rintro e w' ⟨rfl, rfl⟩)
    | (go_at_call 54; refine SZ.out.mono ?_; rintro e w' ⟨rfl, rfl⟩; rw [show List.length ([] : Strs) = 0 from rfl]))
  go_ret2
  exact ⟨rfl, rfl⟩
set_option maxHeartbeats 3200000 in
theorem Take_yes (B lb : Nat) (room cr : Int) (x : List UInt8) (q u : Strs) (w : World) (h : LinkAt B w lb room cr q (x :: u)) (hcr : 0 ≤ cr ∧ cr ≤ 1000) (hu : u.length ≤ 1000) :
    Calls Try.prog 38 #[.pointer (some ⟨lb, 0, none⟩)] w fun e w' => e = .returned (.tuple #[.string (str x), .bool true]) ∧ LinkAt B w' lb room (cr + 1) q u ∧ Below B w w' := by
  obtain ⟨f, h⟩ := h
  have IM := Lib.hid (isMade_any lb w h.c0)
  have c2 := h.c2
  have f2 := h.rf.frozen (i := 2) (by omega)
  obtain ⟨a4, k4, c4⟩ := h.c4
  have SZ := Lib.hid (size_any lb 4 a4 (x :: u).length k4 w c4)
  obtain ⟨hk, bk⟩ := link_credit h (cr + 1)
  have HK := Lib.hid hk
  have BK := Lib.hid bk
  have hne : ((((x :: u).length : Nat) : Int) == 0) = false := by simp; omega
  obtain ⟨n, hn⟩ : ∃ n, n = (x :: u).length := ⟨_, rfl⟩
  rw [← hn] at SZ hne
  clear h c4 hk bk hn
  go_enter Try.func38, Try.ntmps38
  go_wp2_with (first
    | (go_at_call 53; refine IM.out.mono ?_; rintro e w' ⟨rfl, rfl⟩)
    | (go_at_call 54; refine SZ.out.mono ?_; rintro e w' ⟨rfl, rfl⟩)
    | (go_at_call 59; refine (cut_any B lb 4 5 98 (by decide) _ _ x u _ HK.out.rf (by omega) rfl HK.out.us (by omega)).mono ?_; rintro e w6 ⟨rfl, v', w5, g, rfl, h5, k1, k2, k3, o5⟩; have H5 := Lib.hid (link_cut_u HK.out h5 k1 k2 k3 o5); clear h5 k1 k2 k3 o5))
  go_ret2
  exact ⟨rfl, H5.out.1, BK.out.trans H5.out.2⟩
set_option maxHeartbeats 3200000 in
theorem Waiting_any (B lb : Nat) (room cr : Int) (q u : Strs) (w : World) (h : LinkAt B w lb room cr q u) :
    Calls Try.prog 39 #[.pointer (some ⟨lb, 0, none⟩)] w fun e w' => e = .returned (.tuple #[.int .i64 (q.length : Nat), .int .i64 (u.length : Nat), .int .i64 cr]) ∧ LinkAt B w' lb room cr q u ∧ Below B w w' := by
  obtain ⟨f, h⟩ := h
  have H := Lib.hid h
  have IM := Lib.hid (isMade_any lb w h.c0)
  have c2 := h.c2
  obtain ⟨a3, k3, c3⟩ := h.c3
  obtain ⟨a4, k4, c4⟩ := h.c4
  have S3 := Lib.hid (fun n => bool_rev (size_any lb 3 a3 q.length k3 (w.drewN n) c3))
  have S4 := Lib.hid (fun n => bool_rev (size_any lb 4 a4 u.length k4 (w.drewN n) c4))
  clear h c3 c4
  go_enter Try.func39, Try.ntmps39
  go_wp2_with (go_at_call 53; refine IM.out.mono ?_; rintro e w' ⟨rfl, rfl⟩)
  go_quiet ((go_at_call 54; first | (with_reducible exact Calls.quiet_of_same (S3.out _)) | (with_reducible exact Calls.quiet_of_same (S4.out _))))
  go_wp2_with fail
  go_ret3
  exact ⟨rfl, ⟨f, H.out.below (Below.drewN (Below.refl _ _) _)⟩, Below.drewN (Below.refl _ _) _⟩
end Go.Proofs.Ytanillahofohgaa
