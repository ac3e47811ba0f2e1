/- Layer 5: the methods of the document's link that put strings. -/
import Derived.Test.YtanillahofohgaaReS
set_option linter.unusedVariables false
set_option linter.unusedSimpArgs false
set_option maxRecDepth 100000
namespace Go.Proofs.Ytanillahofohgaa
open Go.RowKit

theorem refOffer_long (P : Nat → Prop) (room c : Int) (qv uv : Value) (q : Strs) (s : List UInt8) (w : World) (hq : StS P w qv q) (hu : ∃ a n k, uv = .slice a n k) (h : 16404 < s.length) :
    Calls Try.prog 33 #[.agg #[.int .i64 room, .int .i64 c, qv, uv], .string (str s)] w fun e w' => e = .returned (.tuple #[.agg #[.int .i64 room, .int .i64 c, qv, uv], .int .i64 3]) ∧ Below w.heap.size w w' := by
  obtain ⟨qa, qc, rfl, _⟩ := hq.form
  obtain ⟨ua, un, uc, rfl⟩ := hu
  have hsz := str_size s
  have i1 : (16404 : Int) < (s.length : Int) := by omega
  have T := Lib.hid (two_new w room c (.slice qa q.length qc) (.slice ua un uc))
  clear hq h
  go_enter Try.func33, Try.ntmps33
  go_wp2_with fail
  obtain ⟨c0, c1, c2, c3⟩ := T.out.1.cells
  exact bodyPost_ret (v := .tuple #[.agg #[.int .i64 room, .int .i64 c, .slice qa q.length qc, .slice ua un uc], .int .i64 3]) (by simp [results, Try.results33, go_sem, c0, c1, c2, c3]) rfl ⟨rfl, T.out.2⟩
theorem refOffer_full (P : Nat → Prop) (room c : Int) (qv uv : Value) (q : Strs) (s : List UInt8) (w : World) (hq : StS P w qv q) (hu : ∃ a n k, uv = .slice a n k) (h : s.length ≤ 16404) (hr : (q.length : Int) = room) :
    Calls Try.prog 33 #[.agg #[.int .i64 room, .int .i64 c, qv, uv], .string (str s)] w fun e w' => e = .returned (.tuple #[.agg #[.int .i64 room, .int .i64 c, qv, uv], .int .i64 6]) ∧ Below w.heap.size w w' := by
  obtain ⟨qa, qc, rfl, _⟩ := hq.form
  obtain ⟨ua, un, uc, rfl⟩ := hu
  have hsz := str_size s
  have i1 : ¬ (16404 : Int) < (s.length : Int) := by omega
  have T := Lib.hid (two_new w room c (.slice qa q.length qc) (.slice ua un uc))
  subst hr
  clear hq h
  go_enter Try.func33, Try.ntmps33
  go_wp2_with fail
  obtain ⟨c0, c1, c2, c3⟩ := T.out.1.cells
  exact bodyPost_ret (v := .tuple #[.agg #[.int .i64 q.length, .int .i64 c, .slice qa q.length qc, .slice ua un uc], .int .i64 6]) (by simp [results, Try.results33, go_sem, c0, c1, c2, c3]) rfl ⟨rfl, T.out.2⟩
/-- What lies in memory while a string is put behind a row: the box, the result, a row. -/
structure Own3 (w W : World) (room c : Int) (qv uv : Value) (v : Value) (l : Strs) : Prop where
  y : YAt W w.heap.size room c qv uv
  r : YAt W (w.heap.size + 1) 0 0 (.slice none 0 0) (.slice none 0 0)
  s : So w.heap.size W v l
  o : ∀ g, v.ownBlock = some g → w.heap.size + 2 ≤ g
  b : Below w.heap.size w W
  z : w.heap.size + 2 ≤ W.heap.size
theorem Own3.below {w W W' : World} {room c : Int} {qv uv v : Value} {l : Strs} (h : Own3 w W room c qv uv v l) (k : Below W.heap.size W W') : Own3 w W' room c qv uv v l :=
  ⟨h.y.below k, h.r.below k, h.s.below k, h.o, Below.up h.b k, by have := k.size; have := h.z; omega⟩
theorem Own3.put {w W W' : World} {room c : Int} {qv uv v v' : Value} {l l' : Strs} (h : Own3 w W room c qv uv v l) (hs : So w.heap.size W' v' l') (hg : W.grownBy W' v.ownBlock) (hv : v'.ownBlock = v.ownBlock ∨ ∃ g, v'.ownBlock = some g ∧ W.heap.size ≤ g) : Own3 w W' room c qv uv v' l' := by
  have hz := h.z
  refine ⟨h.y.same (hg.block _ (by omega) fun e => ?_), h.r.same (hg.block _ (by omega) fun e => ?_), hs, fun g e => ?_, h.b.trans (grown_below hg (fun g e => by have := h.o g e; omega) h.b.size), by have := hg.size; omega⟩
  · have := h.o _ e.symm; omega
  · have := h.o _ e.symm; omega
  · rcases hv with a | ⟨g', a, b⟩
    · exact h.o g (by rw [← a, e])
    · rw [e] at a; cases a; omega
theorem own3_new (w : World) (room c : Int) (qv uv : Value) :
    Own3 w (((w.alloc (.cells #[.int .i64 room, .int .i64 c, qv, uv] 65)).alloc (.cells #[.int .i64 0, .int .i64 0, .slice none 0 0, .slice none 0 0] 65)).alloc (.cells #[] 9)) room c qv uv (.slice (some ⟨w.heap.size + 1 + 1, 0, none⟩) 0 0) [] := by
  have y0 := YAt.fresh w room c qv uv
  have k0 : Below w.heap.size w (w.alloc (.cells #[.int .i64 room, .int .i64 c, qv, uv] 65)) := (Below.refl _ _).alloc (Nat.le_refl _) _
  have z0 : (w.alloc (.cells #[.int .i64 room, .int .i64 c, qv, uv] 65)).heap.size = w.heap.size + 1 := by simp
  generalize w.alloc (.cells #[.int .i64 room, .int .i64 c, qv, uv] 65) = W0 at *
  have y1 := YAt.fresh W0 0 0 (.slice none 0 0) (.slice none 0 0)
  have k1 : Below W0.heap.size W0 (W0.alloc (.cells #[.int .i64 0, .int .i64 0, .slice none 0 0, .slice none 0 0] 65)) := (Below.refl _ _).alloc (Nat.le_refl _) _
  have z1 : (W0.alloc (.cells #[.int .i64 0, .int .i64 0, .slice none 0 0, .slice none 0 0] 65)).heap.size = w.heap.size + 1 + 1 := by simp [z0]
  rw [z0] at y1
  generalize W0.alloc (.cells #[.int .i64 0, .int .i64 0, .slice none 0 0, .slice none 0 0] 65) = W1 at *
  have e := So.empty W1 w.heap.size (by omega)
  have k2 : Below W1.heap.size W1 (W1.alloc (.cells #[] 9)) := (Below.refl _ _).alloc (Nat.le_refl _) _
  have z2 : (W1.alloc (.cells #[] 9)).heap.size = w.heap.size + 1 + 1 + 1 := by simp [z1]
  rw [z1] at e
  exact ⟨(y0.below k1).below k2, y1.below k2, e, fun g hg => by cases hg; exact Nat.le_refl _, Below.up (Below.up k0 k1) k2, by omega⟩
/-- What is left when field `k` of the box has been set, and the box has been stored as the result. -/
theorem Own3.done {w W : World} {room c : Int} {qv uv v : Value} {l : Strs} (h : Own3 w W room c qv uv v l) (k : Nat) (hk : k < 4) (x : Value) (r' c' : Int) (q' u' : Value) :
    YAt (((((W.setCell ⟨w.heap.size, k, none⟩ x).setCell ⟨w.heap.size + 1, 0, none⟩ (.int .i64 r')).setCell ⟨w.heap.size + 1, 1, none⟩ (.int .i64 c')).setCell ⟨w.heap.size + 1, 2, none⟩ q').setCell ⟨w.heap.size + 1, 3, none⟩ u') (w.heap.size + 1) r' c' q' u' ∧
    Below w.heap.size w (((((W.setCell ⟨w.heap.size, k, none⟩ x).setCell ⟨w.heap.size + 1, 0, none⟩ (.int .i64 r')).setCell ⟨w.heap.size + 1, 1, none⟩ (.int .i64 c')).setCell ⟨w.heap.size + 1, 2, none⟩ q').setCell ⟨w.heap.size + 1, 3, none⟩ u') ∧
    (∀ y m, So w.heap.size W y m → (∀ g, y.ownBlock = some g → w.heap.size + 2 ≤ g) → So w.heap.size (((((W.setCell ⟨w.heap.size, k, none⟩ x).setCell ⟨w.heap.size + 1, 0, none⟩ (.int .i64 r')).setCell ⟨w.heap.size + 1, 1, none⟩ (.int .i64 c')).setCell ⟨w.heap.size + 1, 2, none⟩ q').setCell ⟨w.heap.size + 1, 3, none⟩ u') y m) := by
  refine ⟨YAt.set4 (h.r.same (Below.heap_setCell _ _ _ _ (by show w.heap.size + 1 ≠ w.heap.size; omega))) r' c' q' u', ?_, fun y m hs ho => hs.same fun g hg => ?_⟩
  · exact ((((h.b.setCell (p := ⟨w.heap.size, k, none⟩) (Nat.le_refl _) x).setCell (p := ⟨w.heap.size + 1, 0, none⟩) (by show w.heap.size ≤ w.heap.size + 1; omega) _).setCell (p := ⟨w.heap.size + 1, 1, none⟩) (by show w.heap.size ≤ w.heap.size + 1; omega) _).setCell (p := ⟨w.heap.size + 1, 2, none⟩) (by show w.heap.size ≤ w.heap.size + 1; omega) _).setCell (p := ⟨w.heap.size + 1, 3, none⟩) (by show w.heap.size ≤ w.heap.size + 1; omega) _
  · have := ho g hg
    rw [Below.heap_setCell _ _ _ _ (by show g ≠ w.heap.size + 1; omega), Below.heap_setCell _ _ _ _ (by show g ≠ w.heap.size + 1; omega), Below.heap_setCell _ _ _ _ (by show g ≠ w.heap.size + 1; omega), Below.heap_setCell _ _ _ _ (by show g ≠ w.heap.size + 1; omega), Below.heap_setCell _ _ _ _ (by show g ≠ w.heap.size; omega)]
def OfPost (w : World) (room c : Int) (uv : Value) (q : Strs) (s : List UInt8) (e : Ending) (w' : World) : Prop := ∃ q2, e = .returned (.tuple #[.agg #[.int .i64 room, .int .i64 c, q2, uv], .int .i64 0]) ∧ StS (fun b => w.heap.size ≤ b) w' q2 (q ++ [s]) ∧ Below w.heap.size w w'
set_option maxHeartbeats 3200000 in
theorem refOffer_yes (P : Nat → Prop) (room c : Int) (qv uv : Value) (q : Strs) (s : List UInt8) (w : World) (hq : StS P w qv q) (hu : ∃ a n k, uv = .slice a n k) (h : s.length ≤ 16404) (hr : (q.length : Int) ≠ room) (hql : q.length ≤ 1000) :
    Calls Try.prog 33 #[.agg #[.int .i64 room, .int .i64 c, qv, uv], .string (str s)] w (OfPost w room c uv q s) := by
  obtain ⟨qa, qc, rfl, _⟩ := hq.form
  obtain ⟨ua, un, uc, rfl⟩ := hu
  have hsz := str_size s
  have i1 : ¬ (16404 : Int) < (s.length : Int) := by omega
  have i2 : (((q.length : Nat) : Int) == room) = false := by simpa using hr
  have O := Lib.hid (own3_new w room c (.slice qa q.length qc) (.slice ua un uc))
  have SRC := Lib.hid (hq.keep (W' := ((w.alloc (.cells #[.int .i64 room, .int .i64 c, .slice qa q.length qc, .slice ua un uc] 65)).alloc (.cells #[.int .i64 0, .int .i64 0, .slice none 0 0, .slice none 0 0] 65)).alloc (.cells #[] 9)) (fun b hb _ => O.out.b.block b hb)).src
  have HB := Lib.hid O.out.b.size
  clear hq h hr
  go_enter Try.func33, Try.ntmps33
  go_wp2_with (at_builtin; refine append_strs rfl _ _ rfl rfl O.out.s _ rfl q SRC.out (by simp; omega) HB.out ?_)
  intro v3 w3 h3 g3 l3
  have O4 := Lib.hid ((O.out.put h3 g3 (by simpa using l3)).below (Below.alloc (Below.refl _ _) (Nat.le_refl _) (.cells #[.string (str s)] 9)))
  have HB4 := Lib.hid O4.out.b.size
  clear h3 g3 l3 O SRC HB
  go_wp2_with (at_builtin; refine append_str1 rfl _ _ rfl rfl O4.out.s w3.heap.size s rfl (new_one _ _ _) (by omega) HB4.out ?_)
  intro v5 w5 h5 g5 l5
  have O5 := Lib.hid (O4.out.put h5 g5 (by simpa using l5))
  clear h5 g5 l5 O4 HB4
  obtain ⟨a5, k5, e5, _⟩ := O5.out.s.form
  rw [show (q ++ [s]).length = q.length + 1 by simp] at e5
  subst e5
  obtain ⟨c0, c1, c2, c3⟩ := O5.out.y.cells
  obtain ⟨d0, d1, d2, d3⟩ := O5.out.y.frozens
  obtain ⟨f0, f1, f2, f3⟩ := O5.out.r.frozens
  obtain ⟨g0, g1, g2, g3⟩ := O5.out.r.cells
  have D := Lib.hid (O5.out.done 2 (by omega) (.slice a5 (q.length + 1) k5) room c (.slice a5 (q.length + 1) k5) (.slice ua un uc))
  go_wp2_with fail
  obtain ⟨e0, e1, e2, e3⟩ := D.out.1.cells
  exact bodyPost_ret (v := .tuple #[.agg #[.int .i64 room, .int .i64 c, .slice a5 (q.length + 1) k5, .slice ua un uc], .int .i64 0]) (by simp [results, Try.results33, go_sem, e0, e1, e2, e3]) rfl ⟨_, rfl, (D.out.2.2 _ _ O5.out.s O5.out.o).sts.mono (fun b _ h => h.1), D.out.2.1⟩
end Go.Proofs.Ytanillahofohgaa
