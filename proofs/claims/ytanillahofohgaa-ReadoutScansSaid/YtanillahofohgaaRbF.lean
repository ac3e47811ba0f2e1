/- Layer 5: the law ReadoutPacks. -/
import Derived.Test.YtanillahofohgaaRbE
set_option linter.unusedVariables false
set_option linter.unusedSimpArgs false
set_option maxRecDepth 100000
namespace Go.Proofs.Ytanillahofohgaa
open Go.RowKit

/-- The cells of a frame that lies at block b. -/
def Box (W : World) (b : Nat) (f : Fr) (v : Value) : Prop :=
  W.cell? ⟨b, 0, none⟩ = some (.int .i64 f.l) ∧ W.cell? ⟨b, 1, none⟩ = some (.int .i64 f.s) ∧ W.cell? ⟨b, 2, none⟩ = some (.int .i64 f.e) ∧ W.cell? ⟨b, 3, none⟩ = some (.int .i64 f.t) ∧ W.cell? ⟨b, 4, none⟩ = some v
theorem Box.below {W W' : World} {b : Nat} {f : Fr} {v : Value} (h : Box W b f v) (k : Below W.heap.size W W') : Box W' b f v :=
  ⟨bc k h.1, bc k h.2.1, bc k h.2.2.1, bc k h.2.2.2.1, bc k h.2.2.2.2⟩
theorem Box.fresh (W : World) (f : Fr) (v : Value) : Box (W.alloc (.cells #[.int .i64 f.l, .int .i64 f.s, .int .i64 f.e, .int .i64 f.t, v] 38)) W.heap.size f v := new_five W _ _ _ _ _ _

set_option maxHeartbeats 3200000 in
theorem SameFrame_same (f : Fr) (va vb : Value) (w : World) (ha : HiS w va f.hs) (hb : HiS w vb f.hs) (hl : f.hs.length ≤ 1099511627776) :
    Calls Try.prog 23 #[f.val va, f.val vb] w fun e w' => e = .returned (.bool true) ∧ Below w.heap.size w w' := by
  obtain ⟨a, ca, rfl, _⟩ := ha.form
  obtain ⟨b, cb, rfl, _⟩ := hb.form
  obtain ⟨W1, hW1⟩ : ∃ W, W = w.alloc (.cells #[.int .i64 f.l, .int .i64 f.s, .int .i64 f.e, .int .i64 f.t, .slice a f.hs.length ca] 38) := ⟨_, rfl⟩
  have k1 : Below w.heap.size w W1 := by rw [hW1]; exact (Below.refl _ _).alloc (Nat.le_refl _) _
  have x1 : Box W1 w.heap.size f (.slice a f.hs.length ca) := by rw [hW1]; exact Box.fresh _ _ _
  obtain ⟨W2, hW2⟩ : ∃ W, W = W1.alloc (.cells #[.int .i64 f.l, .int .i64 f.s, .int .i64 f.e, .int .i64 f.t, .slice b f.hs.length cb] 38) := ⟨_, rfl⟩
  have k2 : Below W1.heap.size W1 W2 := by rw [hW2]; exact (Below.refl _ _).alloc (Nat.le_refl _) _
  have x2 : Box W2 W1.heap.size f (.slice b f.hs.length cb) := by rw [hW2]; exact Box.fresh _ _ _
  have z1 : W1.heap.size = w.heap.size + 1 := by rw [hW1]; simp
  obtain ⟨c0, c1, c2, c3, c4⟩ := x1.below k2
  obtain ⟨d0, d1, d2, d3, d4⟩ := x2
  have SH := Lib.hid (SameHits_any _ _ f.hs f.hs W2 ((ha.below k1).below k2) ((hb.below k1).below k2) hl)
  have B2 := Lib.hid (Below.up k1 k2)
  have hfa : f.val (.slice a f.hs.length ca) = .agg #[.int .i64 f.l, .int .i64 f.s, .int .i64 f.e, .int .i64 f.t, .slice a f.hs.length ca] := rfl
  have hfb : f.val (.slice b f.hs.length cb) = .agg #[.int .i64 f.l, .int .i64 f.s, .int .i64 f.e, .int .i64 f.t, .slice b f.hs.length cb] := rfl
  rw [hfa, hfb]
  rw [z1] at d0 d1 d2 d3 d4
  clear ha hb k1 k2 x1 hfa hfb z1
  rw [hW1] at hW2
  clear hW1
  go_enter Try.func23, Try.ntmps23
  go_wp2_with fail
  rw [← hW2]
  clear hW2
  go_wp2_with fail
  refine SH.out.mono ?_
  rintro e w3 ⟨rfl, b3⟩
  rw [show decide True = true from rfl]
  go_wp2_with fail
  go_ret
  exact ⟨rfl, Below.up B2.out b3⟩

end Go.Proofs.Ytanillahofohgaa
