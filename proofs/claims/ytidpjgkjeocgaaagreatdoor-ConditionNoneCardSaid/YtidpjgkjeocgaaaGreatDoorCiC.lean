/- Layer 4: the law's own functions at a book that no call made: Same, long, does. -/
import Derived.Test.YtidpjgkjeocgaaaGreatDoorCiB
set_option linter.unusedVariables false
set_option linter.unusedSimpArgs false
namespace Go.Proofs.YtidpjgkjeocgaaaGreatDoor
open Go.RowKit Go.Shelf
attribute [local go_sem ↓] Go.wp_at_zero Go.wp_at_succ

set_option maxRecDepth 100000 in
set_option maxHeartbeats 1600000 in
theorem Same_zero (w : World) : Calls Tryz.prog 11 #[.agg #[.string ⟨#[]⟩, .int .i64 0, .slice none 0 0, .slice none 0 0, .slice none 0 0, .slice none 0 0, .slice none 0 0, .slice none 0 0, .slice none 0 0], .agg #[.string ⟨#[]⟩, .int .i64 0, .slice none 0 0, .slice none 0 0, .slice none 0 0, .slice none 0 0, .slice none 0 0, .slice none 0 0, .slice none 0 0]] w fun e w' => e = .returned (.bool true) ∧ Below w.heap.size w w' := by
  have b0 : Below w.heap.size w (w.alloc (.cells #[.string ⟨#[]⟩, .int .i64 0, .slice none 0 0, .slice none 0 0, .slice none 0 0, .slice none 0 0, .slice none 0 0, .slice none 0 0, .slice none 0 0] 44)) := (Below.refl _ _).alloc (Nat.le_refl _) _
  have b1 : Below (w.alloc (.cells #[.string ⟨#[]⟩, .int .i64 0, .slice none 0 0, .slice none 0 0, .slice none 0 0, .slice none 0 0, .slice none 0 0, .slice none 0 0, .slice none 0 0] 44)).heap.size (w.alloc (.cells #[.string ⟨#[]⟩, .int .i64 0, .slice none 0 0, .slice none 0 0, .slice none 0 0, .slice none 0 0, .slice none 0 0, .slice none 0 0, .slice none 0 0] 44)) ((w.alloc (.cells #[.string ⟨#[]⟩, .int .i64 0, .slice none 0 0, .slice none 0 0, .slice none 0 0, .slice none 0 0, .slice none 0 0, .slice none 0 0, .slice none 0 0] 44)).alloc (.cells #[.string ⟨#[]⟩, .int .i64 0, .slice none 0 0, .slice none 0 0, .slice none 0 0, .slice none 0 0, .slice none 0 0, .slice none 0 0, .slice none 0 0] 44)) := (Below.refl _ _).alloc (Nat.le_refl _) _
  have B1 := Lib.hid (Below.up b0 b1)
  clear b0 b1
  go_enter Tryz.func11, Tryz.ntmps11
  go_wp2_with fail
  refine (SameKinds_zero _).mono ?_
  rintro e w1 ⟨rfl, b2⟩
  have B2 := Lib.hid (Below.up B1.out b2)
  clear b2
  go_wp2_with fail
  go_ret
  exact ⟨rfl, B2.out⟩
def IsBool' (v : Value) : Prop := ∃ b, v = .bool b
set_option maxRecDepth 100000 in
set_option maxHeartbeats 1600000 in
theorem long_any (ob : Nat) (a : Option Addr) (n c : Nat) (s : ByteArray) (w : World) (c4 : w.cell? ⟨ob, 4, none⟩ = some (.slice a n c)) (c5 : w.cell? ⟨ob, 5, none⟩ = some (.string s)) :
    Calls Tryz.prog 4 #[.slice (some ⟨ob, 0, none⟩) 1 1] w fun e w' => ∃ v, e = .returned v ∧ IsBool' v ∧ Below w.heap.size w w' := by
  go_enter Tryz.func4, Tryz.ntmps4
  go_wp2_with fail
  refine wp_loop_rounds 2 ?_
  rw [rounds_succ]
  go_wp2_with fail
  go_quiet (fail)
  all_goals
    go_wp2_with fail
    rw [rounds_succ]
    go_wp2_with fail
    go_ret
    exact ⟨_, rfl, ⟨_, rfl⟩, Below.drewN (Below.refl _ _) _⟩

set_option maxRecDepth 100000 in
set_option maxHeartbeats 3200000 in
theorem does_dead (pv : Value) (x K V T : Int) (a : Option Addr) (n c : Nat) (s : ByteArray) (p0 p1 p2 p3 p4 p5 p6 : Int) (w : World) (h : Dead w pv) (x0 : 0 ≤ x) (x1 : x ≤ 255) : Calls Tryz.prog 6 #[pv, .agg #[.int .u8 x, .int .i64 K, .int .i64 V, .int .i64 T, .slice a n c, .string s, .int .i64 p0, .int .i64 p1, .int .i64 p2, .int .i64 p3, .int .i64 p4, .int .i64 p5, .int .i64 p6]] w fun e w' => e = .returned (.tuple #[.int .i64 0, .int .i64 1]) ∧ Below w.heap.size w w' := by
  have b0 : Below w.heap.size w (w.alloc (.cells #[.int .u8 x, .int .i64 K, .int .i64 V, .int .i64 T, .slice a n c, .string s, .int .i64 p0, .int .i64 p1, .int .i64 p2, .int .i64 p3, .int .i64 p4, .int .i64 p5, .int .i64 p6] 25)) := (Below.refl _ _).alloc (Nat.le_refl _) _
  have X0 : Hid (RF (w.alloc (.cells #[.int .u8 x, .int .i64 K, .int .i64 V, .int .i64 T, .slice a n c, .string s, .int .i64 p0, .int .i64 p1, .int .i64 p2, .int .i64 p3, .int .i64 p4, .int .i64 p5, .int .i64 p6] 25)) w.heap.size 25 13 (fun i => ((#[.int .u8 x, .int .i64 K, .int .i64 V, .int .i64 T, .slice a n c, .string s, .int .i64 p0, .int .i64 p1, .int .i64 p2, .int .i64 p3, .int .i64 p4, .int .i64 p5, .int .i64 p6] : Array Value)[i]?).getD default)) := Lib.hid (RF_new w _ _ 13 _ rfl (fun i hi => by rw [Array.getElem?_eq_getElem hi]; rfl))
  have H := Lib.hid (h.below b0)
  have B0 := Lib.hid b0
  clear h b0
  have q0 : (w.alloc (.cells #[.int .u8 x, .int .i64 K, .int .i64 V, .int .i64 T, .slice a n c, .string s, .int .i64 p0, .int .i64 p1, .int .i64 p2, .int .i64 p3, .int .i64 p4, .int .i64 p5, .int .i64 p6] 25)).cell? ⟨w.heap.size, 0, none⟩ = some (.int .u8 x) := X0.out.cell (i := 0) (by omega)
  have q1 : (w.alloc (.cells #[.int .u8 x, .int .i64 K, .int .i64 V, .int .i64 T, .slice a n c, .string s, .int .i64 p0, .int .i64 p1, .int .i64 p2, .int .i64 p3, .int .i64 p4, .int .i64 p5, .int .i64 p6] 25)).cell? ⟨w.heap.size, 1, none⟩ = some (.int .i64 K) := X0.out.cell (i := 1) (by omega)
  have q2 : (w.alloc (.cells #[.int .u8 x, .int .i64 K, .int .i64 V, .int .i64 T, .slice a n c, .string s, .int .i64 p0, .int .i64 p1, .int .i64 p2, .int .i64 p3, .int .i64 p4, .int .i64 p5, .int .i64 p6] 25)).cell? ⟨w.heap.size, 2, none⟩ = some (.int .i64 V) := X0.out.cell (i := 2) (by omega)
  have q3 : (w.alloc (.cells #[.int .u8 x, .int .i64 K, .int .i64 V, .int .i64 T, .slice a n c, .string s, .int .i64 p0, .int .i64 p1, .int .i64 p2, .int .i64 p3, .int .i64 p4, .int .i64 p5, .int .i64 p6] 25)).cell? ⟨w.heap.size, 3, none⟩ = some (.int .i64 T) := X0.out.cell (i := 3) (by omega)
  have q4 : (w.alloc (.cells #[.int .u8 x, .int .i64 K, .int .i64 V, .int .i64 T, .slice a n c, .string s, .int .i64 p0, .int .i64 p1, .int .i64 p2, .int .i64 p3, .int .i64 p4, .int .i64 p5, .int .i64 p6] 25)).cell? ⟨w.heap.size, 4, none⟩ = some (.slice a n c) := X0.out.cell (i := 4) (by omega)
  have q5 : (w.alloc (.cells #[.int .u8 x, .int .i64 K, .int .i64 V, .int .i64 T, .slice a n c, .string s, .int .i64 p0, .int .i64 p1, .int .i64 p2, .int .i64 p3, .int .i64 p4, .int .i64 p5, .int .i64 p6] 25)).cell? ⟨w.heap.size, 5, none⟩ = some (.string s) := X0.out.cell (i := 5) (by omega)
  have q6 : (w.alloc (.cells #[.int .u8 x, .int .i64 K, .int .i64 V, .int .i64 T, .slice a n c, .string s, .int .i64 p0, .int .i64 p1, .int .i64 p2, .int .i64 p3, .int .i64 p4, .int .i64 p5, .int .i64 p6] 25)).cell? ⟨w.heap.size, 6, none⟩ = some (.int .i64 p0) := X0.out.cell (i := 6) (by omega)
  have q7 : (w.alloc (.cells #[.int .u8 x, .int .i64 K, .int .i64 V, .int .i64 T, .slice a n c, .string s, .int .i64 p0, .int .i64 p1, .int .i64 p2, .int .i64 p3, .int .i64 p4, .int .i64 p5, .int .i64 p6] 25)).cell? ⟨w.heap.size, 7, none⟩ = some (.int .i64 p1) := X0.out.cell (i := 7) (by omega)
  have q8 : (w.alloc (.cells #[.int .u8 x, .int .i64 K, .int .i64 V, .int .i64 T, .slice a n c, .string s, .int .i64 p0, .int .i64 p1, .int .i64 p2, .int .i64 p3, .int .i64 p4, .int .i64 p5, .int .i64 p6] 25)).cell? ⟨w.heap.size, 8, none⟩ = some (.int .i64 p2) := X0.out.cell (i := 8) (by omega)
  have q9 : (w.alloc (.cells #[.int .u8 x, .int .i64 K, .int .i64 V, .int .i64 T, .slice a n c, .string s, .int .i64 p0, .int .i64 p1, .int .i64 p2, .int .i64 p3, .int .i64 p4, .int .i64 p5, .int .i64 p6] 25)).cell? ⟨w.heap.size, 9, none⟩ = some (.int .i64 p3) := X0.out.cell (i := 9) (by omega)
  have q10 : (w.alloc (.cells #[.int .u8 x, .int .i64 K, .int .i64 V, .int .i64 T, .slice a n c, .string s, .int .i64 p0, .int .i64 p1, .int .i64 p2, .int .i64 p3, .int .i64 p4, .int .i64 p5, .int .i64 p6] 25)).cell? ⟨w.heap.size, 10, none⟩ = some (.int .i64 p4) := X0.out.cell (i := 10) (by omega)
  have q11 : (w.alloc (.cells #[.int .u8 x, .int .i64 K, .int .i64 V, .int .i64 T, .slice a n c, .string s, .int .i64 p0, .int .i64 p1, .int .i64 p2, .int .i64 p3, .int .i64 p4, .int .i64 p5, .int .i64 p6] 25)).cell? ⟨w.heap.size, 11, none⟩ = some (.int .i64 p5) := X0.out.cell (i := 11) (by omega)
  have q12 : (w.alloc (.cells #[.int .u8 x, .int .i64 K, .int .i64 V, .int .i64 T, .slice a n c, .string s, .int .i64 p0, .int .i64 p1, .int .i64 p2, .int .i64 p3, .int .i64 p4, .int .i64 p5, .int .i64 p6] 25)).cell? ⟨w.heap.size, 12, none⟩ = some (.int .i64 p6) := X0.out.cell (i := 12) (by omega)
  go_enter Tryz.func6, Tryz.ntmps6
  go_wp2_with fail
  all_goals first
    | (with_reducible refine (Begin_dead pv _ _ _ H.out).mono ?_)
    | (with_reducible refine (Put_dead pv _ _ _ _ _ H.out).mono ?_)
    | (with_reducible refine (Drop_dead pv _ _ _ _ H.out).mono ?_)
    | (with_reducible refine (Close_dead pv _ _ _ H.out).mono ?_)
    | (with_reducible refine (Tag_dead pv _ _ _ _ _ _ _ _ _ H.out).mono ?_)
  all_goals
    rintro e w1 ⟨rfl, b1⟩
    have B1 := Lib.hid (Below.up B0.out b1)
    clear b1
    go_wp2_with fail
    go_ret2
    exact ⟨rfl, B1.out⟩
end Go.Proofs.YtidpjgkjeocgaaaGreatDoor
