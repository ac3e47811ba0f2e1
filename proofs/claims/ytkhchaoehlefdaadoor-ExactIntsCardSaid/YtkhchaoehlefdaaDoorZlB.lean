/- The law of integers: beside the document's. -/
import Derived.Test.YtkhchaoehlefdaaDoorZlA
set_option linter.unusedVariables false
set_option linter.unusedSimpArgs false
set_option maxRecDepth 100000
namespace Go.Proofs.YtkhchaoehlefdaaDoor
open Go.RowKit

set_option maxHeartbeats 12800000 in
theorem ints_main (ga gb : Bool) (aa ab : Option Addr) (n m ca cb : Nat) (da db : Bool × (Nat → Int)) (w : World) (hT : Tab w) (ha : AX w (.agg #[.bool ga, .slice aa n ca]) n da) (hb : AX w (.agg #[.bool gb, .slice ab m cb]) m db) (hn : n ≤ 40) (hm : m ≤ 40) :
    Calls Tryd.prog 3 #[.agg #[.bool ga, .slice aa n ca], .agg #[.bool gb, .slice ab m cb]] w fun e w' => e = .returned (.bool true) ∧ Below w.heap.size w w' := by
  have H0' := Lib.hid (Below.two w (.cells #[.bool ga, .slice aa n ca] 24) (.cells #[.bool gb, .slice ab m cb] 24))
  have VA' := Lib.hid (show LV ((w.alloc (.cells #[.bool ga, .slice aa n ca] 24)).alloc (.cells #[.bool gb, .slice ab m cb] 24)) w.heap.size ga aa n ca da from (LV.new ha).below (Below.one _ _))
  have VB' := Lib.hid (show LV ((w.alloc (.cells #[.bool ga, .slice aa n ca] 24)).alloc (.cells #[.bool gb, .slice ab m cb] 24)) (w.heap.size + 1) gb ab m cb db from LV.new' (hb.below (Below.one w (.cells #[.bool ga, .slice aa n ca] 24))) (by simp))
  have HT := Lib.hid hT
  clear ha hb hT
  obtain ⟨p, hp⟩ : ∃ p, p = vx da n := ⟨_, rfl⟩
  obtain ⟨q, hq⟩ : ∃ q, q = vx db m := ⟨_, rfl⟩
  have HP := Lib.hid hp
  have HQ := Lib.hid hq
  clear hp hq
  go_enter Tryd.func3, Tryd.ntmps3
  go_wp2_with fail
  refine wp_at (fun W => Below w.heap.size w W ∧ Tab W ∧ LV W w.heap.size ga aa n ca da ∧ LV W (w.heap.size + 1) gb ab m cb db) ⟨H0'.out, HT.out.up H0'.out, VA'.out, VB'.out⟩ ?_
  clear H0' VA' VB' HT
  rintro w0 ⟨qH, qT, qVa, qVb⟩
  have H_0 := Lib.hid qH
  have T_0 := Lib.hid qT
  have Va_0 := Lib.hid qVa
  have Vb_0 := Lib.hid qVb
  clear qH qT qVa qVb
  have s1 : n ≤ 1000000 := by omega
  have s2 : m ≤ 1000000 := by omega
  go_cut [5, 6] from 7 (fun s5 s6 W => ∃ (bk5 : Nat) (g5 : Bool) (a5 : Option Addr) (c5 : Nat) (bk6 : Nat) (g6 : Bool) (a6 : Option Addr) (c6 : Nat), s5 = .pointer (some ⟨bk5, 0, none⟩) ∧ s6 = .pointer (some ⟨bk6, 0, none⟩) ∧ Hid (Below w.heap.size w W ∧ Tab W ∧ LV W w.heap.size ga aa n ca da ∧ LV W (w.heap.size + 1) gb ab m cb db ∧ LV W bk5 g5 a5 n c5 da ∧ LV W bk6 g6 a6 m c6 db))
  case first =>
    rename_i hJ hK
    as_aux_lemma =>
      have KEEP := Lib.hid (fun (W : World) (hB : Below w0.heap.size w0 W) (bk5 : Nat) (g5 : Bool) (a5 : Option Addr) (c5 : Nat) (bk6 : Nat) (g6 : Bool) (a6 : Option Addr) (c6 : Nat) (hv0 : LV W bk5 g5 a5 n c5 da) (hv1 : LV W bk6 g6 a6 m c6 db) => (show Below w.heap.size w W ∧ Tab W ∧ LV W w.heap.size ga aa n ca da ∧ LV W (w.heap.size + 1) gb ab m cb db ∧ LV W bk5 g5 a5 n c5 da ∧ LV W bk6 g6 a6 m c6 db from ⟨Below.up H_0.out hB, T_0.out.up hB, Va_0.out.below hB, Vb_0.out.below hB, hv0, hv1⟩))
      have M3 := Lib.hid (show ∀ w', Below w0.heap.size w0 w' → w'.cell? ⟨w.heap.size, 0, none⟩ = some (.bool ga) ∧ w'.cell? ⟨w.heap.size, 1, none⟩ = some (.slice aa n ca) ∧ w'.cell? ⟨(w.heap.size + 1), 0, none⟩ = some (.bool gb) ∧ w'.cell? ⟨(w.heap.size + 1), 1, none⟩ = some (.slice ab m cb) from fun w' h => ⟨(Va_0.out.below h).1, (Va_0.out.below h).2.1, (Vb_0.out.below h).1, (Vb_0.out.below h).2.1⟩)
      obtain ⟨oa0, oa1, oa2, _⟩ := Va_0.out
      obtain ⟨ob0, ob1, ob2, _⟩ := Vb_0.out
      have B3_ := Lib.hid (Below.refl w0.heap.size w0)
      go_region_held3 (fun w' => w'.cell? ⟨w.heap.size, 0, none⟩ = some (.bool ga) ∧ w'.cell? ⟨w.heap.size, 1, none⟩ = some (.slice aa n ca) ∧ w'.cell? ⟨(w.heap.size + 1), 0, none⟩ = some (.bool gb) ∧ w'.cell? ⟨(w.heap.size + 1), 1, none⟩ = some (.slice ab m cb))
        (exact M3.out _ (by ((repeat (first | (with_reducible exact Below.refl _ _) | (with_reducible refine Below.up ?_ HB3_1.out) | (with_reducible refine Below.up ?_ HB3_0.out) | (with_reducible refine Below.alloc' ?_ _) | (with_reducible refine Below.drew' ?_) | (with_reducible refine Below.set' ?_ (by first | exact Nat.le_refl _ | exact Nat.le_succ _ | exact T3_0.out.size | exact T3_1.out.size | exact Nat.le_succ_of_le T3_0.out.size | exact Nat.le_succ_of_le T3_1.out.size) _))); done)))
        (first
        | (go_at_call 5; ((with_reducible refine (own_af (.agg #[.bool ga, .slice aa n ca]) n da _ (Va_0.out.up (by ((repeat (first | (with_reducible exact Below.refl _ _) | (with_reducible refine Below.up ?_ HB3_1.out) | (with_reducible refine Below.up ?_ HB3_0.out) | (with_reducible refine Below.alloc' ?_ _) | (with_reducible refine Below.drew' ?_) | (with_reducible refine Below.set' ?_ (by first | exact Nat.le_refl _ | exact Nat.le_succ _ | exact T3_0.out.size | exact T3_1.out.size | exact Nat.le_succ_of_le T3_0.out.size | exact Nat.le_succ_of_le T3_1.out.size) _))); done))) s1).mono ?_); rintro e u3_0 ⟨g3_0, x3_0, y3_0, rfl, hR, hB⟩; have R3_0 := Lib.hid hR; have HB3_0 := Lib.hid hB; have T3_0 := Lib.hid (Below.up (u := w0) (by ((repeat (first | (with_reducible exact Below.refl _ _) | (with_reducible refine Below.up ?_ HB3_1.out) | (with_reducible refine Below.up ?_ HB3_0.out) | (with_reducible refine Below.alloc' ?_ _) | (with_reducible refine Below.drew' ?_) | (with_reducible refine Below.set' ?_ (by first | exact Nat.le_refl _ | exact Nat.le_succ _ | exact T3_0.out.size | exact T3_1.out.size | exact Nat.le_succ_of_le T3_0.out.size | exact Nat.le_succ_of_le T3_1.out.size) _))); done)) hB); clear hB hR; (try (refine absorb (a := Box2 u3_0 (w0.heap.size)) ?_ ?_; (focus ((repeat (first | (with_reducible exact Box2.new _ _ _ _ _) | (with_reducible exact Box2.new1 _ _ _ _ _ _) | (with_reducible refine Box2.below ?_ HB3_0.out) | (with_reducible refine Box2.alloc ?_ _) | (with_reducible refine Box2.drew ?_))); done)); intro zb3_0_0a; obtain ⟨zu3_0_0a, zv3_0_0a, zc3_0_0a, zd3_0_0a, ze3_0_0a, zf3_0_0a⟩ := zb3_0_0a.open; have zl3_0_0a := zb3_0_0a.lt; have ZB3_0_0a := Lib.hid zb3_0_0a; clear zb3_0_0a)); (try (refine absorb (a := Box2 u3_0 (w0.heap.size + 1)) ?_ ?_; (focus ((repeat (first | (with_reducible exact Box2.new _ _ _ _ _) | (with_reducible exact Box2.new1 _ _ _ _ _ _) | (with_reducible refine Box2.below ?_ HB3_0.out) | (with_reducible refine Box2.alloc ?_ _) | (with_reducible refine Box2.drew ?_))); done)); intro zb3_0_0b; obtain ⟨zu3_0_0b, zv3_0_0b, zc3_0_0b, zd3_0_0b, ze3_0_0b, zf3_0_0b⟩ := zb3_0_0b.open; have zl3_0_0b := zb3_0_0b.lt; have ZB3_0_0b := Lib.hid zb3_0_0b; clear zb3_0_0b))))
        | (go_at_call 5; ((with_reducible refine (own_af (.agg #[.bool gb, .slice ab m cb]) m db _ (Vb_0.out.up (by ((repeat (first | (with_reducible exact Below.refl _ _) | (with_reducible refine Below.up ?_ HB3_1.out) | (with_reducible refine Below.up ?_ HB3_0.out) | (with_reducible refine Below.alloc' ?_ _) | (with_reducible refine Below.drew' ?_) | (with_reducible refine Below.set' ?_ (by first | exact Nat.le_refl _ | exact Nat.le_succ _ | exact T3_0.out.size | exact T3_1.out.size | exact Nat.le_succ_of_le T3_0.out.size | exact Nat.le_succ_of_le T3_1.out.size) _))); done))) s2).mono ?_); rintro e u3_1 ⟨g3_1, x3_1, y3_1, rfl, hR, hB⟩; have R3_1 := Lib.hid hR; have HB3_1 := Lib.hid hB; have T3_1 := Lib.hid (Below.up (u := w0) (by ((repeat (first | (with_reducible exact Below.refl _ _) | (with_reducible refine Below.up ?_ HB3_1.out) | (with_reducible refine Below.up ?_ HB3_0.out) | (with_reducible refine Below.alloc' ?_ _) | (with_reducible refine Below.drew' ?_) | (with_reducible refine Below.set' ?_ (by first | exact Nat.le_refl _ | exact Nat.le_succ _ | exact T3_0.out.size | exact T3_1.out.size | exact Nat.le_succ_of_le T3_0.out.size | exact Nat.le_succ_of_le T3_1.out.size) _))); done)) hB); clear hB hR; (try (refine absorb (a := Box2 u3_1 (w0.heap.size)) ?_ ?_; (focus ((repeat (first | (with_reducible exact Box2.new _ _ _ _ _) | (with_reducible exact Box2.new1 _ _ _ _ _ _) | (with_reducible refine Box2.below ?_ HB3_1.out) | (with_reducible refine Box2.below ?_ HB3_0.out) | (with_reducible refine Box2.alloc ?_ _) | (with_reducible refine Box2.drew ?_))); done)); intro zb3_1_0a; obtain ⟨zu3_1_0a, zv3_1_0a, zc3_1_0a, zd3_1_0a, ze3_1_0a, zf3_1_0a⟩ := zb3_1_0a.open; have zl3_1_0a := zb3_1_0a.lt; have ZB3_1_0a := Lib.hid zb3_1_0a; clear zb3_1_0a)); (try (refine absorb (a := Box2 u3_1 (w0.heap.size + 1)) ?_ ?_; (focus ((repeat (first | (with_reducible exact Box2.new _ _ _ _ _) | (with_reducible exact Box2.new1 _ _ _ _ _ _) | (with_reducible refine Box2.below ?_ HB3_1.out) | (with_reducible refine Box2.below ?_ HB3_0.out) | (with_reducible refine Box2.alloc ?_ _) | (with_reducible refine Box2.drew ?_))); done)); intro zb3_1_0b; obtain ⟨zu3_1_0b, zv3_1_0b, zc3_1_0b, zd3_1_0b, ze3_1_0b, zf3_1_0b⟩ := zb3_1_0b.open; have zl3_1_0b := zb3_1_0b.lt; have ZB3_1_0b := Lib.hid zb3_1_0b; clear zb3_1_0b)); (try (refine absorb (a := Box2 u3_1 (u3_0.heap.size)) ?_ ?_; (focus ((repeat (first | (with_reducible exact Box2.new _ _ _ _ _) | (with_reducible exact Box2.new1 _ _ _ _ _ _) | (with_reducible refine Box2.below ?_ HB3_1.out) | (with_reducible refine Box2.below ?_ HB3_0.out) | (with_reducible refine Box2.alloc ?_ _) | (with_reducible refine Box2.drew ?_))); done)); intro zb3_1_1a; obtain ⟨zu3_1_1a, zv3_1_1a, zc3_1_1a, zd3_1_1a, ze3_1_1a, zf3_1_1a⟩ := zb3_1_1a.open; have zl3_1_1a := zb3_1_1a.lt; have ZB3_1_1a := Lib.hid zb3_1_1a; clear zb3_1_1a)); (try (refine absorb (a := Box2 u3_1 (u3_0.heap.size + 1)) ?_ ?_; (focus ((repeat (first | (with_reducible exact Box2.new _ _ _ _ _) | (with_reducible exact Box2.new1 _ _ _ _ _ _) | (with_reducible refine Box2.below ?_ HB3_1.out) | (with_reducible refine Box2.below ?_ HB3_0.out) | (with_reducible refine Box2.alloc ?_ _) | (with_reducible refine Box2.drew ?_))); done)); intro zb3_1_1b; obtain ⟨zu3_1_1b, zv3_1_1b, zc3_1_1b, zd3_1_1b, ze3_1_1b, zf3_1_1b⟩ := zb3_1_1b.open; have zl3_1_1b := zb3_1_1b.lt; have ZB3_1_1b := Lib.hid zb3_1_1b; clear zb3_1_1b)))))
      all_goals as_aux_lemma =>
        refine hK _ _ (Met.intro (hJ _ _ ?_))
        (repeat apply Exists.intro)
        refine ⟨?_, rfl⟩
        exact ⟨_, g3_0, x3_0, y3_0, _, g3_1, x3_1, y3_1, rfl, rfl, Lib.hid (KEEP.out _ (by ((repeat (first | (with_reducible exact Below.refl _ _) | (with_reducible refine Below.up ?_ HB3_1.out) | (with_reducible refine Below.up ?_ HB3_0.out) | (with_reducible refine Below.alloc' ?_ _) | (with_reducible refine Below.drew' ?_) | (with_reducible refine Below.set' ?_ (by first | exact Nat.le_refl _ | exact Nat.le_succ _ | exact T3_0.out.size | exact T3_1.out.size | exact Nat.le_succ_of_le T3_0.out.size | exact Nat.le_succ_of_le T3_1.out.size) _))); done)) _ _ _ _ _ _ _ _ (by ((repeat (first | (with_reducible exact (AX.below (w' := u3_1) R3_0.out (by ((repeat (first | (with_reducible exact Below.refl _ _) | (with_reducible refine Below.up ?_ HB3_1.out) | (with_reducible refine Below.up ?_ HB3_0.out) | (with_reducible refine Below.alloc' ?_ _) | (with_reducible refine Below.drew' ?_) | (with_reducible refine Below.set' ?_ (by first | exact Nat.le_refl _ | exact Nat.le_succ _ | exact T3_0.out.size | exact T3_1.out.size | exact Nat.le_succ_of_le T3_0.out.size | exact Nat.le_succ_of_le T3_1.out.size) _))); done)))) | (with_reducible exact R3_1.out) | (with_reducible exact ZB3_1_0a.out) | (with_reducible exact ZB3_1_0b.out) | (with_reducible exact ZB3_1_1a.out) | (with_reducible exact ZB3_1_1b.out) | (with_reducible refine LV.put ?_ ?_) | (with_reducible refine LV.new' ?_ (by simp)) | (with_reducible refine LV.keep' ?_ ?_ ?_) | (with_reducible refine LV.alloc ?_ _) | (with_reducible refine AX.alloc ?_ _) | (with_reducible refine AX.set ?_ ?_) | (with_reducible refine Box2.set0 ?_ _) | (with_reducible refine Box2.set1 ?_ _ _ _) | (with_reducible refine Box2.other' ?_ ?_) | (with_reducible refine Box2.alloc ?_ _) | omega)); done)) (by ((repeat (first | (with_reducible exact (AX.below (w' := u3_1) R3_0.out (by ((repeat (first | (with_reducible exact Below.refl _ _) | (with_reducible refine Below.up ?_ HB3_1.out) | (with_reducible refine Below.up ?_ HB3_0.out) | (with_reducible refine Below.alloc' ?_ _) | (with_reducible refine Below.drew' ?_) | (with_reducible refine Below.set' ?_ (by first | exact Nat.le_refl _ | exact Nat.le_succ _ | exact T3_0.out.size | exact T3_1.out.size | exact Nat.le_succ_of_le T3_0.out.size | exact Nat.le_succ_of_le T3_1.out.size) _))); done)))) | (with_reducible exact R3_1.out) | (with_reducible exact ZB3_1_0a.out) | (with_reducible exact ZB3_1_0b.out) | (with_reducible exact ZB3_1_1a.out) | (with_reducible exact ZB3_1_1b.out) | (with_reducible refine LV.put ?_ ?_) | (with_reducible refine LV.new' ?_ (by simp)) | (with_reducible refine LV.keep' ?_ ?_ ?_) | (with_reducible refine LV.alloc ?_ _) | (with_reducible refine AX.alloc ?_ _) | (with_reducible refine AX.set ?_ ?_) | (with_reducible refine Box2.set0 ?_ _) | (with_reducible refine Box2.set1 ?_ _ _ _) | (with_reducible refine Box2.other' ?_ ?_) | (with_reducible refine Box2.alloc ?_ _) | omega)); done)))⟩
  case rest =>
    obtain ⟨bk5, g5, a5, c5, bk6, g6, a6, c6, rfl, rfl, hF⟩ := hcut
    generalize wc = w1 at *
    obtain ⟨qH, qT, qVa, qVb, qVx, qVy⟩ := hF.out
    have H_1 := Lib.hid qH
    have T_1 := Lib.hid qT
    have Va_1 := Lib.hid qVa
    have Vb_1 := Lib.hid qVb
    have Vx_1 := Lib.hid qVx
    have Vy_1 := Lib.hid qVy
    clear hF qH qT qVa qVb qVx qVy H_0 T_0 Va_0 Vb_0
    go_wp2_with fail
    go_cut [7, 8] from 9 (fun s7 s8 W => ∃ (bk7 : Nat) (g7 : Bool) (a7 : Option Addr) (n7 : Nat) (c7 : Nat) (bk8 : Nat) (g8 : Bool) (a8 : Option Addr) (n8 : Nat) (c8 : Nat), s7 = .pointer (some ⟨bk7, 0, none⟩) ∧ s8 = .pointer (some ⟨bk8, 0, none⟩) ∧ n7 ≤ 2 * n ∧ n8 ≤ 2 * m ∧ Hid (Below w.heap.size w W ∧ Tab W ∧ LV W w.heap.size ga aa n ca da ∧ LV W (w.heap.size + 1) gb ab m cb db ∧ LV W bk5 g5 a5 n c5 da ∧ LV W bk6 g6 a6 m c6 db ∧ ZV W bk7 g7 a7 n7 c7 (vx da n) ∧ ZV W bk8 g8 a8 n8 c8 (vx db m)))
    case first =>
      rename_i hJ hK
      as_aux_lemma =>
        have KEEP := Lib.hid (fun (W : World) (hB : Below w1.heap.size w1 W) (bk7 : Nat) (g7 : Bool) (a7 : Option Addr) (n7 : Nat) (c7 : Nat) (bk8 : Nat) (g8 : Bool) (a8 : Option Addr) (n8 : Nat) (c8 : Nat) (hv0 : ZV W bk7 g7 a7 n7 c7 (vx da n)) (hv1 : ZV W bk8 g8 a8 n8 c8 (vx db m)) => (show Below w.heap.size w W ∧ Tab W ∧ LV W w.heap.size ga aa n ca da ∧ LV W (w.heap.size + 1) gb ab m cb db ∧ LV W bk5 g5 a5 n c5 da ∧ LV W bk6 g6 a6 m c6 db ∧ ZV W bk7 g7 a7 n7 c7 (vx da n) ∧ ZV W bk8 g8 a8 n8 c8 (vx db m) from ⟨Below.up H_1.out hB, T_1.out.up hB, Va_1.out.below hB, Vb_1.out.below hB, Vx_1.out.below hB, Vy_1.out.below hB, hv0, hv1⟩))
        have M4 := Lib.hid (show ∀ w', Below w1.heap.size w1 w' → w'.cell? ⟨w.heap.size, 0, none⟩ = some (.bool ga) ∧ w'.cell? ⟨w.heap.size, 1, none⟩ = some (.slice aa n ca) ∧ w'.cell? ⟨(w.heap.size + 1), 0, none⟩ = some (.bool gb) ∧ w'.cell? ⟨(w.heap.size + 1), 1, none⟩ = some (.slice ab m cb) from fun w' h => ⟨(Va_1.out.below h).1, (Va_1.out.below h).2.1, (Vb_1.out.below h).1, (Vb_1.out.below h).2.1⟩)
        obtain ⟨oa0, oa1, oa2, _⟩ := Va_1.out
        obtain ⟨ob0, ob1, ob2, _⟩ := Vb_1.out
        have B4_ := Lib.hid (Below.refl w1.heap.size w1)
        go_region_held3 (fun w' => w'.cell? ⟨w.heap.size, 0, none⟩ = some (.bool ga) ∧ w'.cell? ⟨w.heap.size, 1, none⟩ = some (.slice aa n ca) ∧ w'.cell? ⟨(w.heap.size + 1), 0, none⟩ = some (.bool gb) ∧ w'.cell? ⟨(w.heap.size + 1), 1, none⟩ = some (.slice ab m cb))
          (exact M4.out _ (by ((repeat (first | (with_reducible exact Below.refl _ _) | (with_reducible refine Below.up ?_ HB4_1.out) | (with_reducible refine Below.up ?_ HB4_0.out) | (with_reducible refine Below.alloc' ?_ _) | (with_reducible refine Below.drew' ?_) | (with_reducible refine Below.set' ?_ (by first | exact Nat.le_refl _ | exact Nat.le_succ _ | exact T4_0.out.size | exact T4_1.out.size | exact Nat.le_succ_of_le T4_0.out.size | exact Nat.le_succ_of_le T4_1.out.size) _))); done)))
          (first
          | (go_at_call 6; ((with_reducible refine (from_zf (.agg #[.bool ga, .slice aa n ca]) n da _ (Va_1.out.up (by ((repeat (first | (with_reducible exact Below.refl _ _) | (with_reducible refine Below.up ?_ HB4_1.out) | (with_reducible refine Below.up ?_ HB4_0.out) | (with_reducible refine Below.alloc' ?_ _) | (with_reducible refine Below.drew' ?_) | (with_reducible refine Below.set' ?_ (by first | exact Nat.le_refl _ | exact Nat.le_succ _ | exact T4_0.out.size | exact T4_1.out.size | exact Nat.le_succ_of_le T4_0.out.size | exact Nat.le_succ_of_le T4_1.out.size) _))); done))) s1).mono ?_); rintro e u4_0 ⟨g4_0, x4_0, y4_0, k4_0, rfl, hR, hk4_0, hB⟩; have R4_0 := Lib.hid hR; have HB4_0 := Lib.hid hB; have T4_0 := Lib.hid (Below.up (u := w1) (by ((repeat (first | (with_reducible exact Below.refl _ _) | (with_reducible refine Below.up ?_ HB4_1.out) | (with_reducible refine Below.up ?_ HB4_0.out) | (with_reducible refine Below.alloc' ?_ _) | (with_reducible refine Below.drew' ?_) | (with_reducible refine Below.set' ?_ (by first | exact Nat.le_refl _ | exact Nat.le_succ _ | exact T4_0.out.size | exact T4_1.out.size | exact Nat.le_succ_of_le T4_0.out.size | exact Nat.le_succ_of_le T4_1.out.size) _))); done)) hB); clear hB hR; (try (refine absorb (a := BoxZ u4_0 (w1.heap.size)) ?_ ?_; (focus ((repeat (first | (with_reducible exact BoxZ.new _ _ _ _ _) | (with_reducible exact BoxZ.new1 _ _ _ _ _ _) | (with_reducible refine BoxZ.below ?_ HB4_0.out) | (with_reducible refine BoxZ.alloc ?_ _) | (with_reducible refine BoxZ.drew ?_))); done)); intro zb4_0_0a; obtain ⟨zu4_0_0a, zv4_0_0a, zc4_0_0a, zd4_0_0a, ze4_0_0a, zf4_0_0a⟩ := zb4_0_0a.open; have zl4_0_0a := zb4_0_0a.lt; have ZB4_0_0a := Lib.hid zb4_0_0a; clear zb4_0_0a)); (try (refine absorb (a := BoxZ u4_0 (w1.heap.size + 1)) ?_ ?_; (focus ((repeat (first | (with_reducible exact BoxZ.new _ _ _ _ _) | (with_reducible exact BoxZ.new1 _ _ _ _ _ _) | (with_reducible refine BoxZ.below ?_ HB4_0.out) | (with_reducible refine BoxZ.alloc ?_ _) | (with_reducible refine BoxZ.drew ?_))); done)); intro zb4_0_0b; obtain ⟨zu4_0_0b, zv4_0_0b, zc4_0_0b, zd4_0_0b, ze4_0_0b, zf4_0_0b⟩ := zb4_0_0b.open; have zl4_0_0b := zb4_0_0b.lt; have ZB4_0_0b := Lib.hid zb4_0_0b; clear zb4_0_0b))))
          | (go_at_call 6; ((with_reducible refine (from_zf (.agg #[.bool gb, .slice ab m cb]) m db _ (Vb_1.out.up (by ((repeat (first | (with_reducible exact Below.refl _ _) | (with_reducible refine Below.up ?_ HB4_1.out) | (with_reducible refine Below.up ?_ HB4_0.out) | (with_reducible refine Below.alloc' ?_ _) | (with_reducible refine Below.drew' ?_) | (with_reducible refine Below.set' ?_ (by first | exact Nat.le_refl _ | exact Nat.le_succ _ | exact T4_0.out.size | exact T4_1.out.size | exact Nat.le_succ_of_le T4_0.out.size | exact Nat.le_succ_of_le T4_1.out.size) _))); done))) s2).mono ?_); rintro e u4_1 ⟨g4_1, x4_1, y4_1, k4_1, rfl, hR, hk4_1, hB⟩; have R4_1 := Lib.hid hR; have HB4_1 := Lib.hid hB; have T4_1 := Lib.hid (Below.up (u := w1) (by ((repeat (first | (with_reducible exact Below.refl _ _) | (with_reducible refine Below.up ?_ HB4_1.out) | (with_reducible refine Below.up ?_ HB4_0.out) | (with_reducible refine Below.alloc' ?_ _) | (with_reducible refine Below.drew' ?_) | (with_reducible refine Below.set' ?_ (by first | exact Nat.le_refl _ | exact Nat.le_succ _ | exact T4_0.out.size | exact T4_1.out.size | exact Nat.le_succ_of_le T4_0.out.size | exact Nat.le_succ_of_le T4_1.out.size) _))); done)) hB); clear hB hR; (try (refine absorb (a := BoxZ u4_1 (w1.heap.size)) ?_ ?_; (focus ((repeat (first | (with_reducible exact BoxZ.new _ _ _ _ _) | (with_reducible exact BoxZ.new1 _ _ _ _ _ _) | (with_reducible refine BoxZ.below ?_ HB4_1.out) | (with_reducible refine BoxZ.below ?_ HB4_0.out) | (with_reducible refine BoxZ.alloc ?_ _) | (with_reducible refine BoxZ.drew ?_))); done)); intro zb4_1_0a; obtain ⟨zu4_1_0a, zv4_1_0a, zc4_1_0a, zd4_1_0a, ze4_1_0a, zf4_1_0a⟩ := zb4_1_0a.open; have zl4_1_0a := zb4_1_0a.lt; have ZB4_1_0a := Lib.hid zb4_1_0a; clear zb4_1_0a)); (try (refine absorb (a := BoxZ u4_1 (w1.heap.size + 1)) ?_ ?_; (focus ((repeat (first | (with_reducible exact BoxZ.new _ _ _ _ _) | (with_reducible exact BoxZ.new1 _ _ _ _ _ _) | (with_reducible refine BoxZ.below ?_ HB4_1.out) | (with_reducible refine BoxZ.below ?_ HB4_0.out) | (with_reducible refine BoxZ.alloc ?_ _) | (with_reducible refine BoxZ.drew ?_))); done)); intro zb4_1_0b; obtain ⟨zu4_1_0b, zv4_1_0b, zc4_1_0b, zd4_1_0b, ze4_1_0b, zf4_1_0b⟩ := zb4_1_0b.open; have zl4_1_0b := zb4_1_0b.lt; have ZB4_1_0b := Lib.hid zb4_1_0b; clear zb4_1_0b)); (try (refine absorb (a := BoxZ u4_1 (u4_0.heap.size)) ?_ ?_; (focus ((repeat (first | (with_reducible exact BoxZ.new _ _ _ _ _) | (with_reducible exact BoxZ.new1 _ _ _ _ _ _) | (with_reducible refine BoxZ.below ?_ HB4_1.out) | (with_reducible refine BoxZ.below ?_ HB4_0.out) | (with_reducible refine BoxZ.alloc ?_ _) | (with_reducible refine BoxZ.drew ?_))); done)); intro zb4_1_1a; obtain ⟨zu4_1_1a, zv4_1_1a, zc4_1_1a, zd4_1_1a, ze4_1_1a, zf4_1_1a⟩ := zb4_1_1a.open; have zl4_1_1a := zb4_1_1a.lt; have ZB4_1_1a := Lib.hid zb4_1_1a; clear zb4_1_1a)); (try (refine absorb (a := BoxZ u4_1 (u4_0.heap.size + 1)) ?_ ?_; (focus ((repeat (first | (with_reducible exact BoxZ.new _ _ _ _ _) | (with_reducible exact BoxZ.new1 _ _ _ _ _ _) | (with_reducible refine BoxZ.below ?_ HB4_1.out) | (with_reducible refine BoxZ.below ?_ HB4_0.out) | (with_reducible refine BoxZ.alloc ?_ _) | (with_reducible refine BoxZ.drew ?_))); done)); intro zb4_1_1b; obtain ⟨zu4_1_1b, zv4_1_1b, zc4_1_1b, zd4_1_1b, ze4_1_1b, zf4_1_1b⟩ := zb4_1_1b.open; have zl4_1_1b := zb4_1_1b.lt; have ZB4_1_1b := Lib.hid zb4_1_1b; clear zb4_1_1b)))))
        all_goals as_aux_lemma =>
          refine hK _ _ (Met.intro (hJ _ _ ?_))
          (repeat apply Exists.intro)
          refine ⟨?_, rfl⟩
          exact ⟨_, g4_0, x4_0, k4_0, y4_0, _, g4_1, x4_1, k4_1, y4_1, rfl, rfl, (by omega), (by omega), Lib.hid (KEEP.out _ (by ((repeat (first | (with_reducible exact Below.refl _ _) | (with_reducible refine Below.up ?_ HB4_1.out) | (with_reducible refine Below.up ?_ HB4_0.out) | (with_reducible refine Below.alloc' ?_ _) | (with_reducible refine Below.drew' ?_) | (with_reducible refine Below.set' ?_ (by first | exact Nat.le_refl _ | exact Nat.le_succ _ | exact T4_0.out.size | exact T4_1.out.size | exact Nat.le_succ_of_le T4_0.out.size | exact Nat.le_succ_of_le T4_1.out.size) _))); done)) _ _ _ _ _ _ _ _ _ _ (by ((repeat (first | (with_reducible exact (ZI.below (w' := u4_1) R4_0.out (by ((repeat (first | (with_reducible exact Below.refl _ _) | (with_reducible refine Below.up ?_ HB4_1.out) | (with_reducible refine Below.up ?_ HB4_0.out) | (with_reducible refine Below.alloc' ?_ _) | (with_reducible refine Below.drew' ?_) | (with_reducible refine Below.set' ?_ (by first | exact Nat.le_refl _ | exact Nat.le_succ _ | exact T4_0.out.size | exact T4_1.out.size | exact Nat.le_succ_of_le T4_0.out.size | exact Nat.le_succ_of_le T4_1.out.size) _))); done)))) | (with_reducible exact R4_1.out) | (with_reducible exact ZB4_1_0a.out) | (with_reducible exact ZB4_1_0b.out) | (with_reducible exact ZB4_1_1a.out) | (with_reducible exact ZB4_1_1b.out) | (with_reducible refine ZV.put ?_ ?_) | (with_reducible refine ZV.new' ?_ (by simp)) | (with_reducible refine ZV.keep' ?_ ?_ ?_) | (with_reducible refine ZV.alloc ?_ _) | (with_reducible refine ZI.alloc ?_ _) | (with_reducible refine ZI.set ?_ ?_) | (with_reducible refine BoxZ.set0 ?_ _) | (with_reducible refine BoxZ.set1 ?_ _ _ _) | (with_reducible refine BoxZ.other' ?_ ?_) | (with_reducible refine BoxZ.alloc ?_ _) | omega)); done)) (by ((repeat (first | (with_reducible exact (ZI.below (w' := u4_1) R4_0.out (by ((repeat (first | (with_reducible exact Below.refl _ _) | (with_reducible refine Below.up ?_ HB4_1.out) | (with_reducible refine Below.up ?_ HB4_0.out) | (with_reducible refine Below.alloc' ?_ _) | (with_reducible refine Below.drew' ?_) | (with_reducible refine Below.set' ?_ (by first | exact Nat.le_refl _ | exact Nat.le_succ _ | exact T4_0.out.size | exact T4_1.out.size | exact Nat.le_succ_of_le T4_0.out.size | exact Nat.le_succ_of_le T4_1.out.size) _))); done)))) | (with_reducible exact R4_1.out) | (with_reducible exact ZB4_1_0a.out) | (with_reducible exact ZB4_1_0b.out) | (with_reducible exact ZB4_1_1a.out) | (with_reducible exact ZB4_1_1b.out) | (with_reducible refine ZV.put ?_ ?_) | (with_reducible refine ZV.new' ?_ (by simp)) | (with_reducible refine ZV.keep' ?_ ?_ ?_) | (with_reducible refine ZV.alloc ?_ _) | (with_reducible refine ZI.alloc ?_ _) | (with_reducible refine ZI.set ?_ ?_) | (with_reducible refine BoxZ.set0 ?_ _) | (with_reducible refine BoxZ.set1 ?_ _ _ _) | (with_reducible refine BoxZ.other' ?_ ?_) | (with_reducible refine BoxZ.alloc ?_ _) | omega)); done)))⟩
    case rest =>
      obtain ⟨bk7, g7, a7, n7, c7, bk8, g8, a8, n8, c8, rfl, rfl, hbd7, hbd8, hF⟩ := hcut
      generalize wc = w2 at *
      obtain ⟨qH, qT, qVa, qVb, qVx, qVy, qVp, qVq⟩ := hF.out
      have H_2 := Lib.hid qH
      have T_2 := Lib.hid qT
      have Va_2 := Lib.hid qVa
      have Vb_2 := Lib.hid qVb
      have Vx_2 := Lib.hid qVx
      have Vy_2 := Lib.hid qVy
      have Vp_2 := Lib.hid qVp
      have Vq_2 := Lib.hid qVq
      clear hF qH qT qVa qVb qVx qVy qVp qVq H_1 T_1 Va_1 Vb_1 Vx_1 Vy_1
      go_wp2_with fail
      have KV := Lib.hid (And.intro H_2.out (And.intro T_2.out (And.intro Va_2.out (And.intro Vb_2.out (And.intro Vx_2.out (And.intro Vy_2.out (And.intro Vp_2.out Vq_2.out)))))))
      have s3 : n ≤ 100000 := by omega
      have s4 : m ≤ 100000 := by omega
      have M5 := Lib.hid (show ∀ w', Below w2.heap.size w2 w' → w'.cell? ⟨bk5, 0, none⟩ = some (.bool g5) ∧ w'.cell? ⟨bk5, 1, none⟩ = some (.slice a5 n c5) ∧ w'.cell? ⟨bk6, 0, none⟩ = some (.bool g6) ∧ w'.cell? ⟨bk6, 1, none⟩ = some (.slice a6 m c6) from fun w' h => ⟨(Vx_2.out.below h).1, (Vx_2.out.below h).2.1, (Vy_2.out.below h).1, (Vy_2.out.below h).2.1⟩)
      obtain ⟨ox0, ox1, ox2, _⟩ := Vx_2.out
      obtain ⟨oy0, oy1, oy2, _⟩ := Vy_2.out
      have D5 := Lib.hid (Below.drew (Below.refl w2.heap.size w2))
      go_region_held3 (fun w' => w'.cell? ⟨bk5, 0, none⟩ = some (.bool g5) ∧ w'.cell? ⟨bk5, 1, none⟩ = some (.slice a5 n c5) ∧ w'.cell? ⟨bk6, 0, none⟩ = some (.bool g6) ∧ w'.cell? ⟨bk6, 1, none⟩ = some (.slice a6 m c6))
        (first | (with_reducible exact M5.out _ D5.out) | (with_reducible exact M5.out _ T5_0.out) | (with_reducible exact M5.out _ T5_1.out) | (with_reducible exact M5.out _ T5_2.out) | (with_reducible exact M5.out _ T5_3.out) | (with_reducible exact M5.out _ T5_4.out) | (with_reducible exact M5.out _ T5_5.out) | (with_reducible exact M5.out _ (Below.alloc' T5_5.out _)))
        (first
        | (go_at_call 7; ((with_reducible refine (normal_rf (.agg #[.bool g5, .slice a5 n c5]) n (vx da n) _ (Vx_2.out.up D5.out).av s1).mono ?_); rintro e u5_0 ⟨gr0, xr0, yr0, kr0, rfl, hR, hkr0, hB⟩; have T5_0 := Lib.hid (Below.up D5.out hB); have RR0 := Lib.hid hR; have HX0 := Lib.hid hB; clear hR; clear hB))
        | (go_at_call 8; ((with_reducible refine (neg_rf (.agg #[.bool g5, .slice a5 n c5]) n (vx da n) _ (Vx_2.out.up T5_0.out).av s1).mono ?_); rintro e u5_1 ⟨gr1, xr1, yr1, kr1, rfl, hR, hkr1, hB⟩; have T5_1 := Lib.hid (Below.up T5_0.out hB); have RR1 := Lib.hid hR; have HX1 := Lib.hid hB; clear hR; clear hB))
        | (go_at_call 9; ((with_reducible refine (add_rf (.agg #[.bool g5, .slice a5 n c5]) (.agg #[.bool g6, .slice a6 m c6]) n m (vx da n) (vx db m) _ (Vx_2.out.up T5_1.out).av (Vy_2.out.up T5_1.out).av s1 s2).mono ?_); rintro e u5_2 ⟨gr2, xr2, yr2, kr2, rfl, hR, hkr2, hB⟩; have T5_2 := Lib.hid (Below.up T5_1.out hB); have RR2 := Lib.hid hR; have HX2 := Lib.hid hB; clear hR; clear hB))
        | (go_at_call 10; ((with_reducible refine (sub_rf (.agg #[.bool g5, .slice a5 n c5]) (.agg #[.bool g6, .slice a6 m c6]) n m (vx da n) (vx db m) _ (Vx_2.out.up T5_2.out).av (Vy_2.out.up T5_2.out).av s1 s2).mono ?_); rintro e u5_3 ⟨gr3, xr3, yr3, kr3, rfl, hR, hkr3, hB⟩; have T5_3 := Lib.hid (Below.up T5_2.out hB); have RR3 := Lib.hid hR; have HX3 := Lib.hid hB; clear hR; clear hB))
        | (go_at_call 11; ((with_reducible refine (mul_rf (.agg #[.bool g5, .slice a5 n c5]) (.agg #[.bool g6, .slice a6 m c6]) n m (vx da n) (vx db m) _ (Vx_2.out.up T5_3.out).av (Vy_2.out.up T5_3.out).av s1 s2).mono ?_); rintro e u5_4 ⟨gr4, xr4, yr4, kr4, rfl, hR, hkr4, hB⟩; have T5_4 := Lib.hid (Below.up T5_3.out hB); have RR4 := Lib.hid hR; have HX4 := Lib.hid hB; clear hR; clear hB))
        | (go_at_call 12; ((with_reducible refine (gcd_rf (.agg #[.bool g5, .slice a5 n c5]) (.agg #[.bool g6, .slice a6 m c6]) n m (vx da n) (vx db m) _ (T_2.out.up T5_4.out) (Vx_2.out.up T5_4.out).av (Vy_2.out.up T5_4.out).av s3 s4).mono ?_); rintro e u5_5 ⟨gr5, xr5, yr5, kr5, rfl, hR, hkr5, hB⟩; have T5_5 := Lib.hid (Below.up T5_4.out hB); have RR5 := Lib.hid hR; have HX5 := Lib.hid hB; clear hR; clear hB)))
      clear ox0 ox1 ox2 oy0 oy1 oy2
      go_wp2_with fail
      refine wp_at (fun W => Below w.heap.size w W ∧ Tab W ∧ LV W w.heap.size ga aa n ca da ∧ LV W (w.heap.size + 1) gb ab m cb db ∧ LV W bk5 g5 a5 n c5 da ∧ LV W bk6 g6 a6 m c6 db ∧ ZV W bk7 g7 a7 n7 c7 (vx da n) ∧ ZV W bk8 g8 a8 n8 c8 (vx db m) ∧ W.heap[u5_5.heap.size]? = some (.cells #[.bool gr0, .slice xr0 kr0 yr0, .bool gr1, .slice xr1 kr1 yr1, .bool gr2, .slice xr2 kr2 yr2, .bool gr3, .slice xr3 kr3 yr3, .bool gr4, .slice xr4 kr4 yr4, .bool gr5, .slice xr5 kr5 yr5] 24 (0, 0)) ∧ Below w2.heap.size w2 W ∧ NS w2.heap.size W gr0 xr0 kr0 yr0 (vx da n) ∧ NS w2.heap.size W gr1 xr1 kr1 yr1 (-(vx da n)) ∧ NS w2.heap.size W gr2 xr2 kr2 yr2 (vx da n + vx db m) ∧ NS w2.heap.size W gr3 xr3 kr3 yr3 (vx da n - vx db m) ∧ NS w2.heap.size W gr4 xr4 kr4 yr4 (vx da n * vx db m) ∧ NS w2.heap.size W gr5 xr5 kr5 yr5 ((Nat.gcd (vx da n).natAbs (vx db m).natAbs : Int))) ⟨Below.up H_2.out (Below.up T5_5.out (Below.one _ _)), T_2.out.up (Below.up T5_5.out (Below.one _ _)), Va_2.out.below (Below.up T5_5.out (Below.one _ _)), Vb_2.out.below (Below.up T5_5.out (Below.one _ _)), Vx_2.out.below (Below.up T5_5.out (Below.one _ _)), Vy_2.out.below (Below.up T5_5.out (Below.one _ _)), Vp_2.out.below (Below.up T5_5.out (Below.one _ _)), Vq_2.out.below (Below.up T5_5.out (Below.one _ _)), _root_.Go.heap_alloc_new _ _, Below.up T5_5.out (Below.one _ _), (((((((RI.ns RR0.out (Nat.le_refl _)).below HX1.out).below HX2.out).below HX3.out).below HX4.out).below HX5.out).below (Below.one _ _)), ((((((RI.ns RR1.out T5_0.out.size).below HX2.out).below HX3.out).below HX4.out).below HX5.out).below (Below.one _ _)), (((((RI.ns RR2.out T5_1.out.size).below HX3.out).below HX4.out).below HX5.out).below (Below.one _ _)), ((((RI.ns RR3.out T5_2.out.size).below HX4.out).below HX5.out).below (Below.one _ _)), (((RI.ns RR4.out T5_3.out.size).below HX5.out).below (Below.one _ _)), ((RI.ns RR5.out T5_4.out.size).below (Below.one _ _))⟩ ?_
      rintro w3 ⟨qH, qT, qVa, qVb, qVx, qVy, qVp, qVq, qLa, qBb, qN0, qN1, qN2, qN3, qN4, qN5⟩
      have H_3 := Lib.hid qH
      have T_3 := Lib.hid qT
      have Va_3 := Lib.hid qVa
      have Vb_3 := Lib.hid qVb
      have Vx_3 := Lib.hid qVx
      have Vy_3 := Lib.hid qVy
      have Vp_3 := Lib.hid qVp
      have Vq_3 := Lib.hid qVq
      have La_3 := Lib.hid qLa
      have Bb_3 := Lib.hid qBb
      have N0_3 := Lib.hid qN0
      have N1_3 := Lib.hid qN1
      have N2_3 := Lib.hid qN2
      have N3_3 := Lib.hid qN3
      have N4_3 := Lib.hid qN4
      have N5_3 := Lib.hid qN5
      clear qH qT qVa qVb qVx qVy qVp qVq qLa qBb qN0 qN1 qN2 qN3 qN4 qN5 H_2 T_2 Va_2 Vb_2 Vx_2 Vy_2 Vp_2 Vq_2
      generalize u5_5.heap.size = bl at *
      clear RR0 HX0 RR1 HX1 RR2 HX2 RR3 HX3 RR4 HX4 RR5 HX5
      have s5 : n7 ≤ 10000000 := by omega
      have s6 : n8 ≤ 10000000 := by omega
      have s7 : n7 ≤ 100000000 := by omega
      have M6 := Lib.hid (show ∀ w', Below w3.heap.size w3 w' → w'.cell? ⟨bk7, 0, none⟩ = some (.bool g7) ∧ w'.cell? ⟨bk7, 1, none⟩ = some (.slice a7 n7 c7) ∧ w'.cell? ⟨bk8, 0, none⟩ = some (.bool g8) ∧ w'.cell? ⟨bk8, 1, none⟩ = some (.slice a8 n8 c8) from fun w' h => ⟨(Vp_3.out.below h).1, (Vp_3.out.below h).2.1, (Vq_3.out.below h).1, (Vq_3.out.below h).2.1⟩)
      obtain ⟨op0, op1, op2, _⟩ := Vp_3.out
      obtain ⟨oq0, oq1, oq2, _⟩ := Vq_3.out
      have D6 := Lib.hid (Below.drew (Below.refl w3.heap.size w3))
      go_region_held3 (fun w' => w'.cell? ⟨bk7, 0, none⟩ = some (.bool g7) ∧ w'.cell? ⟨bk7, 1, none⟩ = some (.slice a7 n7 c7) ∧ w'.cell? ⟨bk8, 0, none⟩ = some (.bool g8) ∧ w'.cell? ⟨bk8, 1, none⟩ = some (.slice a8 n8 c8))
        (first | (with_reducible exact M6.out _ D6.out) | (with_reducible exact M6.out _ T6_0.out) | (with_reducible exact M6.out _ T6_1.out) | (with_reducible exact M6.out _ T6_2.out) | (with_reducible exact M6.out _ T6_3.out) | (with_reducible exact M6.out _ T6_4.out) | (with_reducible exact M6.out _ (Below.alloc' T6_4.out _)))
        (first
        | (go_at_call 13; ((with_reducible refine (zNeg_any g7 a7 n7 c7 (vx da n) _ (Vp_3.out.up D6.out) s7).mono ?_); rintro e u6_0 ⟨gz1, xz1, yz1, kz1, rfl, hR, hkz1, hB⟩; have T6_0 := Lib.hid (Below.up D6.out hB); have RZ1 := Lib.hid hR; have HY1 := Lib.hid hB; clear hR; clear hB))
        | (go_at_call 14; ((with_reducible refine (zAdd_any g7 g8 a7 a8 n7 n8 c7 c8 (vx da n) (vx db m) _ (Vp_3.out.up T6_0.out) (Vq_3.out.up T6_0.out) s5 s6).mono ?_); rintro e u6_1 ⟨gz2, xz2, yz2, kz2, rfl, hR, hkz2, hB⟩; have T6_1 := Lib.hid (Below.up T6_0.out hB); have RZ2 := Lib.hid hR; have HY2 := Lib.hid hB; clear hR; clear hB))
        | (go_at_call 15; ((with_reducible refine (zSub_any g7 g8 a7 a8 n7 n8 c7 c8 (vx da n) (vx db m) _ (Vp_3.out.up T6_1.out) (Vq_3.out.up T6_1.out) s5 s6).mono ?_); rintro e u6_2 ⟨gz3, xz3, yz3, kz3, rfl, hR, hkz3, hB⟩; have T6_2 := Lib.hid (Below.up T6_1.out hB); have RZ3 := Lib.hid hR; have HY3 := Lib.hid hB; clear hR; clear hB))
        | (go_at_call 16; ((with_reducible refine (zMul_any g7 g8 a7 a8 n7 n8 c7 c8 (vx da n) (vx db m) _ (Vp_3.out.up T6_2.out) (Vq_3.out.up T6_2.out) s5 s6).mono ?_); rintro e u6_3 ⟨gz4, xz4, yz4, kz4, rfl, hR, hkz4, hB⟩; have T6_3 := Lib.hid (Below.up T6_2.out hB); have RZ4 := Lib.hid hR; have HY4 := Lib.hid hB; clear hR; clear hB))
        | (go_at_call 17; ((with_reducible refine (zGcd_any g7 g8 a7 a8 n7 n8 c7 c8 (vx da n) (vx db m) _ (Vp_3.out.up T6_3.out) (Vq_3.out.up T6_3.out) s5 s6).mono ?_); rintro e u6_4 ⟨gz5, xz5, yz5, kz5, rfl, hR, hkz5, hB⟩; have T6_4 := Lib.hid (Below.up T6_3.out hB); have RZ5 := Lib.hid hR; have HY5 := Lib.hid hB; clear hR; clear hB)))
      clear op0 op1 op2 oq0 oq1 oq2
      go_wp2_with fail
      refine wp_at (fun W => Below w.heap.size w W ∧ Tab W ∧ LV W w.heap.size ga aa n ca da ∧ LV W (w.heap.size + 1) gb ab m cb db ∧ LV W bk5 g5 a5 n c5 da ∧ LV W bk6 g6 a6 m c6 db ∧ ZV W bk7 g7 a7 n7 c7 (vx da n) ∧ ZV W bk8 g8 a8 n8 c8 (vx db m) ∧ W.heap[bl]? = some (.cells #[.bool gr0, .slice xr0 kr0 yr0, .bool gr1, .slice xr1 kr1 yr1, .bool gr2, .slice xr2 kr2 yr2, .bool gr3, .slice xr3 kr3 yr3, .bool gr4, .slice xr4 kr4 yr4, .bool gr5, .slice xr5 kr5 yr5] 24 (0, 0)) ∧ Below w2.heap.size w2 W ∧ NS w2.heap.size W gr0 xr0 kr0 yr0 (vx da n) ∧ NS w2.heap.size W gr1 xr1 kr1 yr1 (-(vx da n)) ∧ NS w2.heap.size W gr2 xr2 kr2 yr2 (vx da n + vx db m) ∧ NS w2.heap.size W gr3 xr3 kr3 yr3 (vx da n - vx db m) ∧ NS w2.heap.size W gr4 xr4 kr4 yr4 (vx da n * vx db m) ∧ NS w2.heap.size W gr5 xr5 kr5 yr5 ((Nat.gcd (vx da n).natAbs (vx db m).natAbs : Int)) ∧ W.heap[u6_4.heap.size]? = some (.cells #[.bool g7, .slice a7 n7 c7, .bool gz1, .slice xz1 kz1 yz1, .bool gz2, .slice xz2 kz2 yz2, .bool gz3, .slice xz3 kz3 yz3, .bool gz4, .slice xz4 kz4 yz4, .bool gz5, .slice xz5 kz5 yz5] 28 (0, 0)) ∧ ZI W (.agg #[.bool gz1, .slice xz1 kz1 yz1]) kz1 (-(vx da n)) ∧ ZI W (.agg #[.bool gz2, .slice xz2 kz2 yz2]) kz2 (vx da n + vx db m) ∧ ZI W (.agg #[.bool gz3, .slice xz3 kz3 yz3]) kz3 (vx da n - vx db m) ∧ ZI W (.agg #[.bool gz4, .slice xz4 kz4 yz4]) kz4 (vx da n * vx db m) ∧ ZI W (.agg #[.bool gz5, .slice xz5 kz5 yz5]) kz5 ((Nat.gcd (vx da n).natAbs (vx db m).natAbs : Int))) ⟨Below.up H_3.out (Below.up T6_4.out (Below.one _ _)), T_3.out.up (Below.up T6_4.out (Below.one _ _)), Va_3.out.below (Below.up T6_4.out (Below.one _ _)), Vb_3.out.below (Below.up T6_4.out (Below.one _ _)), Vx_3.out.below (Below.up T6_4.out (Below.one _ _)), Vy_3.out.below (Below.up T6_4.out (Below.one _ _)), Vp_3.out.below (Below.up T6_4.out (Below.one _ _)), Vq_3.out.below (Below.up T6_4.out (Below.one _ _)), heap_up La_3.out (Below.up T6_4.out (Below.one _ _)), Below.up Bb_3.out (Below.up T6_4.out (Below.one _ _)), N0_3.out.below (Below.up T6_4.out (Below.one _ _)), N1_3.out.below (Below.up T6_4.out (Below.one _ _)), N2_3.out.below (Below.up T6_4.out (Below.one _ _)), N3_3.out.below (Below.up T6_4.out (Below.one _ _)), N4_3.out.below (Below.up T6_4.out (Below.one _ _)), N5_3.out.below (Below.up T6_4.out (Below.one _ _)), _root_.Go.heap_alloc_new _ _, (((((RZ1.out.below HY2.out).below HY3.out).below HY4.out).below HY5.out).below (Below.one _ _)), ((((RZ2.out.below HY3.out).below HY4.out).below HY5.out).below (Below.one _ _)), (((RZ3.out.below HY4.out).below HY5.out).below (Below.one _ _)), ((RZ4.out.below HY5.out).below (Below.one _ _)), (RZ5.out.below (Below.one _ _))⟩ ?_
      rintro w4 ⟨qH, qT, qVa, qVb, qVx, qVy, qVp, qVq, qLa, qBb, qN0, qN1, qN2, qN3, qN4, qN5, qMa, qZ1, qZ2, qZ3, qZ4, qZ5⟩
      have H_4 := Lib.hid qH
      have T_4 := Lib.hid qT
      have Va_4 := Lib.hid qVa
      have Vb_4 := Lib.hid qVb
      have Vx_4 := Lib.hid qVx
      have Vy_4 := Lib.hid qVy
      have Vp_4 := Lib.hid qVp
      have Vq_4 := Lib.hid qVq
      have La_4 := Lib.hid qLa
      have Bb_4 := Lib.hid qBb
      have N0_4 := Lib.hid qN0
      have N1_4 := Lib.hid qN1
      have N2_4 := Lib.hid qN2
      have N3_4 := Lib.hid qN3
      have N4_4 := Lib.hid qN4
      have N5_4 := Lib.hid qN5
      have Ma_4 := Lib.hid qMa
      have Z1_4 := Lib.hid qZ1
      have Z2_4 := Lib.hid qZ2
      have Z3_4 := Lib.hid qZ3
      have Z4_4 := Lib.hid qZ4
      have Z5_4 := Lib.hid qZ5
      clear qH qT qVa qVb qVx qVy qVp qVq qLa qBb qN0 qN1 qN2 qN3 qN4 qN5 qMa qZ1 qZ2 qZ3 qZ4 qZ5 H_3 T_3 Va_3 Vb_3 Vx_3 Vy_3 Vp_3 Vq_3 La_3 Bb_3 N0_3 N1_3 N2_3 N3_3 N4_3 N5_3
      generalize u6_4.heap.size = bm at *
      clear RZ1 HY1 RZ2 HY2 RZ3 HY3 RZ4 HY4 RZ5 HY5
      have PK := Lib.hid (show ∀ k : Nat, k < 6 → ∃ (gl : Bool) (al : Option Addr) (nl cl : Nat) (gm : Bool) (am : Option Addr) (nm cm : Nat) (z : Int), (∀ w', Below w4.heap.size w4 w' → w'.cell? ⟨bl, k * 2, none⟩ = some (.bool gl) ∧ w'.cell? ⟨bl, k * 2 + 1, none⟩ = some (.slice al nl cl) ∧ w'.cell? ⟨bm, k * 2, none⟩ = some (.bool gm) ∧ w'.cell? ⟨bm, k * 2 + 1, none⟩ = some (.slice am nm cm)) ∧ NI w4 (.agg #[.bool gl, .slice al nl cl]) nl z ∧ ZI w4 (.agg #[.bool gm, .slice am nm cm]) nm z ∧ nl ≤ 1000000000 ∧ nm ≤ 100000000 ∧ SpO w2.heap.size w4 gl al nl cl from fun k hk => match k, hk with
        | 0, _ => ⟨gr0, xr0, kr0, yr0, g7, a7, n7, c7, _, fun w' h => ⟨cell_of (i := 0 * 2) (heap_up La_4.out h) rfl, cell_of (i := 0 * 2 + 1) (heap_up La_4.out h) rfl, cell_of (i := 0 * 2) (heap_up Ma_4.out h) rfl, cell_of (i := 0 * 2 + 1) (heap_up Ma_4.out h) rfl⟩, N0_4.out.1, Vp_4.out.2.2.2, by omega, by omega, N0_4.out.2⟩
        | 1, _ => ⟨gr1, xr1, kr1, yr1, gz1, xz1, kz1, yz1, _, fun w' h => ⟨cell_of (i := 1 * 2) (heap_up La_4.out h) rfl, cell_of (i := 1 * 2 + 1) (heap_up La_4.out h) rfl, cell_of (i := 1 * 2) (heap_up Ma_4.out h) rfl, cell_of (i := 1 * 2 + 1) (heap_up Ma_4.out h) rfl⟩, N1_4.out.1, Z1_4.out, by omega, by omega, N1_4.out.2⟩
        | 2, _ => ⟨gr2, xr2, kr2, yr2, gz2, xz2, kz2, yz2, _, fun w' h => ⟨cell_of (i := 2 * 2) (heap_up La_4.out h) rfl, cell_of (i := 2 * 2 + 1) (heap_up La_4.out h) rfl, cell_of (i := 2 * 2) (heap_up Ma_4.out h) rfl, cell_of (i := 2 * 2 + 1) (heap_up Ma_4.out h) rfl⟩, N2_4.out.1, Z2_4.out, by omega, by omega, N2_4.out.2⟩
        | 3, _ => ⟨gr3, xr3, kr3, yr3, gz3, xz3, kz3, yz3, _, fun w' h => ⟨cell_of (i := 3 * 2) (heap_up La_4.out h) rfl, cell_of (i := 3 * 2 + 1) (heap_up La_4.out h) rfl, cell_of (i := 3 * 2) (heap_up Ma_4.out h) rfl, cell_of (i := 3 * 2 + 1) (heap_up Ma_4.out h) rfl⟩, N3_4.out.1, Z3_4.out, by omega, by omega, N3_4.out.2⟩
        | 4, _ => ⟨gr4, xr4, kr4, yr4, gz4, xz4, kz4, yz4, _, fun w' h => ⟨cell_of (i := 4 * 2) (heap_up La_4.out h) rfl, cell_of (i := 4 * 2 + 1) (heap_up La_4.out h) rfl, cell_of (i := 4 * 2) (heap_up Ma_4.out h) rfl, cell_of (i := 4 * 2 + 1) (heap_up Ma_4.out h) rfl⟩, N4_4.out.1, Z4_4.out, by omega, by omega, N4_4.out.2⟩
        | 5, _ => ⟨gr5, xr5, kr5, yr5, gz5, xz5, kz5, yz5, _, fun w' h => ⟨cell_of (i := 5 * 2) (heap_up La_4.out h) rfl, cell_of (i := 5 * 2 + 1) (heap_up La_4.out h) rfl, cell_of (i := 5 * 2) (heap_up Ma_4.out h) rfl, cell_of (i := 5 * 2 + 1) (heap_up Ma_4.out h) rfl⟩, N5_4.out.1, Z5_4.out, by omega, by omega, N5_4.out.2⟩
        | k + 6, hk => absurd hk (by omega))
      have C2 := Lib.hid (And.intro (cell_of (i := 4) (v := .bool gz2) Ma_4.out rfl) (cell_of (i := 5) (v := .slice xz2 kz2 yz2) Ma_4.out rfl))
      have BX0 : w2.heap.size ≤ w4.heap.size := Bb_4.out.size
      clear N0_4 N1_4 N2_4 N3_4 N4_4 N5_4 Z1_4 Z3_4 Z4_4 Z5_4 La_4 Ma_4 Va_4 Vb_4 Vx_4 Vy_4 Vp_4 Vq_4
      go_loopw [68] (fun i wr => ∃ k : Nat, k ≤ 6 ∧ i = .int .i64 k ∧ Hid (Below w4.heap.size w4 wr)) (fun i _ => 6 - (intOf i).toNat)
      case atStart => exact ⟨0, by omega, rfl, Lib.hid (Below.refl _ _)⟩
      case round =>
        obtain ⟨k, hk, rfl, HB⟩ := hrel
        by_cases hlt : k < 6
        · obtain ⟨gl, al, nl, cl, gm, am, nm, cm, z, hcc, hN, hZ, hnl, hnm, hS⟩ := PK.out k hlt
          obtain ⟨c0, c1, c2, c3⟩ := hcc wr HB.out
          have SI := Lib.hid (SameInt_yes gl gm al am nl nm cl cm z wr.drew (hN.below (HB.out.drew)) (hZ.below (HB.out.drew)) hnl hnm)
          clear hcc hN hZ hS
          have q1 : (k : Int) < 6 := by omega
          have q2 : (0 : Int) ≤ (k : Int) := by omega
          have q3 : ((k : Int)).toNat = k := rfl
          go_wp2_with fail
          go_still_tail 8, (by kernel_rfl)
          go_wp2_with (go_at_call 18; ((with_reducible refine SI.out.mono ?_); rintro e w' ⟨rfl, hB⟩; have HB2 := Lib.hid (Below.up (HB.out.drew) hB); clear hB))
          clear q1 q2 q3
          go_roundw
          case rel => exact ⟨k + 1, by omega, by go_num, HB2⟩
          case measure => simp [intOf]; omega
        · obtain rfl : k = 6 := by omega
          have PK2 := Lib.hid (show ∀ k : Nat, k < 6 → ∃ (gl : Bool) (al : Option Addr) (nl cl : Nat), (wr.cell? ⟨bl, k * 2, none⟩ = some (.bool gl) ∧ wr.cell? ⟨bl, k * 2 + 1, none⟩ = some (.slice al nl cl)) ∧ nl ≤ 1000000000 ∧ SpO w2.heap.size wr gl al nl cl from fun k hk => by
            obtain ⟨gl, al, nl, cl, gm, am, nm, cm, z, hcc, hN, hZ, hnl, hnm, hS⟩ := PK.out k hk
            obtain ⟨c0, c1, c2, c3⟩ := hcc wr HB.out
            exact ⟨gl, al, nl, cl, ⟨c0, c1⟩, hnl, hS.below HB.out⟩)
          have C3 := Lib.hid (And.intro (bc HB.out C2.out.1) (bc HB.out C2.out.2))
          have Z2' := Lib.hid (Z2_4.out.below HB.out)
          have Bb' := Lib.hid (Below.up Bb_4.out HB.out)
          clear PK C2 Z2_4 Bb_4 HB
          go_wp2_with fail
          have hbs := Bb'.out.size
          go_loopw [84] (fun i ws => ∃ k : Nat, k ≤ 6 ∧ i = .int .i64 k ∧ Hid (SpW w2.heap.size wr ws)) (fun i _ => 6 - (intOf i).toNat)
          case atStart => exact ⟨0, by omega, rfl, Lib.hid (SpW.refl _ _)⟩
          case round =>
            obtain ⟨k, hk, rfl, HS⟩ := hrel
            by_cases hlt : k < 6
            · obtain ⟨gl, al, nl, cl, ⟨d0, d1⟩, hnl, hS⟩ := PK2.out k hlt
              have c0 := HS.out.1 _ _ _ (fun z => by simp) d0
              have c1 := HS.out.1 _ _ _ (fun z => by simp) d1
              have SP := Lib.hid (spoil_any w2.heap.size gl al nl cl _ (hS.keep HS.out) (Nat.le_trans hbs HS.out.2.2.1) hnl)
              clear d0 d1 hS
              go_wp2_with (go_at_call 19; ((with_reducible refine SP.out.mono ?_); rintro e w' hP; have HP2 := Lib.hid (HS.out.next hP); have he := hP.1; subst he; clear hP))
              go_roundw
              case rel => first | exact ⟨k + 1, by omega, by go_num, HP2⟩ | ((repeat apply Exists.intro); exact ⟨⟨k + 1, by omega, by go_num, HP2⟩, rfl⟩)
              case measure => simp [intOf]; omega
            · obtain rfl : k = 6 := by omega
              have Bw := Lib.hid (Bb'.out.trans HS.out.2.1)
              have H_8 := Lib.hid (KV.out.1.trans (Bw.out.mono KV.out.1.size))
              have T_8 := Lib.hid (KV.out.2.1.up Bw.out)
              have Va_8 := Lib.hid (KV.out.2.2.1.below Bw.out)
              have Vb_8 := Lib.hid (KV.out.2.2.2.1.below Bw.out)
              have Vx_8 := Lib.hid (KV.out.2.2.2.2.1.below Bw.out)
              have Vy_8 := Lib.hid (KV.out.2.2.2.2.2.1.below Bw.out)
              have Vp_8 := Lib.hid (KV.out.2.2.2.2.2.2.1.below Bw.out)
              have Vq_8 := Lib.hid (KV.out.2.2.2.2.2.2.2.below Bw.out)
              have Mc_8 := Lib.hid (And.intro (HS.out.1 _ _ _ (fun z => by simp) C3.out.1) (HS.out.1 _ _ _ (fun z => by simp) C3.out.2))
              have Z2_8 := Lib.hid (HS.out.1.zi Z2'.out)
              clear KV Bw HS C3 Z2' Bb' PK2 hbs BX0
              refine wp_at (fun W => Below w.heap.size w W ∧ Tab W ∧ LV W w.heap.size ga aa n ca da ∧ LV W (w.heap.size + 1) gb ab m cb db ∧ LV W bk5 g5 a5 n c5 da ∧ LV W bk6 g6 a6 m c6 db ∧ ZV W bk7 g7 a7 n7 c7 (vx da n) ∧ ZV W bk8 g8 a8 n8 c8 (vx db m) ∧ (W.cell? ⟨bm, 4, none⟩ = some (.bool gz2) ∧ W.cell? ⟨bm, 5, none⟩ = some (.slice xz2 kz2 yz2)) ∧ ZI W (.agg #[.bool gz2, .slice xz2 kz2 yz2]) kz2 (vx da n + vx db m)) ⟨Below.up H_8.out (Below.refl _ _), T_8.out.up (Below.refl _ _), Va_8.out.below (Below.refl _ _), Vb_8.out.below (Below.refl _ _), Vx_8.out.below (Below.refl _ _), Vy_8.out.below (Below.refl _ _), Vp_8.out.below (Below.refl _ _), Vq_8.out.below (Below.refl _ _), And.intro (bc (Below.refl _ _) Mc_8.out.1) (bc (Below.refl _ _) Mc_8.out.2), Z2_8.out.below (Below.refl _ _)⟩ ?_
              rintro w9 ⟨qH, qT, qVa, qVb, qVx, qVy, qVp, qVq, qMc, qZ2⟩
              have H_9 := Lib.hid qH
              have T_9 := Lib.hid qT
              have Va_9 := Lib.hid qVa
              have Vb_9 := Lib.hid qVb
              have Vx_9 := Lib.hid qVx
              have Vy_9 := Lib.hid qVy
              have Vp_9 := Lib.hid qVp
              have Vq_9 := Lib.hid qVq
              have Mc_9 := Lib.hid qMc
              have Z2_9 := Lib.hid qZ2
              clear qH qT qVa qVb qVx qVy qVp qVq qMc qZ2 H_8 T_8 Va_8 Vb_8 Vx_8 Vy_8 Vp_8 Vq_8 Mc_8 Z2_8
              obtain ⟨ox0, ox1, ox2, _⟩ := Vx_9.out
              obtain ⟨oy0, oy1, oy2, _⟩ := Vy_9.out
              go_wp2_with fail
              refine (add_rf (.agg #[.bool g5, .slice a5 n c5]) (.agg #[.bool g6, .slice a6 m c6]) n m (vx da n) (vx db m) _ Vx_9.out.2.2.2.av Vy_9.out.2.2.2.av s1 s2).mono ?_
              rintro e u9 ⟨gt, xt, yt, kt, rfl, hR, hkt, hB⟩
              have RT := Lib.hid hR
              have BT := Lib.hid hB
              clear hR hB
              clear ox0 ox1 ox2 oy0 oy1 oy2
              go_wp2_with fail
              refine wp_at (fun W => Below w.heap.size w W ∧ Tab W ∧ LV W w.heap.size ga aa n ca da ∧ LV W (w.heap.size + 1) gb ab m cb db ∧ LV W bk5 g5 a5 n c5 da ∧ LV W bk6 g6 a6 m c6 db ∧ ZV W bk7 g7 a7 n7 c7 (vx da n) ∧ ZV W bk8 g8 a8 n8 c8 (vx db m) ∧ NV W u9.heap.size gt xt kt yt (vx da n + vx db m) ∧ (W.cell? ⟨bm, 4, none⟩ = some (.bool gz2) ∧ W.cell? ⟨bm, 5, none⟩ = some (.slice xz2 kz2 yz2)) ∧ ZI W (.agg #[.bool gz2, .slice xz2 kz2 yz2]) kz2 (vx da n + vx db m)) ⟨Below.up H_9.out (Below.up BT.out (Below.one _ _)), T_9.out.up (Below.up BT.out (Below.one _ _)), Va_9.out.below (Below.up BT.out (Below.one _ _)), Vb_9.out.below (Below.up BT.out (Below.one _ _)), Vx_9.out.below (Below.up BT.out (Below.one _ _)), Vy_9.out.below (Below.up BT.out (Below.one _ _)), Vp_9.out.below (Below.up BT.out (Below.one _ _)), Vq_9.out.below (Below.up BT.out (Below.one _ _)), NV.new RT.out.ni, And.intro (bc (Below.up BT.out (Below.one _ _)) Mc_9.out.1) (bc (Below.up BT.out (Below.one _ _)) Mc_9.out.2), Z2_9.out.below (Below.up BT.out (Below.one _ _))⟩ ?_
              rintro w10 ⟨qH, qT, qVa, qVb, qVx, qVy, qVp, qVq, qVt, qMc, qZ2⟩
              have H_10 := Lib.hid qH
              have T_10 := Lib.hid qT
              have Va_10 := Lib.hid qVa
              have Vb_10 := Lib.hid qVb
              have Vx_10 := Lib.hid qVx
              have Vy_10 := Lib.hid qVy
              have Vp_10 := Lib.hid qVp
              have Vq_10 := Lib.hid qVq
              have Vt_10 := Lib.hid qVt
              have Mc_10 := Lib.hid qMc
              have Z2_10 := Lib.hid qZ2
              clear qH qT qVa qVb qVx qVy qVp qVq qVt qMc qZ2 H_9 T_9 Va_9 Vb_9 Vx_9 Vy_9 Vp_9 Vq_9 Mc_9 Z2_9
              generalize u9.heap.size = bt at *
              clear RT BT
              have s8 : n ≤ 1000000000 := by omega
              have s9 : m ≤ 1000000000 := by omega
              have M19 := Lib.hid (show ∀ w', Below w10.heap.size w10 w' → w'.cell? ⟨bk5, 0, none⟩ = some (.bool g5) ∧ w'.cell? ⟨bk5, 1, none⟩ = some (.slice a5 n c5) ∧ w'.cell? ⟨bk6, 0, none⟩ = some (.bool g6) ∧ w'.cell? ⟨bk6, 1, none⟩ = some (.slice a6 m c6) ∧ w'.cell? ⟨bk7, 0, none⟩ = some (.bool g7) ∧ w'.cell? ⟨bk7, 1, none⟩ = some (.slice a7 n7 c7) ∧ w'.cell? ⟨bk8, 0, none⟩ = some (.bool g8) ∧ w'.cell? ⟨bk8, 1, none⟩ = some (.slice a8 n8 c8) from fun w' h => ⟨(Vx_10.out.below h).1, (Vx_10.out.below h).2.1, (Vy_10.out.below h).1, (Vy_10.out.below h).2.1, (Vp_10.out.below h).1, (Vp_10.out.below h).2.1, (Vq_10.out.below h).1, (Vq_10.out.below h).2.1⟩)
              obtain ⟨ox0, ox1, ox2, _⟩ := Vx_10.out
              obtain ⟨oy0, oy1, oy2, _⟩ := Vy_10.out
              obtain ⟨op0, op1, op2, _⟩ := Vp_10.out
              obtain ⟨oq0, oq1, oq2, _⟩ := Vq_10.out
              have D19 := Lib.hid (Below.drew (Below.refl w10.heap.size w10))
              go_region_held3 (fun w' => w'.cell? ⟨bk5, 0, none⟩ = some (.bool g5) ∧ w'.cell? ⟨bk5, 1, none⟩ = some (.slice a5 n c5) ∧ w'.cell? ⟨bk6, 0, none⟩ = some (.bool g6) ∧ w'.cell? ⟨bk6, 1, none⟩ = some (.slice a6 m c6) ∧ w'.cell? ⟨bk7, 0, none⟩ = some (.bool g7) ∧ w'.cell? ⟨bk7, 1, none⟩ = some (.slice a7 n7 c7) ∧ w'.cell? ⟨bk8, 0, none⟩ = some (.bool g8) ∧ w'.cell? ⟨bk8, 1, none⟩ = some (.slice a8 n8 c8))
                (first | (with_reducible exact M19.out _ D19.out) | (with_reducible exact M19.out _ T19_0.out) | (with_reducible exact M19.out _ T19_1.out) | (with_reducible exact M19.out _ T19_2.out) | (with_reducible exact M19.out _ T19_3.out) | (with_reducible exact M19.out _ (Below.alloc' T19_3.out _)))
                (first
                | (go_at_call 20; ((with_reducible refine (Sign_any (.agg #[.bool g5, .slice a5 n c5]) n (vx da n) _ (Vx_10.out.up D19.out).av s8).mono ?_); rintro e u19_0 ⟨rfl, hB⟩; have T19_0 := Lib.hid (Below.up D19.out hB); clear hB))
                | (go_at_call 21; ((with_reducible refine (zSign_any g7 a7 n7 c7 (vx da n) _ (Vp_10.out.up T19_0.out)).mono ?_); rintro e u19_1 ⟨rfl, hB⟩; have T19_1 := Lib.hid (Below.up T19_0.out hB); clear hB))
                | (go_at_call 22; ((with_reducible refine (Cmp_any (.agg #[.bool g5, .slice a5 n c5]) (.agg #[.bool g6, .slice a6 m c6]) n m (vx da n) (vx db m) _ (Vx_10.out.up T19_1.out).av (Vy_10.out.up T19_1.out).av s8 s9).mono ?_); rintro e u19_2 ⟨rfl, hB⟩; have T19_2 := Lib.hid (Below.up T19_1.out hB); clear hB))
                | (go_at_call 23; ((with_reducible refine (zCmp_any g7 g8 a7 a8 n7 n8 c7 c8 (vx da n) (vx db m) _ (Vp_10.out.up T19_2.out) (Vq_10.out.up T19_2.out) s5 s6).mono ?_); rintro e u19_3 ⟨rfl, hB⟩; have T19_3 := Lib.hid (Below.up T19_2.out hB); clear hB)))
              clear ox0 ox1 ox2 oy0 oy1 oy2 op0 op1 op2 oq0 oq1 oq2
              go_wp2_with fail
              refine wp_at (fun W => Below w.heap.size w W ∧ Tab W ∧ LV W w.heap.size ga aa n ca da ∧ LV W (w.heap.size + 1) gb ab m cb db ∧ LV W bk5 g5 a5 n c5 da ∧ LV W bk6 g6 a6 m c6 db ∧ ZV W bk7 g7 a7 n7 c7 (vx da n) ∧ ZV W bk8 g8 a8 n8 c8 (vx db m) ∧ NV W bt gt xt kt yt (vx da n + vx db m) ∧ (W.cell? ⟨bm, 4, none⟩ = some (.bool gz2) ∧ W.cell? ⟨bm, 5, none⟩ = some (.slice xz2 kz2 yz2)) ∧ ZI W (.agg #[.bool gz2, .slice xz2 kz2 yz2]) kz2 (vx da n + vx db m)) ⟨Below.up H_10.out T19_3.out, T_10.out.up T19_3.out, Va_10.out.below T19_3.out, Vb_10.out.below T19_3.out, Vx_10.out.below T19_3.out, Vy_10.out.below T19_3.out, Vp_10.out.below T19_3.out, Vq_10.out.below T19_3.out, Vt_10.out.below T19_3.out, And.intro (bc T19_3.out Mc_10.out.1) (bc T19_3.out Mc_10.out.2), Z2_10.out.below T19_3.out⟩ ?_
              rintro w11 ⟨qH, qT, qVa, qVb, qVx, qVy, qVp, qVq, qVt, qMc, qZ2⟩
              have H_11 := Lib.hid qH
              have T_11 := Lib.hid qT
              have Va_11 := Lib.hid qVa
              have Vb_11 := Lib.hid qVb
              have Vx_11 := Lib.hid qVx
              have Vy_11 := Lib.hid qVy
              have Vp_11 := Lib.hid qVp
              have Vq_11 := Lib.hid qVq
              have Vt_11 := Lib.hid qVt
              have Mc_11 := Lib.hid qMc
              have Z2_11 := Lib.hid qZ2
              clear qH qT qVa qVb qVx qVy qVp qVq qVt qMc qZ2 H_10 T_10 Va_10 Vb_10 Vx_10 Vy_10 Vp_10 Vq_10 Vt_10 Mc_10 Z2_10
              have s10 : kt ≤ 1000000000 := by omega
              have s11 : kz2 ≤ 100000000 := by omega
              have M20 := Lib.hid (show ∀ w', Below w11.heap.size w11 w' → w'.cell? ⟨bk5, 0, none⟩ = some (.bool g5) ∧ w'.cell? ⟨bk5, 1, none⟩ = some (.slice a5 n c5) ∧ w'.cell? ⟨w.heap.size, 0, none⟩ = some (.bool ga) ∧ w'.cell? ⟨w.heap.size, 1, none⟩ = some (.slice aa n ca) ∧ w'.cell? ⟨bk6, 0, none⟩ = some (.bool g6) ∧ w'.cell? ⟨bk6, 1, none⟩ = some (.slice a6 m c6) ∧ w'.cell? ⟨(w.heap.size + 1), 0, none⟩ = some (.bool gb) ∧ w'.cell? ⟨(w.heap.size + 1), 1, none⟩ = some (.slice ab m cb) ∧ w'.cell? ⟨bt, 0, none⟩ = some (.bool gt) ∧ w'.cell? ⟨bt, 1, none⟩ = some (.slice xt kt yt) ∧ w'.cell? ⟨bm, 4, none⟩ = some (.bool gz2) ∧ w'.cell? ⟨bm, 5, none⟩ = some (.slice xz2 kz2 yz2) from fun w' h => ⟨(Vx_11.out.below h).1, (Vx_11.out.below h).2.1, (Va_11.out.below h).1, (Va_11.out.below h).2.1, (Vy_11.out.below h).1, (Vy_11.out.below h).2.1, (Vb_11.out.below h).1, (Vb_11.out.below h).2.1, (Vt_11.out.below h).1, (Vt_11.out.below h).2.1, bc h Mc_11.out.1, bc h Mc_11.out.2⟩)
              obtain ⟨ox0, ox1, ox2, _⟩ := Vx_11.out
              obtain ⟨oa0, oa1, oa2, _⟩ := Va_11.out
              obtain ⟨oy0, oy1, oy2, _⟩ := Vy_11.out
              obtain ⟨ob0, ob1, ob2, _⟩ := Vb_11.out
              obtain ⟨ot0, ot1, ot2, _⟩ := Vt_11.out
              obtain ⟨om0, om1⟩ := Mc_11.out
              have D20 := Lib.hid (Below.drew (Below.refl w11.heap.size w11))
              go_region_held3 (fun w' => w'.cell? ⟨bk5, 0, none⟩ = some (.bool g5) ∧ w'.cell? ⟨bk5, 1, none⟩ = some (.slice a5 n c5) ∧ w'.cell? ⟨w.heap.size, 0, none⟩ = some (.bool ga) ∧ w'.cell? ⟨w.heap.size, 1, none⟩ = some (.slice aa n ca) ∧ w'.cell? ⟨bk6, 0, none⟩ = some (.bool g6) ∧ w'.cell? ⟨bk6, 1, none⟩ = some (.slice a6 m c6) ∧ w'.cell? ⟨(w.heap.size + 1), 0, none⟩ = some (.bool gb) ∧ w'.cell? ⟨(w.heap.size + 1), 1, none⟩ = some (.slice ab m cb) ∧ w'.cell? ⟨bt, 0, none⟩ = some (.bool gt) ∧ w'.cell? ⟨bt, 1, none⟩ = some (.slice xt kt yt) ∧ w'.cell? ⟨bm, 4, none⟩ = some (.bool gz2) ∧ w'.cell? ⟨bm, 5, none⟩ = some (.slice xz2 kz2 yz2))
                (first | (with_reducible exact M20.out _ D20.out) | (with_reducible exact M20.out _ T20_0.out) | (with_reducible exact M20.out _ T20_1.out) | (with_reducible exact M20.out _ T20_2.out) | (with_reducible exact M20.out _ (Below.alloc' T20_2.out _)))
                (first
                | (go_at_call 24; ((with_reducible refine (likeInt_ax g5 ga a5 aa n c5 ca da _ (Vx_11.out.up D20.out) (Va_11.out.up D20.out) s1).mono ?_); rintro e u20_0 ⟨rfl, hB⟩; have T20_0 := Lib.hid (Below.up D20.out hB); clear hB))
                | (go_at_call 24; ((with_reducible refine (likeInt_ax g6 gb a6 ab m c6 cb db _ (Vy_11.out.up T20_0.out) (Vb_11.out.up T20_0.out) s2).mono ?_); rintro e u20_1 ⟨rfl, hB⟩; have T20_1 := Lib.hid (Below.up T20_0.out hB); clear hB))
                | (go_at_call 18; ((with_reducible refine (SameInt_yes gt gz2 xt xz2 kt kz2 yt yz2 (vx da n + vx db m) _ (Vt_11.out.up T20_1.out) (Z2_11.out.below T20_1.out) s10 s11).mono ?_); rintro e u20_2 ⟨rfl, hB⟩; have T20_2 := Lib.hid (Below.up T20_1.out hB); clear hB)))
              clear ox0 ox1 ox2 oa0 oa1 oa2 oy0 oy1 oy2 ob0 ob1 ob2 ot0 ot1 ot2
              go_wp2_with fail
              go_ret
              exact ⟨rfl, Below.up H_11.out T20_2.out⟩
end Go.Proofs.YtkhchaoehlefdaaDoor
