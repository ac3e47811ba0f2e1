/- alive. -/
import Derived.Test.YtpkjpepnjlcgoaaDoorExV
set_option linter.unusedVariables false
set_option linter.unusedSimpArgs false
namespace Go.Proofs.YtpkjpepnjlcgoaaDoor
open Go.RowKit

theorem txt1 : strOfNums (dig 0 1) = ⟨#[49]⟩ := by decide
theorem txt2 : strOfNums (dig 0 2) = ⟨#[50]⟩ := by decide
theorem txt3 : strOfNums (dig 0 3) = ⟨#[51]⟩ := by decide
theorem txt4 : strOfNums (dig 0 4) = ⟨#[52]⟩ := by decide
theorem low_shows (u : Value) (n m : Nat) (W : World) (hT : Tab W) (h : AR W u n m (-3) 2) (hn : n ≤ 2) (hm : m ≤ 2) :
    Calls Tryd.prog 32 #[u, .string ⟨#[45, 51, 47, 50]⟩] W fun e w' => e = .returned (.bool true) ∧ Below W.heap.size W w' :=
  shows_true u n m (-3) 2 _ W h fun w' hB => Show_parts u n m (-3) 2 3 2 51 50 w' (hT.up hB) (h.below hB) hn hm (by decide) (by decide) (by omega) txt3 (by omega) txt2
theorem one_shows (u : Value) (n m : Nat) (W : World) (hT : Tab W) (h : AR W u n m (-1) 1) (hn : n ≤ 2) (hm : m ≤ 2) :
    Calls Tryd.prog 32 #[u, .string ⟨#[45, 49]⟩] W fun e w' => e = .returned (.bool true) ∧ Below W.heap.size W w' :=
  shows_true u n m (-1) 1 _ W h fun w' hB => Show_whole u n m (-1) 1 1 1 49 0 w' (hT.up hB) (h.below hB) hn hm (by decide) (by decide) (by omega) txt1 rfl
theorem half_over (W : World) (hT : Tab W) :
    Calls Tryd.prog 31 #[.int .i64 1, .int .i64 2] W (Lo W 1 2 2 2) :=
  (over_any common_short divide_short 1 2 W hT (by omega) (by omega) (by omega) (by omega) (by omega)).mono fun e w' h => h.z (by decide) (by decide) (Nat.le_refl _) (Nat.le_refl _)
theorem low_over (W : World) (hT : Tab W) :
    Calls Tryd.prog 31 #[.int .i64 6, .int .i64 (-4)] W (Lo W (-3) 2 2 2) :=
  (over_any common_short divide_short 6 (-4) W hT (by omega) (by omega) (by omega) (by omega) (by omega)).mono fun e w' h => h.z (by decide) (by decide) (Nat.le_refl _) (Nat.le_refl _)
theorem low_half (u v : Value) (n m n' m' : Nat) (W : World) (hT : Tab W) (hu : AR W u n m (-3) 2) (hv : AR W v n' m' 1 2) (hn : n ≤ 2) (hm : m ≤ 2) (hn' : n' ≤ 2) (hm' : m' ≤ 2) :
    Calls Tryd.prog 22 #[u, v] W (Lo W (-1) 1 2 2) :=
  (Plus_short u v n m n' m' (-3) 2 1 2 W hT hu hv hn hm hn' hm' rfl (by decide)).mono fun e w' h => h.z (by decide) (by decide) (Nat.le_refl _) (Nat.le_refl _)
theorem div_seven (u v : Value) (n m : Nat) (W : World) (hu : AI W u n 7) (hv : AI W v m (-2)) (hn : n ≤ 2) (hm : m ≤ 2) :
    Calls Tryd.prog 30 #[u, v] W (Dv W (-4) (-1)) :=
  Div_pn u v n m 7 (-2) W hu hv hn hm (by omega) (by omega) (by decide)

set_option maxHeartbeats 3200000 in
theorem alive_any (w : World) (hT : Tab w) :
    Calls Tryd.prog 6 #[] w fun e w' => e = .returned (.bool true) ∧ Below w.heap.size w w' := by
  have HT := Lib.hid hT
  clear hT
  go_enter Tryd.func6, Tryd.ntmps6
  go_wp2_with fail
  refine (Of_any 7 (by omega) _).mono ?_
  rintro e w1 ⟨r1, k1, rfl, hR1, hk1, hB1⟩
  have R1 := Lib.hid hR1.ai
  have B1 := Lib.hid hB1
  clear hR1 hB1
  go_wp2_with fail
  refine (Of_any (-2) (by omega) _).mono ?_
  rintro e w2 ⟨r2, k2, rfl, hR2, hk2, hB2⟩
  have R2 := Lib.hid hR2.ai
  have R1' := Lib.hid (R1.out.below hB2)
  have B2 := Lib.hid (Below.up B1.out hB2)
  clear hR2 hB2
  go_wp2_with fail
  refine (div_seven _ _ k1 k2 w2 R1'.out R2.out hk1 hk2).mono ?_
  rintro e w3 ⟨q, r, k, j, rfl, hQ, hR, hk, hj, hB3⟩
  obtain ⟨g1, a1, c1, rfl⟩ := hQ.form
  obtain ⟨g2, a2, c2, rfl⟩ := hR.form
  have HQ := Lib.hid hQ.ai
  have HR := Lib.hid hR.ai
  have B3 := Lib.hid (Below.up B2.out hB3)
  clear hQ hR hB3
  go_wp2_with fail
  refine (low_over _ (HT.out.up (Below.up B3.out (by repeat (first | exact Below.refl _ _ | exact Nat.le_refl _ | (apply Below.alloc) | (simp <;> omega)))))).mono ?_
  rintro e w4 ⟨t, n, m, rfl, hL, hn, hm, hB4⟩
  obtain ⟨g3, a3, c3, g4, a4, c4, rfl⟩ := hL.form
  have HL := Lib.hid hL.ar
  have B4 := Lib.hid hB4
  obtain ⟨hcc, hff⟩ := bcell hB4
  have hz := hB4.size
  simp at hz
  have hd1 : w3.heap.size < w4.heap.size := by omega
  have hd2 : w3.heap.size + 1 < w4.heap.size := by omega
  have BT := Lib.hid (Below.up B3.out (Below.up (by repeat (first | exact Below.refl _ _ | exact Nat.le_refl _ | (apply Below.alloc) | (simp <;> omega))) B4.out))
  clear hL hB4 hz
  have BW := Lib.hid (Below.up BT.out ((Below.refl _ _).alloc (Nat.le_refl _) (Obj.cells #[Value.bool g3, Value.slice a3 n c3, Value.bool g4, Value.slice a4 m c4] 26)))
  have LW := Lib.hid (HL.out.below ((Below.refl _ _).alloc (Nat.le_refl _) (Obj.cells #[Value.bool g3, Value.slice a3 n c3, Value.bool g4, Value.slice a4 m c4] 26)))
  have QW := Lib.hid (HQ.out.below (Below.up (by repeat (first | exact Below.refl _ _ | exact Nat.le_refl _ | (apply Below.alloc) | (simp <;> omega))) (Below.up B4.out ((Below.refl _ _).alloc (Nat.le_refl _) (Obj.cells #[Value.bool g3, Value.slice a3 n c3, Value.bool g4, Value.slice a4 m c4] 26)))))
  have RW := Lib.hid (HR.out.below (Below.up (by repeat (first | exact Below.refl _ _ | exact Nat.le_refl _ | (apply Below.alloc) | (simp <;> omega))) (Below.up B4.out ((Below.refl _ _).alloc (Nat.le_refl _) (Obj.cells #[Value.bool g3, Value.slice a3 n c3, Value.bool g4, Value.slice a4 m c4] 26)))))
  have ca0 : (w4.alloc (Obj.cells #[Value.bool g3, Value.slice a3 n c3, Value.bool g4, Value.slice a4 m c4] 26)).cell? ⟨w3.heap.size, 0, none⟩ = some (.bool g1) := by simp [go_sem, hcc, hd1, hd2, Nat.ne_of_lt hd1, Nat.ne_of_lt hd2]
  have ca1 : (w4.alloc (Obj.cells #[Value.bool g3, Value.slice a3 n c3, Value.bool g4, Value.slice a4 m c4] 26)).cell? ⟨w3.heap.size, 1, none⟩ = some (.slice a1 k c1) := by simp [go_sem, hcc, hd1, hd2, Nat.ne_of_lt hd1, Nat.ne_of_lt hd2]
  have cb0 : (w4.alloc (Obj.cells #[Value.bool g3, Value.slice a3 n c3, Value.bool g4, Value.slice a4 m c4] 26)).cell? ⟨w3.heap.size + 1, 0, none⟩ = some (.bool g2) := by simp [go_sem, hcc, hd1, hd2, Nat.ne_of_lt hd1, Nat.ne_of_lt hd2]
  have cb1 : (w4.alloc (Obj.cells #[Value.bool g3, Value.slice a3 n c3, Value.bool g4, Value.slice a4 m c4] 26)).cell? ⟨w3.heap.size + 1, 1, none⟩ = some (.slice a2 j c2) := by simp [go_sem, hcc, hd1, hd2, Nat.ne_of_lt hd1, Nat.ne_of_lt hd2]
  have cd0 : (w4.alloc (Obj.cells #[Value.bool g3, Value.slice a3 n c3, Value.bool g4, Value.slice a4 m c4] 26)).cell? ⟨w4.heap.size, 0, none⟩ = some (.bool g3) := by simp [go_sem, hcc, hd1, hd2, Nat.ne_of_lt hd1, Nat.ne_of_lt hd2]
  have cd1 : (w4.alloc (Obj.cells #[Value.bool g3, Value.slice a3 n c3, Value.bool g4, Value.slice a4 m c4] 26)).cell? ⟨w4.heap.size, 1, none⟩ = some (.slice a3 n c3) := by simp [go_sem, hcc, hd1, hd2, Nat.ne_of_lt hd1, Nat.ne_of_lt hd2]
  have cd2 : (w4.alloc (Obj.cells #[Value.bool g3, Value.slice a3 n c3, Value.bool g4, Value.slice a4 m c4] 26)).cell? ⟨w4.heap.size, 2, none⟩ = some (.bool g4) := by simp [go_sem, hcc, hd1, hd2, Nat.ne_of_lt hd1, Nat.ne_of_lt hd2]
  have cd3 : (w4.alloc (Obj.cells #[Value.bool g3, Value.slice a3 n c3, Value.bool g4, Value.slice a4 m c4] 26)).cell? ⟨w4.heap.size, 3, none⟩ = some (.slice a4 m c4) := by simp [go_sem, hcc, hd1, hd2, Nat.ne_of_lt hd1, Nat.ne_of_lt hd2]
  have x0 : w3.heap.size < (w4.alloc (Obj.cells #[Value.bool g3, Value.slice a3 n c3, Value.bool g4, Value.slice a4 m c4] 26)).heap.size := by simp; omega
  have x1 : w3.heap.size + 1 < (w4.alloc (Obj.cells #[Value.bool g3, Value.slice a3 n c3, Value.bool g4, Value.slice a4 m c4] 26)).heap.size := by simp; omega
  have x2 : w4.heap.size < (w4.alloc (Obj.cells #[Value.bool g3, Value.slice a3 n c3, Value.bool g4, Value.slice a4 m c4] 26)).heap.size := by simp
  clear hcc hff
  go_wp2_with fail
  generalize (w4.alloc (Obj.cells #[Value.bool g3, Value.slice a3 n c3, Value.bool g4, Value.slice a4 m c4] 26)) = W at *
  have HTW := Lib.hid (HT.out.up BW.out)
  have D0 := Lib.hid (Below.drew (Below.refl W.heap.size W))
  have H1 := Lib.hid (QW.out.below D0.out)
  have A1 := Lib.hid (fun V (h : AI V (.agg #[.bool g1, .slice a1 k c1]) k (-4)) => Text_neg (.agg #[.bool g1, .slice a1 k c1]) k (-4) 4 52 V h (by omega) rfl (by omega) txt4)
  have A2 := Lib.hid (fun V (h : AI V (.agg #[.bool g2, .slice a2 j c2]) j (-1)) => Text_neg (.agg #[.bool g2, .slice a2 j c2]) j (-1) 1 49 V h (by omega) rfl (by omega) txt1)
  have A3 := Lib.hid (fun V (hT : Tab V) (h : AR V (.agg #[.bool g3, .slice a3 n c3, .bool g4, .slice a4 m c4]) n m (-3) 2) => low_shows (.agg #[.bool g3, .slice a3 n c3, .bool g4, .slice a4 m c4]) n m V hT h hn hm)
  go_region_with (first
    | (go_at_call 12; ((with_reducible refine (A1.out _ H1.out).mono ?_); rintro e v1 ⟨rfl, hB⟩; have T1 := Lib.hid (Below.up D0.out hB); obtain ⟨y1, y2⟩ := bcell T1.out; have e1b0 := (y1 _ _ x1).trans cb0; have e1b1 := (y1 _ _ x1).trans cb1; have e1d0 := (y1 _ _ x2).trans cd0; have e1d1 := (y1 _ _ x2).trans cd1; have e1d2 := (y1 _ _ x2).trans cd2; have e1d3 := (y1 _ _ x2).trans cd3; have H2 := Lib.hid (RW.out.below T1.out); clear y1 y2 hB))
    | (go_at_call 12; ((with_reducible refine (A2.out _ H2.out).mono ?_); rintro e v2 ⟨rfl, hB⟩; have T2 := Lib.hid (Below.up T1.out hB); obtain ⟨y1, y2⟩ := bcell T2.out; have e2d0 := (y1 _ _ x2).trans cd0; have e2d1 := (y1 _ _ x2).trans cd1; have e2d2 := (y1 _ _ x2).trans cd2; have e2d3 := (y1 _ _ x2).trans cd3; have H3 := Lib.hid (LW.out.below T2.out); have K3 := Lib.hid (HTW.out.up T2.out); clear y1 y2 hB))
    | (go_at_call 32; ((with_reducible refine (A3.out _ K3.out H3.out).mono ?_); rintro e v3 ⟨rfl, hB⟩; have T3 := Lib.hid (Below.up T2.out hB); obtain ⟨y1, y2⟩ := bcell T3.out; have e3d0 := (y1 _ _ x2).trans cd0; have e3d1 := (y1 _ _ x2).trans cd1; have e3d2 := (y1 _ _ x2).trans cd2; have e3d3 := (y1 _ _ x2).trans cd3; have K4 := Lib.hid (HTW.out.up T3.out); clear y1 y2 hB))
    | (go_at_call 31; ((with_reducible refine (half_over _ K4.out).mono ?_); rintro e v4 ⟨r5, n5, m5, rfl, hR5, hn5, hm5, hB⟩; have T4 := Lib.hid (Below.up T3.out hB); obtain ⟨y1, y2⟩ := bcell T4.out; have e4d0 := (y1 _ _ x2).trans cd0; have e4d1 := (y1 _ _ x2).trans cd1; have e4d2 := (y1 _ _ x2).trans cd2; have e4d3 := (y1 _ _ x2).trans cd3; obtain ⟨g5, a5, c5, g6, a6, c6, rfl⟩ := hR5.form; have H5 := Lib.hid hR5.ar; have L5 := Lib.hid (LW.out.below T4.out); have K5 := Lib.hid (HTW.out.up T4.out); clear hR5; clear y1 y2 hB))
    | (go_at_call 22; ((with_reducible refine (low_half _ _ n m n5 m5 _ K5.out L5.out H5.out hn hm hn5 hm5).mono ?_); rintro e v5 ⟨r6, n6, m6, rfl, hR6, hn6, hm6, hB⟩; have T5 := Lib.hid (Below.up T4.out hB); obtain ⟨y1, y2⟩ := bcell T5.out;  obtain ⟨g7, a7, c7, g8, a8, c8, rfl⟩ := hR6.form; have H6 := Lib.hid hR6.ar; have K6 := Lib.hid (HTW.out.up T5.out); clear hR6; clear y1 y2 hB))
    | (go_at_call 32; ((with_reducible refine (one_shows _ n6 m6 _ K6.out H6.out hn6 hm6).mono ?_); rintro e v6 ⟨rfl, hB⟩; have T6 := Lib.hid (Below.up T5.out hB); obtain ⟨y1, y2⟩ := bcell T6.out;   clear y1 y2 hB)))
  all_goals
    go_wp2_with fail
    go_ret
    exact ⟨rfl, Below.up BW.out T6.out⟩
end Go.Proofs.YtpkjpepnjlcgoaaDoor
