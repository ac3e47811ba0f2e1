/- Layer 3: contracts: Local. -/
import Derived.Test.YteoahbpfhfjfmaaGreatDoorDaD
set_option linter.unusedVariables false
set_option linter.unusedSimpArgs false
namespace Go.Proofs.YteoahbpfhfjfmaaGreatDoor
open Go.RowKit

def loca (f : Int) (a b c : Int) : Value :=
  if f = 0 then arV a b c else if f = 1 then arV b (-a) c else if f = 2 then arV (-a) (-b) c else if f = 3 then arV (-b) a c else if f = 4 then arV c a b else arV (-c) b a

set_option maxRecDepth 20000 in
theorem Local_bad (f a b c : Int) (w : World) (h : placeE f a b c ≠ 0) :
    Calls Tryz.prog 14 #[.int .i64 f, .agg #[.int .i64 a, .int .i64 b, .int .i64 c]] w fun e w' => e = .returned (.tuple #[.agg #[.int .i64 0, .int .i64 0, .int .i64 0], .int .i64 (placeE f a b c)]) ∧ Below w.heap.size w w' := by
  generalize hE : placeE f a b c = E at h
  have HE := Lib.hid hE
  have h0 : (E != 0) = true := by simpa using h
  clear hE h
  go_enter Tryz.func14, Tryz.ntmps14
  go_wp2_with (first | (go_at_call 49; refine (checkPlace_any _ _ _ _ _).mono ?_; rintro e w' ⟨rfl, rfl⟩; rw [HE.out]))
  exact bodyPost_ret (v := .tuple #[.agg #[.int .i64 0, .int .i64 0, .int .i64 0], .int .i64 E]) (by simp [results, Tryz.results14, go_sem]) rfl ⟨rfl, by repeat (first | exact Below.refl _ _ | exact Nat.le_refl _ | (apply Below.alloc) | (apply Below.drew) | (refine Below.setCell ?_ (by first | exact Nat.le_refl _ | (simp <;> omega)) _) | (simp <;> omega))⟩

set_option maxRecDepth 20000 in
theorem Local_0 (a b c : Int) (w : World) (hT : FT w) (h : placeE 0 a b c = 0) :
    Calls Tryz.prog 14 #[.int .i64 0, .agg #[.int .i64 a, .int .i64 b, .int .i64 c]] w fun e w' => e = .returned (.tuple #[arV a b c, .int .i64 0]) ∧ Below w.heap.size w w' := by
  have HE := Lib.hid h
  obtain ⟨a0, a1, b0, b1, d0, d1⟩ := place_ok h
  have c0 : w.cell? ⟨0, 0, none⟩ = some (.int .i64 0) := hT 0 0 (by decide) (by decide)
  have c1 : w.cell? ⟨0, 1, none⟩ = some (.int .i64 1) := hT 0 1 (by decide) (by decide)
  have c2 : w.cell? ⟨0, 2, none⟩ = some (.int .i64 2) := hT 0 2 (by decide) (by decide)
  have c3 : w.cell? ⟨0, 3, none⟩ = some (.int .i64 1) := hT 0 3 (by decide) (by decide)
  have c4 : w.cell? ⟨0, 4, none⟩ = some (.int .i64 1) := hT 0 4 (by decide) (by decide)
  have c5 : w.cell? ⟨0, 5, none⟩ = some (.int .i64 1) := hT 0 5 (by decide) (by decide)
  have i0 := ar0 0 1 2
  have i1 := ar1 0 1 2
  have i2 := ar2 0 1 2
  have hz : 0 < w.heap.size := cell_lt c0
  clear h hT
  go_enter Tryz.func14, Tryz.ntmps14
  go_wp2_with (first | (go_at_call 49; refine (checkPlace_any _ _ _ _ _).mono ?_; rintro e w' ⟨rfl, rfl⟩; rw [HE.out]))
  refine wp_loop_rounds 4 ?_
  rw [rounds_succ]
  go_wp2
  go_region
  go_wp2
  rw [rounds_succ]
  go_wp2
  go_region
  go_wp2
  rw [rounds_succ]
  go_wp2
  go_region
  go_wp2
  rw [rounds_succ]
  go_wp2
  exact bodyPost_ret (v := .tuple #[arV a b c, .int .i64 0]) (by simp [results, Tryz.results14, go_sem]) rfl ⟨rfl, by repeat (first | exact Below.refl _ _ | exact Nat.le_refl _ | (apply Below.alloc) | (apply Below.drew) | (refine Below.setCell ?_ (by first | exact Nat.le_refl _ | (simp <;> omega)) _) | (simp <;> omega))⟩

set_option maxRecDepth 20000 in
theorem Local_1 (a b c : Int) (w : World) (hT : FT w) (h : placeE 1 a b c = 0) :
    Calls Tryz.prog 14 #[.int .i64 1, .agg #[.int .i64 a, .int .i64 b, .int .i64 c]] w fun e w' => e = .returned (.tuple #[arV b (-a) c, .int .i64 0]) ∧ Below w.heap.size w w' := by
  have HE := Lib.hid h
  obtain ⟨a0, a1, b0, b1, d0, d1⟩ := place_ok h
  have c0 : w.cell? ⟨0, 6, none⟩ = some (.int .i64 1) := hT 1 0 (by decide) (by decide)
  have c1 : w.cell? ⟨0, 7, none⟩ = some (.int .i64 0) := hT 1 1 (by decide) (by decide)
  have c2 : w.cell? ⟨0, 8, none⟩ = some (.int .i64 2) := hT 1 2 (by decide) (by decide)
  have c3 : w.cell? ⟨0, 9, none⟩ = some (.int .i64 1) := hT 1 3 (by decide) (by decide)
  have c4 : w.cell? ⟨0, 10, none⟩ = some (.int .i64 (-1)) := hT 1 4 (by decide) (by decide)
  have c5 : w.cell? ⟨0, 11, none⟩ = some (.int .i64 1) := hT 1 5 (by decide) (by decide)
  have i0 := ar0 1 0 2
  have i1 := ar1 1 0 2
  have i2 := ar2 1 0 2
  have hz : 0 < w.heap.size := cell_lt c0
  clear h hT
  go_enter Tryz.func14, Tryz.ntmps14
  go_wp2_with (first | (go_at_call 49; refine (checkPlace_any _ _ _ _ _).mono ?_; rintro e w' ⟨rfl, rfl⟩; rw [HE.out]))
  refine wp_loop_rounds 4 ?_
  rw [rounds_succ]
  go_wp2
  go_region
  go_wp2
  rw [rounds_succ]
  go_wp2
  go_region
  go_wp2
  rw [rounds_succ]
  go_wp2
  go_region
  go_wp2
  rw [rounds_succ]
  go_wp2
  exact bodyPost_ret (v := .tuple #[arV b (-a) c, .int .i64 0]) (by simp [results, Tryz.results14, go_sem]) rfl ⟨rfl, by repeat (first | exact Below.refl _ _ | exact Nat.le_refl _ | (apply Below.alloc) | (apply Below.drew) | (refine Below.setCell ?_ (by first | exact Nat.le_refl _ | (simp <;> omega)) _) | (simp <;> omega))⟩

set_option maxRecDepth 20000 in
theorem Local_2 (a b c : Int) (w : World) (hT : FT w) (h : placeE 2 a b c = 0) :
    Calls Tryz.prog 14 #[.int .i64 2, .agg #[.int .i64 a, .int .i64 b, .int .i64 c]] w fun e w' => e = .returned (.tuple #[arV (-a) (-b) c, .int .i64 0]) ∧ Below w.heap.size w w' := by
  have HE := Lib.hid h
  obtain ⟨a0, a1, b0, b1, d0, d1⟩ := place_ok h
  have c0 : w.cell? ⟨0, 12, none⟩ = some (.int .i64 0) := hT 2 0 (by decide) (by decide)
  have c1 : w.cell? ⟨0, 13, none⟩ = some (.int .i64 1) := hT 2 1 (by decide) (by decide)
  have c2 : w.cell? ⟨0, 14, none⟩ = some (.int .i64 2) := hT 2 2 (by decide) (by decide)
  have c3 : w.cell? ⟨0, 15, none⟩ = some (.int .i64 (-1)) := hT 2 3 (by decide) (by decide)
  have c4 : w.cell? ⟨0, 16, none⟩ = some (.int .i64 (-1)) := hT 2 4 (by decide) (by decide)
  have c5 : w.cell? ⟨0, 17, none⟩ = some (.int .i64 1) := hT 2 5 (by decide) (by decide)
  have i0 := ar0 0 1 2
  have i1 := ar1 0 1 2
  have i2 := ar2 0 1 2
  have hz : 0 < w.heap.size := cell_lt c0
  clear h hT
  go_enter Tryz.func14, Tryz.ntmps14
  go_wp2_with (first | (go_at_call 49; refine (checkPlace_any _ _ _ _ _).mono ?_; rintro e w' ⟨rfl, rfl⟩; rw [HE.out]))
  refine wp_loop_rounds 4 ?_
  rw [rounds_succ]
  go_wp2
  go_region
  go_wp2
  rw [rounds_succ]
  go_wp2
  go_region
  go_wp2
  rw [rounds_succ]
  go_wp2
  go_region
  go_wp2
  rw [rounds_succ]
  go_wp2
  exact bodyPost_ret (v := .tuple #[arV (-a) (-b) c, .int .i64 0]) (by simp [results, Tryz.results14, go_sem]) rfl ⟨rfl, by repeat (first | exact Below.refl _ _ | exact Nat.le_refl _ | (apply Below.alloc) | (apply Below.drew) | (refine Below.setCell ?_ (by first | exact Nat.le_refl _ | (simp <;> omega)) _) | (simp <;> omega))⟩

set_option maxRecDepth 20000 in
theorem Local_3 (a b c : Int) (w : World) (hT : FT w) (h : placeE 3 a b c = 0) :
    Calls Tryz.prog 14 #[.int .i64 3, .agg #[.int .i64 a, .int .i64 b, .int .i64 c]] w fun e w' => e = .returned (.tuple #[arV (-b) a c, .int .i64 0]) ∧ Below w.heap.size w w' := by
  have HE := Lib.hid h
  obtain ⟨a0, a1, b0, b1, d0, d1⟩ := place_ok h
  have c0 : w.cell? ⟨0, 18, none⟩ = some (.int .i64 1) := hT 3 0 (by decide) (by decide)
  have c1 : w.cell? ⟨0, 19, none⟩ = some (.int .i64 0) := hT 3 1 (by decide) (by decide)
  have c2 : w.cell? ⟨0, 20, none⟩ = some (.int .i64 2) := hT 3 2 (by decide) (by decide)
  have c3 : w.cell? ⟨0, 21, none⟩ = some (.int .i64 (-1)) := hT 3 3 (by decide) (by decide)
  have c4 : w.cell? ⟨0, 22, none⟩ = some (.int .i64 1) := hT 3 4 (by decide) (by decide)
  have c5 : w.cell? ⟨0, 23, none⟩ = some (.int .i64 1) := hT 3 5 (by decide) (by decide)
  have i0 := ar0 1 0 2
  have i1 := ar1 1 0 2
  have i2 := ar2 1 0 2
  have hz : 0 < w.heap.size := cell_lt c0
  clear h hT
  go_enter Tryz.func14, Tryz.ntmps14
  go_wp2_with (first | (go_at_call 49; refine (checkPlace_any _ _ _ _ _).mono ?_; rintro e w' ⟨rfl, rfl⟩; rw [HE.out]))
  refine wp_loop_rounds 4 ?_
  rw [rounds_succ]
  go_wp2
  go_region
  go_wp2
  rw [rounds_succ]
  go_wp2
  go_region
  go_wp2
  rw [rounds_succ]
  go_wp2
  go_region
  go_wp2
  rw [rounds_succ]
  go_wp2
  exact bodyPost_ret (v := .tuple #[arV (-b) a c, .int .i64 0]) (by simp [results, Tryz.results14, go_sem]) rfl ⟨rfl, by repeat (first | exact Below.refl _ _ | exact Nat.le_refl _ | (apply Below.alloc) | (apply Below.drew) | (refine Below.setCell ?_ (by first | exact Nat.le_refl _ | (simp <;> omega)) _) | (simp <;> omega))⟩

set_option maxRecDepth 20000 in
theorem Local_4 (a b c : Int) (w : World) (hT : FT w) (h : placeE 4 a b c = 0) :
    Calls Tryz.prog 14 #[.int .i64 4, .agg #[.int .i64 a, .int .i64 b, .int .i64 c]] w fun e w' => e = .returned (.tuple #[arV c a b, .int .i64 0]) ∧ Below w.heap.size w w' := by
  have HE := Lib.hid h
  obtain ⟨a0, a1, b0, b1, d0, d1⟩ := place_ok h
  have c0 : w.cell? ⟨0, 24, none⟩ = some (.int .i64 2) := hT 4 0 (by decide) (by decide)
  have c1 : w.cell? ⟨0, 25, none⟩ = some (.int .i64 0) := hT 4 1 (by decide) (by decide)
  have c2 : w.cell? ⟨0, 26, none⟩ = some (.int .i64 1) := hT 4 2 (by decide) (by decide)
  have c3 : w.cell? ⟨0, 27, none⟩ = some (.int .i64 1) := hT 4 3 (by decide) (by decide)
  have c4 : w.cell? ⟨0, 28, none⟩ = some (.int .i64 1) := hT 4 4 (by decide) (by decide)
  have c5 : w.cell? ⟨0, 29, none⟩ = some (.int .i64 1) := hT 4 5 (by decide) (by decide)
  have i0 := ar0 2 0 1
  have i1 := ar1 2 0 1
  have i2 := ar2 2 0 1
  have hz : 0 < w.heap.size := cell_lt c0
  clear h hT
  go_enter Tryz.func14, Tryz.ntmps14
  go_wp2_with (first | (go_at_call 49; refine (checkPlace_any _ _ _ _ _).mono ?_; rintro e w' ⟨rfl, rfl⟩; rw [HE.out]))
  refine wp_loop_rounds 4 ?_
  rw [rounds_succ]
  go_wp2
  go_region
  go_wp2
  rw [rounds_succ]
  go_wp2
  go_region
  go_wp2
  rw [rounds_succ]
  go_wp2
  go_region
  go_wp2
  rw [rounds_succ]
  go_wp2
  exact bodyPost_ret (v := .tuple #[arV c a b, .int .i64 0]) (by simp [results, Tryz.results14, go_sem]) rfl ⟨rfl, by repeat (first | exact Below.refl _ _ | exact Nat.le_refl _ | (apply Below.alloc) | (apply Below.drew) | (refine Below.setCell ?_ (by first | exact Nat.le_refl _ | (simp <;> omega)) _) | (simp <;> omega))⟩

set_option maxRecDepth 20000 in
theorem Local_5 (a b c : Int) (w : World) (hT : FT w) (h : placeE 5 a b c = 0) :
    Calls Tryz.prog 14 #[.int .i64 5, .agg #[.int .i64 a, .int .i64 b, .int .i64 c]] w fun e w' => e = .returned (.tuple #[arV (-c) b a, .int .i64 0]) ∧ Below w.heap.size w w' := by
  have HE := Lib.hid h
  obtain ⟨a0, a1, b0, b1, d0, d1⟩ := place_ok h
  have c0 : w.cell? ⟨0, 30, none⟩ = some (.int .i64 2) := hT 5 0 (by decide) (by decide)
  have c1 : w.cell? ⟨0, 31, none⟩ = some (.int .i64 1) := hT 5 1 (by decide) (by decide)
  have c2 : w.cell? ⟨0, 32, none⟩ = some (.int .i64 0) := hT 5 2 (by decide) (by decide)
  have c3 : w.cell? ⟨0, 33, none⟩ = some (.int .i64 (-1)) := hT 5 3 (by decide) (by decide)
  have c4 : w.cell? ⟨0, 34, none⟩ = some (.int .i64 1) := hT 5 4 (by decide) (by decide)
  have c5 : w.cell? ⟨0, 35, none⟩ = some (.int .i64 1) := hT 5 5 (by decide) (by decide)
  have i0 := ar0 2 1 0
  have i1 := ar1 2 1 0
  have i2 := ar2 2 1 0
  have hz : 0 < w.heap.size := cell_lt c0
  clear h hT
  go_enter Tryz.func14, Tryz.ntmps14
  go_wp2_with (first | (go_at_call 49; refine (checkPlace_any _ _ _ _ _).mono ?_; rintro e w' ⟨rfl, rfl⟩; rw [HE.out]))
  refine wp_loop_rounds 4 ?_
  rw [rounds_succ]
  go_wp2
  go_region
  go_wp2
  rw [rounds_succ]
  go_wp2
  go_region
  go_wp2
  rw [rounds_succ]
  go_wp2
  go_region
  go_wp2
  rw [rounds_succ]
  go_wp2
  exact bodyPost_ret (v := .tuple #[arV (-c) b a, .int .i64 0]) (by simp [results, Tryz.results14, go_sem]) rfl ⟨rfl, by repeat (first | exact Below.refl _ _ | exact Nat.le_refl _ | (apply Below.alloc) | (apply Below.drew) | (refine Below.setCell ?_ (by first | exact Nat.le_refl _ | (simp <;> omega)) _) | (simp <;> omega))⟩

theorem Local_ok (f a b c : Int) (w : World) (hT : FT w) (h : placeE f a b c = 0) :
    Calls Tryz.prog 14 #[.int .i64 f, .agg #[.int .i64 a, .int .i64 b, .int .i64 c]] w fun e w' => e = .returned (.tuple #[loca f a b c, .int .i64 0]) ∧ Below w.heap.size w w' := by
  obtain ⟨f0, f1⟩ := place_face h
  have hf : f = 0 ∨ f = 1 ∨ f = 2 ∨ f = 3 ∨ f = 4 ∨ f = 5 := by omega
  rcases hf with rfl | rfl | rfl | rfl | rfl | rfl
  · exact Local_0 a b c w hT h
  · exact Local_1 a b c w hT h
  · exact Local_2 a b c w hT h
  · exact Local_3 a b c w hT h
  · exact Local_4 a b c w hT h
  · exact Local_5 a b c w hT h
end Go.Proofs.YteoahbpfhfjfmaaGreatDoor
