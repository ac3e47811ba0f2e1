/- Layer 4: what a book that no call made answers. -/
import Derived.Test.YtidpjgkjeocgaaaGreatDoorCbT
set_option linter.unusedVariables false
set_option linter.unusedSimpArgs false
namespace Go.Proofs.YtidpjgkjeocgaaaGreatDoor
open Go.RowKit Go.Shelf

/-- A book that no call made. -/
def Dead (W : World) (pv : Value) : Prop := pv = .pointer none ∨ ∃ bb, pv = .pointer (some ⟨bb, 0, none⟩) ∧ W.cell? ⟨bb, 0, none⟩ = some (.pointer none)
theorem Dead.below {W W' : World} {pv : Value} (h : Dead W pv) (k : Below W.heap.size W W') : Dead W' pv := by
  rcases h with h | ⟨bb, h, c⟩
  · exact .inl h
  · exact .inr ⟨bb, h, bc k c⟩
theorem isMade_dead (pv : Value) (w : World) (h : Dead w pv) : Calls Tryz.prog 29 #[pv] w fun e w' => e = .returned (.bool false) ∧ w = w' := by
  rcases h with rfl | ⟨bb, rfl, c⟩
  · exact isMade_nil w
  · exact isMade_no bb w c
theorem find_dead (pv : Value) (k n : Int) (w : World) (h : Dead w pv) : Calls Tryz.prog 26 #[pv, .int .i64 k, .int .i64 n] w fun e w' => e = .returned (.pointer none) ∧ w = w' := by
  rcases h with rfl | ⟨bb, rfl, c⟩
  · exact find_nil k n w
  · exact find_no bb k n w c
set_option maxRecDepth 100000 in
theorem Begin_dead (pv : Value) (k f : Int) (w : World) (h : Dead w pv) : Calls Tryz.prog 18 #[pv, .int .i64 k, .int .i64 f] w fun e w' => e = .returned (.tuple #[.int .i64 0, .int .i64 1]) ∧ Below w.heap.size w w' := by
  have H := Lib.hid h
  clear h
  go_enter Tryz.func18, Tryz.ntmps18
  go_wp2_with fail
  refine (isMade_dead pv _ H.out).mono ?_
  rintro e w' ⟨rfl, rfl⟩
  go_wp2_with fail
  go_ret2
  exact ⟨rfl, Below.refl _ _⟩
set_option maxRecDepth 100000 in
theorem Put_dead (pv : Value) (k n T : Int) (v : Value) (w : World) (h : Dead w pv) : Calls Tryz.prog 19 #[pv, .int .i64 k, .int .i64 n, .int .i64 T, v] w fun e w' => e = .returned (.int .i64 1) ∧ Below w.heap.size w w' := by
  have H := Lib.hid h
  clear h
  go_enter Tryz.func19, Tryz.ntmps19
  go_wp2_with fail
  refine (isMade_dead pv _ H.out).mono ?_
  rintro e w' ⟨rfl, rfl⟩
  go_wp2_with fail
  go_ret
  exact ⟨rfl, Below.refl _ _⟩
set_option maxRecDepth 100000 in
theorem Drop_dead (pv : Value) (k n T : Int) (w : World) (h : Dead w pv) : Calls Tryz.prog 25 #[pv, .int .i64 k, .int .i64 n, .int .i64 T] w fun e w' => e = .returned (.int .i64 1) ∧ Below w.heap.size w w' := by
  have H := Lib.hid h
  clear h
  go_enter Tryz.func25, Tryz.ntmps25
  go_wp2_with fail
  refine (isMade_dead pv _ H.out).mono ?_
  rintro e w' ⟨rfl, rfl⟩
  go_wp2_with fail
  go_ret
  exact ⟨rfl, Below.refl _ _⟩
set_option maxRecDepth 100000 in
theorem Close_dead (pv : Value) (k n : Int) (w : World) (h : Dead w pv) : Calls Tryz.prog 20 #[pv, .int .i64 k, .int .i64 n] w fun e w' => e = .returned (.int .i64 1) ∧ Below w.heap.size w w' := by
  have H := Lib.hid h
  clear h
  go_enter Tryz.func20, Tryz.ntmps20
  go_wp2_with fail
  refine (isMade_dead pv _ H.out).mono ?_
  rintro e w' ⟨rfl, rfl⟩
  go_wp2_with fail
  go_ret
  exact ⟨rfl, Below.refl _ _⟩
set_option maxRecDepth 100000 in
theorem Changes_dead (pv : Value) (s : ByteArray) (w : World) (h : Dead w pv) : Calls Tryz.prog 9 #[pv, .string s] w fun e w' => e = .returned (.tuple #[.slice none 0 0, .int .i64 1]) ∧ Below w.heap.size w w' := by
  have H := Lib.hid h
  clear h
  go_enter Tryz.func9, Tryz.ntmps9
  go_wp2_with fail
  refine (isMade_dead pv _ H.out).mono ?_
  rintro e w' ⟨rfl, rfl⟩
  go_wp2_with fail
  go_ret2
  exact ⟨rfl, Below.refl _ _⟩
set_option maxRecDepth 100000 in
theorem Versions_dead (pv : Value) (k : Int) (w : World) (h : Dead w pv) : Calls Tryz.prog 12 #[pv, .int .i64 k] w fun e w' => e = .returned (.int .i64 0) ∧ Below w.heap.size w w' := by
  have H := Lib.hid h
  clear h
  go_enter Tryz.func12, Tryz.ntmps12
  go_wp2_with fail
  refine (isMade_dead pv _ H.out).mono ?_
  rintro e w' ⟨rfl, rfl⟩
  go_wp2_with fail
  go_ret
  exact ⟨rfl, Below.refl _ _⟩
set_option maxRecDepth 100000 in
theorem Tags_dead (pv : Value)  (w : World) (h : Dead w pv) : Calls Tryz.prog 15 #[pv] w fun e w' => e = .returned (.slice none 0 0) ∧ Below w.heap.size w w' := by
  have H := Lib.hid h
  clear h
  go_enter Tryz.func15, Tryz.ntmps15
  go_wp2_with fail
  refine (isMade_dead pv _ H.out).mono ?_
  rintro e w' ⟨rfl, rfl⟩
  go_wp2_with fail
  go_ret
  exact ⟨rfl, Below.refl _ _⟩
set_option maxRecDepth 100000 in
theorem Log_dead (pv : Value)  (w : World) (h : Dead w pv) : Calls Tryz.prog 16 #[pv] w fun e w' => e = .returned (.string ⟨#[]⟩) ∧ Below w.heap.size w w' := by
  have H := Lib.hid h
  clear h
  go_enter Tryz.func16, Tryz.ntmps16
  go_wp2_with fail
  refine (isMade_dead pv _ H.out).mono ?_
  rintro e w' ⟨rfl, rfl⟩
  go_wp2_with fail
  go_ret
  exact ⟨rfl, Below.refl _ _⟩
set_option maxRecDepth 100000 in
theorem List_dead (pv : Value) (k n T : Int) (w : World) (h : Dead w pv) : Calls Tryz.prog 7 #[pv, .int .i64 k, .int .i64 n, .int .i64 T] w fun e w' => e = .returned (.tuple #[.slice none 0 0, .bool false]) ∧ Below w.heap.size w w' := by
  have H := Lib.hid h
  clear h
  go_enter Tryz.func7, Tryz.ntmps7
  go_wp2_with fail
  refine (find_dead pv _ _ _ H.out).mono ?_
  rintro e w' ⟨rfl, rfl⟩
  go_wp2_with fail
  go_ret2
  exact ⟨rfl, Below.refl _ _⟩
set_option maxRecDepth 100000 in
theorem Closed_dead (pv : Value) (k n : Int) (w : World) (h : Dead w pv) : Calls Tryz.prog 13 #[pv, .int .i64 k, .int .i64 n] w fun e w' => e = .returned (.bool false) ∧ Below w.heap.size w w' := by
  have H := Lib.hid h
  clear h
  go_enter Tryz.func13, Tryz.ntmps13
  go_wp2_with fail
  refine (find_dead pv _ _ _ H.out).mono ?_
  rintro e w' ⟨rfl, rfl⟩
  go_wp2_with fail
  go_ret
  exact ⟨rfl, Below.refl _ _⟩
set_option maxRecDepth 100000 in
theorem Spans_dead (pv : Value) (k n : Int) (w : World) (h : Dead w pv) : Calls Tryz.prog 14 #[pv, .int .i64 k, .int .i64 n] w fun e w' => e = .returned (.slice none 0 0) ∧ Below w.heap.size w w' := by
  have H := Lib.hid h
  clear h
  go_enter Tryz.func14, Tryz.ntmps14
  go_wp2_with fail
  refine (find_dead pv _ _ _ H.out).mono ?_
  rintro e w' ⟨rfl, rfl⟩
  go_wp2_with fail
  go_ret
  exact ⟨rfl, Below.refl _ _⟩
set_option maxRecDepth 100000 in
theorem findTag_dead (pv : Value) (s : ByteArray) (w : World) (h : Dead w pv) : Calls Tryz.prog 34 #[pv, .string s] w fun e w' => e = .returned (.int .i64 (-1)) ∧ Below w.heap.size w w' := by
  have b1 : Below w.heap.size w (w.alloc (.cells #[.string s] 9)) := (Below.refl _ _).alloc (Nat.le_refl _) _
  have H := Lib.hid (h.below b1)
  have B1 := Lib.hid b1
  clear b1
  clear h
  go_enter Tryz.func34, Tryz.ntmps34
  go_wp2_with fail
  refine (isMade_dead pv _ H.out).mono ?_
  rintro e w' ⟨rfl, rfl⟩
  go_wp2_with fail
  go_ret
  exact ⟨rfl, B1.out⟩
set_option maxRecDepth 100000 in
theorem Tag_dead (pv : Value) (s : ByteArray) (p0 p1 p2 p3 p4 p5 p6 : Int) (w : World) (h : Dead w pv) : Calls Tryz.prog 21 #[pv, .string s, .agg #[.int .i64 p0, .int .i64 p1, .int .i64 p2, .int .i64 p3, .int .i64 p4, .int .i64 p5, .int .i64 p6]] w fun e w' => e = .returned (.int .i64 1) ∧ Below w.heap.size w w' := by
  have b1 : Below w.heap.size w (w.alloc (.cells #[.int .i64 p0, .int .i64 p1, .int .i64 p2, .int .i64 p3, .int .i64 p4, .int .i64 p5, .int .i64 p6] 23)) := (Below.refl _ _).alloc (Nat.le_refl _) _
  have H := Lib.hid (h.below b1)
  have B1 := Lib.hid b1
  clear h b1
  go_enter Tryz.func21, Tryz.ntmps21
  go_wp2_with fail
  refine (isMade_dead pv _ H.out).mono ?_
  rintro e w' ⟨rfl, rfl⟩
  go_wp2_with fail
  go_ret
  exact ⟨rfl, B1.out⟩
set_option maxRecDepth 100000 in
set_option maxHeartbeats 1600000 in
theorem Tagged_dead (pv : Value) (s : ByteArray) (w : World) (h : Dead w pv) : Calls Tryz.prog 10 #[pv, .string s] w fun e w' => e = .returned (.tuple #[.agg #[.int .i64 0, .int .i64 0, .int .i64 0, .int .i64 0, .int .i64 0, .int .i64 0, .int .i64 0], .bool false]) ∧ Below w.heap.size w w' := by
  have b0 : Below w.heap.size w (w.alloc (.cells #[.int .i64 0, .int .i64 0, .int .i64 0, .int .i64 0, .int .i64 0, .int .i64 0, .int .i64 0] 23)) := (Below.refl _ _).alloc (Nat.le_refl _) _
  have X0 : Hid (RF (w.alloc (.cells #[.int .i64 0, .int .i64 0, .int .i64 0, .int .i64 0, .int .i64 0, .int .i64 0, .int .i64 0] 23)) w.heap.size 23 7 (fun i => ((#[.int .i64 0, .int .i64 0, .int .i64 0, .int .i64 0, .int .i64 0, .int .i64 0, .int .i64 0] : Array Value)[i]?).getD default)) := Lib.hid (RF_new w _ _ 7 _ rfl (fun i hi => by rw [Array.getElem?_eq_getElem hi]; rfl))
  have H := Lib.hid (h.below b0)
  have B0 := Lib.hid b0
  clear h b0
  go_enter Tryz.func10, Tryz.ntmps10
  go_wp2_with fail
  generalize (w.alloc (.cells #[.int .i64 0, .int .i64 0, .int .i64 0, .int .i64 0, .int .i64 0, .int .i64 0, .int .i64 0] 23)) = W0 at *
  refine (findTag_dead pv _ _ H.out).mono ?_
  rintro e w1 ⟨rfl, b1⟩
  have B1 := Lib.hid (Below.up B0.out b1)
  have X1 := Lib.hid (X0.out.below b1)
  clear b1 X0 B0
  have r0 : w1.cell? ⟨w.heap.size, 0, none⟩ = some (.int .i64 0) := X1.out.cell (i := 0) (by omega)
  have s0 := X1.out.frozen (i := 0) (by omega)
  have r1 : w1.cell? ⟨w.heap.size, 1, none⟩ = some (.int .i64 0) := X1.out.cell (i := 1) (by omega)
  have s1 := X1.out.frozen (i := 1) (by omega)
  have r2 : w1.cell? ⟨w.heap.size, 2, none⟩ = some (.int .i64 0) := X1.out.cell (i := 2) (by omega)
  have s2 := X1.out.frozen (i := 2) (by omega)
  have r3 : w1.cell? ⟨w.heap.size, 3, none⟩ = some (.int .i64 0) := X1.out.cell (i := 3) (by omega)
  have s3 := X1.out.frozen (i := 3) (by omega)
  have r4 : w1.cell? ⟨w.heap.size, 4, none⟩ = some (.int .i64 0) := X1.out.cell (i := 4) (by omega)
  have s4 := X1.out.frozen (i := 4) (by omega)
  have r5 : w1.cell? ⟨w.heap.size, 5, none⟩ = some (.int .i64 0) := X1.out.cell (i := 5) (by omega)
  have s5 := X1.out.frozen (i := 5) (by omega)
  have r6 : w1.cell? ⟨w.heap.size, 6, none⟩ = some (.int .i64 0) := X1.out.cell (i := 6) (by omega)
  have s6 := X1.out.frozen (i := 6) (by omega)
  go_wp2_with fail
  refine bodyPost_ret (v := .tuple #[.agg #[.int .i64 0, .int .i64 0, .int .i64 0, .int .i64 0, .int .i64 0, .int .i64 0, .int .i64 0], .bool false]) (by simp [results, Tryz.results10, go_sem, r0, r1, r2, r3, r4, r5, r6]) rfl ⟨rfl, ?_⟩
  exact (((((((B1.out.setCell (p := ⟨w.heap.size, 0, none⟩) (Nat.le_refl _) (.int .i64 0)).setCell (p := ⟨w.heap.size, 1, none⟩) (Nat.le_refl _) (.int .i64 0)).setCell (p := ⟨w.heap.size, 2, none⟩) (Nat.le_refl _) (.int .i64 0)).setCell (p := ⟨w.heap.size, 3, none⟩) (Nat.le_refl _) (.int .i64 0)).setCell (p := ⟨w.heap.size, 4, none⟩) (Nat.le_refl _) (.int .i64 0)).setCell (p := ⟨w.heap.size, 5, none⟩) (Nat.le_refl _) (.int .i64 0)).setCell (p := ⟨w.heap.size, 6, none⟩) (Nat.le_refl _) (.int .i64 0))
set_option maxRecDepth 100000 in
set_option maxHeartbeats 1600000 in
theorem Resolve_dead (pv : Value) (s : ByteArray) (T : Int) (w : World) (h : Dead w pv) : Calls Tryz.prog 8 #[pv, .string s, .int .i64 T] w fun e w' => e = .returned (.tuple #[.agg #[.string ⟨#[]⟩, .int .i64 0, .slice none 0 0, .slice none 0 0, .slice none 0 0, .slice none 0 0, .slice none 0 0, .slice none 0 0, .slice none 0 0], .int .i64 1]) ∧ Below w.heap.size w w' := by
  have b0 : Below w.heap.size w (w.alloc (.cells #[.string ⟨#[]⟩, .int .i64 0, .slice none 0 0, .slice none 0 0, .slice none 0 0, .slice none 0 0, .slice none 0 0, .slice none 0 0, .slice none 0 0] 44)) := (Below.refl _ _).alloc (Nat.le_refl _) _
  have X0 : Hid (RF (w.alloc (.cells #[.string ⟨#[]⟩, .int .i64 0, .slice none 0 0, .slice none 0 0, .slice none 0 0, .slice none 0 0, .slice none 0 0, .slice none 0 0, .slice none 0 0] 44)) w.heap.size 44 9 (fun i => ((#[.string ⟨#[]⟩, .int .i64 0, .slice none 0 0, .slice none 0 0, .slice none 0 0, .slice none 0 0, .slice none 0 0, .slice none 0 0, .slice none 0 0] : Array Value)[i]?).getD default)) := Lib.hid (RF_new w _ _ 9 _ rfl (fun i hi => by rw [Array.getElem?_eq_getElem hi]; rfl))
  have H := Lib.hid (h.below b0)
  have B0 := Lib.hid b0
  clear h b0
  go_enter Tryz.func8, Tryz.ntmps8
  go_wp2_with fail
  generalize (w.alloc (.cells #[.string ⟨#[]⟩, .int .i64 0, .slice none 0 0, .slice none 0 0, .slice none 0 0, .slice none 0 0, .slice none 0 0, .slice none 0 0, .slice none 0 0] 44)) = W0 at *
  refine (isMade_dead pv _ H.out).mono ?_
  rintro e w1 ⟨rfl, rfl⟩
  have B1 := B0
  have X1 := X0
  clear X0 B0
  have r0 : W0.cell? ⟨w.heap.size, 0, none⟩ = some (.string ⟨#[]⟩) := X1.out.cell (i := 0) (by omega)
  have s0 := X1.out.frozen (i := 0) (by omega)
  have r1 : W0.cell? ⟨w.heap.size, 1, none⟩ = some (.int .i64 0) := X1.out.cell (i := 1) (by omega)
  have s1 := X1.out.frozen (i := 1) (by omega)
  have r2 : W0.cell? ⟨w.heap.size, 2, none⟩ = some (.slice none 0 0) := X1.out.cell (i := 2) (by omega)
  have s2 := X1.out.frozen (i := 2) (by omega)
  have r3 : W0.cell? ⟨w.heap.size, 3, none⟩ = some (.slice none 0 0) := X1.out.cell (i := 3) (by omega)
  have s3 := X1.out.frozen (i := 3) (by omega)
  have r4 : W0.cell? ⟨w.heap.size, 4, none⟩ = some (.slice none 0 0) := X1.out.cell (i := 4) (by omega)
  have s4 := X1.out.frozen (i := 4) (by omega)
  have r5 : W0.cell? ⟨w.heap.size, 5, none⟩ = some (.slice none 0 0) := X1.out.cell (i := 5) (by omega)
  have s5 := X1.out.frozen (i := 5) (by omega)
  have r6 : W0.cell? ⟨w.heap.size, 6, none⟩ = some (.slice none 0 0) := X1.out.cell (i := 6) (by omega)
  have s6 := X1.out.frozen (i := 6) (by omega)
  have r7 : W0.cell? ⟨w.heap.size, 7, none⟩ = some (.slice none 0 0) := X1.out.cell (i := 7) (by omega)
  have s7 := X1.out.frozen (i := 7) (by omega)
  have r8 : W0.cell? ⟨w.heap.size, 8, none⟩ = some (.slice none 0 0) := X1.out.cell (i := 8) (by omega)
  have s8 := X1.out.frozen (i := 8) (by omega)
  go_wp2_with fail
  refine bodyPost_ret (v := .tuple #[.agg #[.string ⟨#[]⟩, .int .i64 0, .slice none 0 0, .slice none 0 0, .slice none 0 0, .slice none 0 0, .slice none 0 0, .slice none 0 0, .slice none 0 0], .int .i64 1]) (by simp [results, Tryz.results8, go_sem, r0, r1, r2, r3, r4, r5, r6, r7, r8]) rfl ⟨rfl, ?_⟩
  exact (((((((((B1.out.setCell (p := ⟨w.heap.size, 0, none⟩) (Nat.le_refl _) (.string ⟨#[]⟩)).setCell (p := ⟨w.heap.size, 1, none⟩) (Nat.le_refl _) (.int .i64 0)).setCell (p := ⟨w.heap.size, 2, none⟩) (Nat.le_refl _) (.slice none 0 0)).setCell (p := ⟨w.heap.size, 3, none⟩) (Nat.le_refl _) (.slice none 0 0)).setCell (p := ⟨w.heap.size, 4, none⟩) (Nat.le_refl _) (.slice none 0 0)).setCell (p := ⟨w.heap.size, 5, none⟩) (Nat.le_refl _) (.slice none 0 0)).setCell (p := ⟨w.heap.size, 6, none⟩) (Nat.le_refl _) (.slice none 0 0)).setCell (p := ⟨w.heap.size, 7, none⟩) (Nat.le_refl _) (.slice none 0 0)).setCell (p := ⟨w.heap.size, 8, none⟩) (Nat.le_refl _) (.slice none 0 0))
end Go.Proofs.YtidpjgkjeocgaaaGreatDoor
