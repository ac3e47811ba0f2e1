/- Layer 3: the example's cables are right. -/
import Derived.RangeFuncFrom
import Derived.Test.YteoahbpfhfjfmaaGreatDoorDbI
import Derived.Test.YteoahbpfhfjfmaaGreatDoorDcA
set_option linter.unusedVariables false
set_option linter.unusedSimpArgs false
namespace Go.Proofs.YteoahbpfhfjfmaaGreatDoor
open Go.RowKit
attribute [local go_sem] Oper.semAt_some

theorem newChains_ex (w : World) : Calls Tryz.prog 80 #[.int .i64 512, .int .i64 1] w (NewCh w 512 1) := newChains_any 512 1 w (by omega) (by omega)
theorem newChains_ex1 (w : World) : Calls Tryz.prog 80 #[.int .i64 1, .int .i64 1] w (NewCh w 1 1) := newChains_any 1 1 w (by omega) (by omega)

set_option maxRecDepth 100000 in
set_option maxHeartbeats 1600000 in
theorem checkCables_ex (b1 b2 b3 : Nat) (w : World) (h : Ex w b1 b2 b3) : Calls Tryz.prog 42 #[.slice (some ⟨b3, 0, none⟩) 1 1, .slice (some ⟨b1, 0, none⟩) 1 1] w fun e w' => e = .returned (.tuple #[.int .i64 0, .int .i64 0]) ∧ Below w.heap.size w w' := by
  refine (callsIn_wide (n := 9)).1 ?_
  refine callsIn_of_wp_marks Tryz.func42 rfl trivial ?_ rfl
  simp only [Tryz.ntmps42, List.size_toArray, List.length_cons, List.length_nil, Nat.reduceAdd, Nat.reduceSub, Array.replicate_succ, Array.replicate_zero, List.push_toArray, List.append_toArray, List.nil_append, List.cons_append]
  have HE := Lib.hid h
  clear h
  gi_wp2_with fail
  refine ⟨trivial, callsIn_wide.2 ((newChains_ex _).mono ?_)⟩
  rintro e w1 ⟨x1, y1, rfl, hx1, hy1, hxy1, ox1, oy1, hB⟩
  simp only [World.size_alloc] at hx1 hy1
  obtain ⟨hc, hf⟩ := bcell hB
  simp only [World.size_alloc] at hc hf
  have hz := hB.size
  simp only [World.size_alloc] at hz
  have e2 : w1.cell? ⟨w.heap.size, 0, none⟩ = some (.slice (some ⟨b3, 0, none⟩) 1 1) := by rw [hc _ _ (by omega)]; simp [go_sem]
  have e4 : w1.cell? ⟨w.heap.size + 1, 0, none⟩ = some (.int .i64 0) := by rw [hc _ _ (by omega)]; simp [go_sem]
  have e5 : w1.cell? ⟨w.heap.size + 1 + 1, 0, none⟩ = some (.int .i64 0) := by rw [hc _ _ (by omega)]; simp [go_sem]
  have f4 : w1.frozen? ⟨w.heap.size + 1, 0, none⟩ = false := by rw [hf _ _ (by omega)]; simp [go_sem]
  have f5 : w1.frozen? ⟨w.heap.size + 1 + 1, 0, none⟩ = false := by rw [hf _ _ (by omega)]; simp [go_sem]
  have h0 : w.heap.size < w1.heap.size := by omega
  have h1 : w.heap.size + 1 < w1.heap.size := by omega
  have h2 : w.heap.size + 1 + 1 < w1.heap.size := by omega
  have B1 := Lib.hid (Below.up (u := w) (by repeat (first | exact Below.refl _ _ | exact Nat.le_refl _ | (apply Below.alloc) | (simp <;> omega))) hB)
  have OX1 := Lib.hid ox1
  have OY1 := Lib.hid oy1
  have LX1 := ox1.lt
  have LY1 := oy1.lt
  clear hB ox1 oy1 hc hf
  gi_wp2_with fail
  refine ⟨trivial, callsIn_wide.2 ((newChains_ex1 _).mono ?_)⟩
  rintro e w2 ⟨x2, y2, rfl, hx2, hy2, hxy2, ox2, oy2, hB⟩
  simp only [World.size_alloc] at hx2 hy2
  obtain ⟨hc, hf⟩ := bcell hB
  simp only [World.size_alloc] at hc hf
  have hz := hB.size
  simp only [World.size_alloc] at hz
  have g2 : w2.cell? ⟨w.heap.size, 0, none⟩ = some (.slice (some ⟨b3, 0, none⟩) 1 1) := by rw [hc _ _ (by omega)]; simp [go_sem, e2, h0]
  have g4 : w2.cell? ⟨w.heap.size + 1, 0, none⟩ = some (.int .i64 0) := by rw [hc _ _ (by omega)]; simp [go_sem, e4, h1]
  have g5 : w2.cell? ⟨w.heap.size + 1 + 1, 0, none⟩ = some (.int .i64 0) := by rw [hc _ _ (by omega)]; simp [go_sem, e5, h2]
  have k4 : w2.frozen? ⟨w.heap.size + 1, 0, none⟩ = false := by rw [hf _ _ (by omega)]; simp [go_sem, f4, h1]
  have k5 : w2.frozen? ⟨w.heap.size + 1 + 1, 0, none⟩ = false := by rw [hf _ _ (by omega)]; simp [go_sem, f5, h2]
  have g6 : w2.cell? ⟨w1.heap.size, 0, none⟩ = some (.slice (some ⟨x1, 0, none⟩) 512 512) := by rw [hc _ _ (by omega)]; simp [go_sem]
  have g7 : w2.cell? ⟨w1.heap.size, 1, none⟩ = some (.slice (some ⟨y1, 0, none⟩) 1 1) := by rw [hc _ _ (by omega)]; simp [go_sem]
  have h3 : w.heap.size < w2.heap.size := by omega
  have h4 : w.heap.size + 1 < w2.heap.size := by omega
  have h5 : w.heap.size + 1 + 1 < w2.heap.size := by omega
  have h6 : w1.heap.size < w2.heap.size := by omega
  have B2 := Lib.hid (Below.up B1.out (Below.up (u := w1) (by repeat (first | exact Below.refl _ _ | exact Nat.le_refl _ | (apply Below.alloc) | (simp <;> omega))) hB))
  have OX2 := Lib.hid ox2
  have OY2 := Lib.hid oy2
  have OX1' := Lib.hid ((OX1.out.alloc (.cells #[.slice (some ⟨x1, 0, none⟩) 512 512, .slice (some ⟨y1, 0, none⟩) 1 1] 127)).below hB (by simp; omega))
  have OY1' := Lib.hid ((OY1.out.alloc (.cells #[.slice (some ⟨x1, 0, none⟩) 512 512, .slice (some ⟨y1, 0, none⟩) 1 1] 127)).below hB (by simp; omega))
  have LX2 := ox2.lt
  have LY2 := oy2.lt
  have E2 := Lib.hid (HE.out.below B2.out)
  have C0 : w2.cell? ⟨b3, 0, none⟩ = some (.int .i64 2) := E2.out.2.2.2.2.2.2.2.2.2.2.2.1
  clear hB ox2 oy2 hc hf e2 e4 e5 f4 f5 OX1 OY1 HE B1
  gi_wp2_with fail
  obtain ⟨_, _, _, _, _, _, _, _, _, _, _, d0, d1, d2, d3, d4, d5, d6, d7, d8⟩ := E2.out
  clear C0
  have hb3 := cell_lt d0
  refine wpIn_loop_rounds 2 ?_
  rw [roundsIn_succ]
  gi_wp2_with fail
  refine ⟨trivial, callsIn_wide.2 ((checkCable_ex b1 b2 b3 _ (E2.out.below (by repeat (first | exact Below.refl _ _ | exact Nat.le_refl _ | (apply Below.alloc) | (simp <;> omega))))).mono ?_)⟩
  clear d0 d1 d2 d3 d4 d5 d6 d7 d8
  rintro e w3 ⟨rfl, hB⟩
  have i8 := bc hB (b := w2.heap.size + 1) (o := 0) (v := .int .i64 0) (by simp [go_sem])
  have i90 := bc hB (b := w2.heap.size + 1 + 1) (o := 0) (v := .int .i64 2) (by simp [go_sem])
  have i91 := bc hB (b := w2.heap.size + 1 + 1) (o := 1) (v := .int .i64 5) (by simp [go_sem])
  have i92 := bc hB (b := w2.heap.size + 1 + 1) (o := 2) (v := .int .i64 0) (by simp [go_sem])
  have i70 := bc hB (b := w2.heap.size) (o := 0) (v := .slice (some ⟨x2, 0, none⟩) 1 1) (by simp [go_sem])
  have i71 := bc hB (b := w2.heap.size) (o := 1) (v := .slice (some ⟨y2, 0, none⟩) 1 1) (by simp [go_sem])
  have W3 : Hid (Below w2.heap.size w2 w3) := Lib.hid (Below.up (u := w2) (by repeat (first | exact Below.refl _ _ | exact Nat.le_refl _ | (apply Below.alloc) | (simp <;> omega))) hB)
  have i60 := bc W3.out g6
  have i61 := bc W3.out g7
  have i4 := bc W3.out g4
  have i5 := bc W3.out g5
  have j4 := bf W3.out g4 k4
  have j5 := bf W3.out g5 k5
  have OX3 := Lib.hid (OX1'.out.below W3.out (by omega))
  have OY3 := Lib.hid (OY1'.out.below W3.out (by omega))
  have OZ3 := Lib.hid (OX2.out.below W3.out (by omega))
  have OV3 := Lib.hid (OY2.out.below W3.out (by omega))
  have hz := hB.size
  simp only [World.size_alloc] at hz
  have q0 : w2.heap.size < w3.heap.size := by omega
  have q1 : w2.heap.size + 1 < w3.heap.size := by omega
  have q2 : w2.heap.size + 1 + 1 < w3.heap.size := by omega
  have q3 : w1.heap.size < w3.heap.size := by omega
  have q4 : w.heap.size < w3.heap.size := by omega
  have q5 : w.heap.size + 1 < w3.heap.size := by omega
  have q6 : w.heap.size + 1 + 1 < w3.heap.size := by omega
  have B3 : Hid (Below w.heap.size w w3) := Lib.hid (Below.up B2.out W3.out)
  clear hB g2 g4 g5 k4 k5 g6 g7 OX1' OY1' OX2 OY2 B2
  gi_wp2_with fail
  refine ⟨trivial, callsIn_wide.2 ((of_any x1 512 y1 1 512 1 69 _).mono ?_)⟩
  rintro e w4 ⟨rfl, rfl⟩
  gi_wp2_with fail
  refine range_chain 7 (G := fun _ => False) [] rfl rfl (x := x1) (y := y1) (k := 512) (n := 1) (κ := 69) (bs := w3.heap.size) (bk := w3.heap.size + 1) (L := fun _ => 0) (B := fun _ => 0) (by simp [go_sem]) (by simp [go_sem]) (by simp [go_sem]) (by omega) (by omega) (by omega)
    ((OX3.out.alloc _).alloc _) ((OY3.out.alloc _).alloc _) rfl (fun _ => False) (fun _ => False) (fun _ _ _ _ hs _ _ => hs) (fun j => j.2.elim) (fun l j => j.2.elim) (fun l j => j.2.elim) ?_ (fun D j _ _ _ hj => hj.elim)
  rintro D1 w5 hD1 _ hB hK1
  have W5 : Hid (Below w3.heap.size w3 w5) := Lib.hid (Below.up (u := w3) (by repeat (first | exact Below.refl _ _ | exact Nat.le_refl _ | (apply Below.alloc) | (simp <;> omega))) hB)
  have a8 := bc W5.out i8
  have a90 := bc W5.out i90
  have a91 := bc W5.out i91
  have a92 := bc W5.out i92
  have a70 := bc W5.out i70
  have a71 := bc W5.out i71
  have a60 := bc W5.out i60
  have a61 := bc W5.out i61
  have a4 := bc W5.out i4
  have a5 := bc W5.out i5
  have m4 := bf W5.out i4 j4
  have m5 := bf W5.out i5 j5
  have OX5 := Lib.hid (OX3.out.below W5.out OX3.out.lt)
  have OY5 := Lib.hid (OY3.out.below W5.out OY3.out.lt)
  have OZ5 := Lib.hid (OZ3.out.below W5.out OZ3.out.lt)
  have OV5 := Lib.hid (OV3.out.below W5.out OV3.out.lt)
  have hz5 := hB.size
  simp only [World.size_alloc] at hz5 hD1
  have r0 : w2.heap.size < w5.heap.size := by omega
  have r1 : w2.heap.size + 1 < w5.heap.size := by omega
  have r2 : w2.heap.size + 1 + 1 < w5.heap.size := by omega
  have r3 : w1.heap.size < w5.heap.size := by omega
  have r4 : w.heap.size < w5.heap.size := by omega
  have r5 : w.heap.size + 1 < w5.heap.size := by omega
  have r6 : w.heap.size + 1 + 1 < w5.heap.size := by omega
  have B5 : Hid (Below w.heap.size w w5) := Lib.hid (Below.up B3.out W5.out)
  have K1 := Lib.hid hK1
  have hD1' : D1 < w5.heap.size := (Array.getElem?_eq_some_iff.1 hK1).1
  clear hB hK1 i8 i90 i91 i92 i70 i71 i60 i61 i4 i5 j4 j5 OX3 OY3 OZ3 OV3 B3
  gi_wp2_with fail
  refine ⟨trivial, callsIn_wide.2 ((of_any x2 1 y2 1 1 1 0 _).mono ?_)⟩
  rintro e w6 ⟨rfl, rfl⟩
  gi_wp2_with fail
  refine range_chain 7 (G := fun _ => False) [] rfl rfl (x := x2) (y := y2) (k := 1) (n := 1) (κ := 0) (bs := w5.heap.size) (bk := w5.heap.size + 1) (L := fun _ => 0) (B := fun _ => 0) (by simp [go_sem]) (by simp [go_sem]) (by simp [go_sem]) (by omega) (by omega) (by omega)
    ((OZ5.out.alloc _).alloc _) ((OV5.out.alloc _).alloc _) rfl (fun _ => False) (fun _ => False) (fun _ _ _ _ hs _ _ => hs) (fun j => j.2.elim) (fun l j => j.2.elim) (fun l j => j.2.elim) ?_ (fun D j _ _ _ hj => hj.elim)
  rintro D2 w7 hD2 _ hB hK2
  have W7 : Hid (Below w5.heap.size w5 w7) := Lib.hid (Below.up (u := w5) (by repeat (first | exact Below.refl _ _ | exact Nat.le_refl _ | (apply Below.alloc) | (simp <;> omega))) hB)
  have n8 := bc W7.out a8
  have n92 := bc W7.out a92
  have n70 := bc W7.out a70
  have n71 := bc W7.out a71
  have n60 := bc W7.out a60
  have n61 := bc W7.out a61
  have n4 := bc W7.out a4
  have n5 := bc W7.out a5
  have o4 := bf W7.out a4 m4
  have o5 := bf W7.out a5 m5
  have OX7 := Lib.hid (OX5.out.below W7.out OX5.out.lt)
  have OY7 := Lib.hid (OY5.out.below W7.out OY5.out.lt)
  have OZ7 := Lib.hid (OZ5.out.below W7.out OZ5.out.lt)
  have OV7 := Lib.hid (OV5.out.below W7.out OV5.out.lt)
  have hz7 := hB.size
  simp only [World.size_alloc] at hz7 hD2
  have s0 : w2.heap.size < w7.heap.size := by omega
  have s1 : w2.heap.size + 1 < w7.heap.size := by omega
  have s2 : w2.heap.size + 1 + 1 < w7.heap.size := by omega
  have s3 : w1.heap.size < w7.heap.size := by omega
  have s4 : w.heap.size < w7.heap.size := by omega
  have s5 : w.heap.size + 1 < w7.heap.size := by omega
  have s6 : w.heap.size + 1 + 1 < w7.heap.size := by omega
  have B7 : Hid (Below w.heap.size w w7) := Lib.hid (Below.up B5.out W7.out)
  have M7 : Hid (Marks w.heap.size [D2, D1] w7) := Lib.hid ((Marks.nil.cons (by omega) (K1.out) (by simp)).below W7.out |>.cons (by omega) hK2 (by simp; omega))
  clear hB hK2 K1 a8 a90 a91 a92 a70 a71 a60 a61 a4 a5 m4 m5 OX5 OY5 OZ5 OV5 B5
  gi_wp2_with fail
  refine ⟨trivial, callsIn_wide.2 ((add_any x1 512 y1 1 69 0 (fun _ => 0) (fun _ => 0) _ hxy1 OX7.out OY7.out (by omega) (by omega) (by omega) (by omega)).mono ?_)⟩
  rintro e w8 ⟨rfl, ox, oy, hsz, e1, e2, e3, hoth⟩
  have p8 := cell_heap (hoth _ s1 (by omega) (by omega)) n8
  have p92 := cell_heap (hoth _ s2 (by omega) (by omega)) n92
  have p70 := cell_heap (hoth _ s0 (by omega) (by omega)) n70
  have p71 := cell_heap (hoth _ s0 (by omega) (by omega)) n71
  have p4 := cell_heap (hoth _ s5 (by omega) (by omega)) n4
  have p5 := cell_heap (hoth _ s6 (by omega) (by omega)) n5
  have t4 := frozen_heap (hoth _ s5 (by omega) (by omega)) o4
  have t5 := frozen_heap (hoth _ s6 (by omega) (by omega)) o5
  have OZ8 := Lib.hid (OZ7.out.same (hoth _ OZ7.out.lt (by omega) (by omega)))
  have OV8 := Lib.hid (OV7.out.same (hoth _ OV7.out.lt (by omega) (by omega)))
  have M8 : Hid (Marks w.heap.size [D2, D1] w8) := Lib.hid (M7.out.same fun r hr => hoth r (Array.getElem?_eq_some_iff.1 (M7.out.2 r hr).2).1 (by simp at hr; omega) (by simp at hr; omega))
  have B8 : Hid (Below w.heap.size w w8) := Lib.hid (B7.out.trans ⟨e1, e2, e3, hsz, fun k hk => hoth k (by omega) (by omega) (by omega)⟩)
  have v0 : w2.heap.size < w8.heap.size := by omega
  have v1 : w2.heap.size + 1 < w8.heap.size := by omega
  have v2 : w2.heap.size + 1 + 1 < w8.heap.size := by omega
  have v5 : w.heap.size + 1 < w8.heap.size := by omega
  have v6 : w.heap.size + 1 + 1 < w8.heap.size := by omega
  clear n8 n92 n70 n71 n60 n61 n4 n5 o4 o5 OX7 OY7 OZ7 OV7 M7 B7 ox oy e1 e2 e3 hoth W3 W5 W7 E2
  gi_wp2_with fail
  refine ⟨trivial, callsIn_wide.2 ((add_any x2 1 y2 1 0 0 (fun _ => 0) (fun _ => 0) _ hxy2 OZ8.out OV8.out (by omega) (by omega) (by omega) (by omega)).mono ?_)⟩
  rintro e w9 ⟨rfl, ox, oy, hsz9, e1, e2, e3, hoth⟩
  have z4 := cell_heap (hoth _ v5 (by omega) (by omega)) p4
  have z5 := cell_heap (hoth _ v6 (by omega) (by omega)) p5
  have y4 := frozen_heap (hoth _ v5 (by omega) (by omega)) t4
  have y5 := frozen_heap (hoth _ v6 (by omega) (by omega)) t5
  have M9 : Hid (Marks w.heap.size [D2, D1] w9) := Lib.hid (M8.out.same fun r hr => hoth r (Array.getElem?_eq_some_iff.1 (M8.out.2 r hr).2).1 (by simp at hr; omega) (by simp at hr; omega))
  have B9 : Hid (Below w.heap.size w w9) := Lib.hid (B8.out.trans ⟨e1, e2, e3, hsz9, fun k hk => hoth k (by omega) (by omega) (by omega)⟩)
  clear p8 p92 p70 p71 p4 p5 t4 t5 OZ8 OV8 M8 B8 ox oy e1 e2 e3 hoth
  gi_wp2_with fail
  rw [roundsIn_succ]
  gi_wp2_with fail
  refine leaves_marks (B := w.heap.size) [D2, D1] _ (M9.out.same fun r hr => ?_) fun w' hL => ?_
  · have hr' := (M9.out.2 r hr).2
    have n1 : r ≠ w.heap.size + 1 := by rintro rfl; simp [World.cell?, hr'] at z4
    have n2 : r ≠ w.heap.size + 1 + 1 := by rintro rfl; simp [World.cell?, hr'] at z5
    exact (Below.heap_setCell _ _ _ _ n2).trans (Below.heap_setCell _ _ _ _ n1)
  · refine ⟨.tuple #[.int .i64 0, .int .i64 0], ?_, rfl, ?_⟩
    · simp [results, Tryz.results42, go_sem, hL.1, z4, z5, y4, y5]
    · exact ((B9.out.setCell (p := ⟨w.heap.size + 1, 0, none⟩) (by show w.heap.size ≤ w.heap.size + 1; omega) _).setCell (p := ⟨w.heap.size + 1 + 1, 0, none⟩) (by show w.heap.size ≤ w.heap.size + 1 + 1; omega) _).trans hL.2
end Go.Proofs.YteoahbpfhfjfmaaGreatDoor
