/- Layer 4: Resolve. -/
import Derived.Test.YtlegacllbohbmaaDoorCbO
set_option linter.unusedVariables false
set_option linter.unusedSimpArgs false
namespace Go.Proofs.YtlegacllbohbmaaDoor
open Go.RowKit Go.Shelf
attribute [local go_sem ↓] Go.wp_at_zero Go.wp_at_succ


theorem EntS.but {W W' : World} {v : Value} {l : Ents} {rb n : Nat} {f : Nat → Value} (h : EntS W v l) (hr : RF W rb 43 n f) (k : ∀ j, j ≠ rb → W'.heap[j]? = W.heap[j]?) : EntS W' v l :=
  h.same fun b c fz hb => k b (by
    rintro rfl
    obtain ⟨c2, fz2, e2⟩ := hr.kind
    rw [hb] at e2
    cases e2)
theorem EntS.put {W : World} {v : Value} {l : Ents} {sb n : Nat} {f : Nat → Value} (h : EntS W v l) (hr : RF W sb 43 n f) (i : Nat) (x : Value) : EntS (W.setCell ⟨sb, i, none⟩ x) v l :=
  h.same fun b c fz hb => Below.heap_setCell _ _ _ _ (by
    rintro rfl
    obtain ⟨c2, fz2, e2⟩ := hr.kind
    rw [hb] at e2
    cases e2)
attribute [local go_sem] ix0 ix1 ix2 ix3 ix4 ix5 ix6
set_option maxRecDepth 100000 in
set_option maxHeartbeats 3200000 in
theorem Resolve_at (B bb i : Nat) (s : ByteArray) (V : Nat → Int) (T : Int) (ls : Nat → Ents) (S : Bk) (w : World) (h : BookAt B w bb S) (hi : tagI S.tg s = (i : Nat)) (hl : i < S.tg.length) (hv : (S.tg[i]).2 = V) (hT : inB T 0 1099511627776 = true) (hs : s.size ≤ 1000000)
    (hL : ∀ k, k < 7 → ∀ W, Below w.heap.size w W → Calls Tryd.prog 32 #[.pointer (some ⟨bb, 0, none⟩), .int .i64 (k : Nat), .int .i64 (V k), .int .i64 T] W fun e w' => ∃ v b, e = .returned (.tuple #[v, .bool b]) ∧ EntS w' v (ls k) ∧ Below W.heap.size W w') :
    Calls Tryd.prog 14 #[.pointer (some ⟨bb, 0, none⟩), .string s, .int .i64 T] w fun e w' => ∃ u0 u1 u2 u3 u4 u5 u6, e = .returned (.tuple #[.agg #[.string s, .int .i64 T, u0, u1, u2, u3, u4, u5, u6], .int .i64 0]) ∧
      (EntS w' u0 (ls 0) ∧ EntS w' u1 (ls 1) ∧ EntS w' u2 (ls 2) ∧ EntS w' u3 (ls 3) ∧ EntS w' u4 (ls 4) ∧ EntS w' u5 (ls 5) ∧ EntS w' u6 (ls 6)) ∧ Below w.heap.size w w' := by
  have b0 : Below w.heap.size w (w.alloc (.cells #[.string ⟨#[]⟩, .int .i64 0, .slice none 0 0, .slice none 0 0, .slice none 0 0, .slice none 0 0, .slice none 0 0, .slice none 0 0, .slice none 0 0] 43)) := (Below.refl _ _).alloc (Nat.le_refl _) _
  have X0 : Hid (RF (w.alloc (.cells #[.string ⟨#[]⟩, .int .i64 0, .slice none 0 0, .slice none 0 0, .slice none 0 0, .slice none 0 0, .slice none 0 0, .slice none 0 0, .slice none 0 0] 43)) w.heap.size 43 9 (fun i => ((#[.string ⟨#[]⟩, .int .i64 0, .slice none 0 0, .slice none 0 0, .slice none 0 0, .slice none 0 0, .slice none 0 0, .slice none 0 0, .slice none 0 0] : Array Value)[i]?).getD default)) := Lib.hid (RF_new w _ _ 9 _ rfl (fun i hi => by rw [Array.getElem?_eq_getElem hi]; rfl))
  have HB := Lib.hid (h.below b0)
  have B0 := Lib.hid b0
  have HL := Lib.hid hL
  have HTT := Lib.hid hT
  have HTG := Lib.hid (fun W (hW : BookAt B W bb S) => Tagged_at B bb i s V S W hW hi hl hv)
  have c0 : (w.alloc (.cells #[.string ⟨#[]⟩, .int .i64 0, .slice none 0 0, .slice none 0 0, .slice none 0 0, .slice none 0 0, .slice none 0 0, .slice none 0 0, .slice none 0 0] 43)).cell? ⟨bb, 0, none⟩ = some (.pointer (some ⟨bb, 0, none⟩)) := by
    obtain ⟨mb, clk, es, vbs, svs, tv, lv, f, hh⟩ := HB.out
    rw [hh.rf.cell (by omega), hh.f0]
  clear h b0 hL hT hi hl hv
  go_enter Tryd.func14, Tryd.ntmps14
  go_wp2_with fail
  have z0 : (w.alloc (.cells #[.string ⟨#[]⟩, .int .i64 0, .slice none 0 0, .slice none 0 0, .slice none 0 0, .slice none 0 0, .slice none 0 0, .slice none 0 0, .slice none 0 0] 43)).heap.size = w.heap.size + 1 := by simp
  generalize (w.alloc (.cells #[.string ⟨#[]⟩, .int .i64 0, .slice none 0 0, .slice none 0 0, .slice none 0 0, .slice none 0 0, .slice none 0 0, .slice none 0 0, .slice none 0 0] 43)) = W0 at *
  refine (isMade_yes bb _ c0).mono ?_
  rintro e w' ⟨rfl, rfl⟩
  go_wp2_with fail
  refine (HTG.out _ HB.out).mono ?_
  rintro e w1 ⟨rfl, b1⟩
  have B1 := Lib.hid (Below.up B0.out b1)
  have X1 := Lib.hid (X0.out.below b1)
  clear b1 X0 HTG HB c0
  generalize hV0 : V 0 = p0 at *
  generalize hV1 : V 1 = p1 at *
  generalize hV2 : V 2 = p2 at *
  generalize hV3 : V 3 = p3 at *
  generalize hV4 : V 4 = p4 at *
  generalize hV5 : V 5 = p5 at *
  generalize hV6 : V 6 = p6 at *
  have b2 : Below w1.heap.size w1 (w1.alloc (.cells #[.int .i64 p0, .int .i64 p1, .int .i64 p2, .int .i64 p3, .int .i64 p4, .int .i64 p5, .int .i64 p6] 40)) := (Below.refl _ _).alloc (Nat.le_refl _) _
  have V2 : Hid (RF (w1.alloc (.cells #[.int .i64 p0, .int .i64 p1, .int .i64 p2, .int .i64 p3, .int .i64 p4, .int .i64 p5, .int .i64 p6] 40)) w1.heap.size 40 7 (fun i => ((#[.int .i64 p0, .int .i64 p1, .int .i64 p2, .int .i64 p3, .int .i64 p4, .int .i64 p5, .int .i64 p6] : Array Value)[i]?).getD default)) := Lib.hid (RF_new w1 _ _ 7 _ rfl (fun i hi => by rw [Array.getElem?_eq_getElem hi]; rfl))
  have B2 := Lib.hid (Below.up B1.out b2)
  have X2 := Lib.hid (X1.out.below b2)
  have z1 := B1.out.size
  have z2 := b2.size
  clear b2 X1
  go_wp2_with fail
  generalize (w1.alloc (.cells #[.int .i64 p0, .int .i64 p1, .int .i64 p2, .int .i64 p3, .int .i64 p4, .int .i64 p5, .int .i64 p6] 40)) = W2 at *
  refine (isTime_any _ _).mono ?_
  rw [HTT.out]
  rintro e w' ⟨rfl, rfl⟩
  go_wp2_with fail
  refine (clone_any s _ hs).mono ?_
  rintro e w3 ⟨rfl, b3⟩
  have B3 := Lib.hid (Below.up B2.out b3)
  have X3 := Lib.hid (X2.out.below b3)
  have V3 := Lib.hid (V2.out.below b3)
  have z3 := b3.size
  clear b3 X2 V2
  have b4 : Below w3.heap.size w3 (w3.alloc (.cells #[.string s, .int .i64 T, .slice none 0 0, .slice none 0 0, .slice none 0 0, .slice none 0 0, .slice none 0 0, .slice none 0 0, .slice none 0 0] 43)) := (Below.refl _ _).alloc (Nat.le_refl _) _
  have S4 : Hid (RF (w3.alloc (.cells #[.string s, .int .i64 T, .slice none 0 0, .slice none 0 0, .slice none 0 0, .slice none 0 0, .slice none 0 0, .slice none 0 0, .slice none 0 0] 43)) w3.heap.size 43 9 (fun i => ((#[.string s, .int .i64 T, .slice none 0 0, .slice none 0 0, .slice none 0 0, .slice none 0 0, .slice none 0 0, .slice none 0 0, .slice none 0 0] : Array Value)[i]?).getD default)) := Lib.hid (RF_new w3 _ _ 9 _ rfl (fun i hi => by rw [Array.getElem?_eq_getElem hi]; rfl))
  have B4 := Lib.hid (Below.up B3.out b4)
  have X4 := Lib.hid (X3.out.below b4)
  have V4 := Lib.hid (V3.out.below b4)
  have z4 := b4.size
  have hlx := X3.out.lt
  clear b4 X3 V3
  have q0 : (w3.alloc (.cells #[.string s, .int .i64 T, .slice none 0 0, .slice none 0 0, .slice none 0 0, .slice none 0 0, .slice none 0 0, .slice none 0 0, .slice none 0 0] 43)).cell? ⟨w1.heap.size, 0, none⟩ = some (.int .i64 p0) := V4.out.cell (i := 0) (by omega)
  have q1 : (w3.alloc (.cells #[.string s, .int .i64 T, .slice none 0 0, .slice none 0 0, .slice none 0 0, .slice none 0 0, .slice none 0 0, .slice none 0 0, .slice none 0 0] 43)).cell? ⟨w1.heap.size, 1, none⟩ = some (.int .i64 p1) := V4.out.cell (i := 1) (by omega)
  have q2 : (w3.alloc (.cells #[.string s, .int .i64 T, .slice none 0 0, .slice none 0 0, .slice none 0 0, .slice none 0 0, .slice none 0 0, .slice none 0 0, .slice none 0 0] 43)).cell? ⟨w1.heap.size, 2, none⟩ = some (.int .i64 p2) := V4.out.cell (i := 2) (by omega)
  have q3 : (w3.alloc (.cells #[.string s, .int .i64 T, .slice none 0 0, .slice none 0 0, .slice none 0 0, .slice none 0 0, .slice none 0 0, .slice none 0 0, .slice none 0 0] 43)).cell? ⟨w1.heap.size, 3, none⟩ = some (.int .i64 p3) := V4.out.cell (i := 3) (by omega)
  have q4 : (w3.alloc (.cells #[.string s, .int .i64 T, .slice none 0 0, .slice none 0 0, .slice none 0 0, .slice none 0 0, .slice none 0 0, .slice none 0 0, .slice none 0 0] 43)).cell? ⟨w1.heap.size, 4, none⟩ = some (.int .i64 p4) := V4.out.cell (i := 4) (by omega)
  have q5 : (w3.alloc (.cells #[.string s, .int .i64 T, .slice none 0 0, .slice none 0 0, .slice none 0 0, .slice none 0 0, .slice none 0 0, .slice none 0 0, .slice none 0 0] 43)).cell? ⟨w1.heap.size, 5, none⟩ = some (.int .i64 p5) := V4.out.cell (i := 5) (by omega)
  have q6 : (w3.alloc (.cells #[.string s, .int .i64 T, .slice none 0 0, .slice none 0 0, .slice none 0 0, .slice none 0 0, .slice none 0 0, .slice none 0 0, .slice none 0 0] 43)).cell? ⟨w1.heap.size, 6, none⟩ = some (.int .i64 p6) := V4.out.cell (i := 6) (by omega)
  go_wp2_with fail
  generalize (w3.alloc (.cells #[.string s, .int .i64 T, .slice none 0 0, .slice none 0 0, .slice none 0 0, .slice none 0 0, .slice none 0 0, .slice none 0 0, .slice none 0 0] 43)) = W4 at *
  generalize w3.heap.size = sb at *
  have hsb : w.heap.size < sb := by omega
  clear q0 q1 q2 q3 q4 q5 q6
  refine wp_loop_rounds 8 ?_
  have hk := HL.out 0 (by omega) _ B4.out
  rw [hV0] at hk
  have K0 := Lib.hid hk
  clear hk
  rw [rounds_succ]
  go_wp2_with fail
  refine K0.out.mono ?_
  rintro e y0 ⟨u0, t0, rfl, he, b5⟩
  obtain ⟨ua0, un0, uc0, rfl⟩ := he.form
  have E0 := Lib.hid he
  have SX := Lib.hid (S4.out.below b5)
  have XX := Lib.hid (X4.out.below b5)
  have BX := Lib.hid (Below.up B4.out b5)
  clear S4 X4 B4 b5 he K0
  have cc := SX.out.cell (i := 2) (by omega)
  have ff := SX.out.frozen (i := 2) (by omega)
  go_wp2_with fail
  clear cc ff
  have N0 := Lib.hid (E0.out.put SX.out 2 (.slice ua0 un0 uc0))
  have SY := Lib.hid (SX.out.upd 2 (.slice ua0 un0 uc0))
  have XY := Lib.hid (XX.out.setOther (a := ⟨sb, 2, none⟩) (by show w.heap.size ≠ sb; omega) (.slice ua0 un0 uc0))
  have BY := Lib.hid (BX.out.setCell (p := ⟨sb, 2, none⟩) (by show w.heap.size ≤ sb; omega) (.slice ua0 un0 uc0))
  clear SX XX BX  E0
  generalize (y0.setCell ⟨sb, 2, none⟩ (.slice ua0 un0 uc0)) = x0 at *
  have E0 := N0
  clear N0
  have SZ0 := SY
  have XZ0 := XY
  have BZ0 := BY
  clear SY XY BY
  have hk := HL.out 1 (by omega) _ BZ0.out
  rw [hV1] at hk
  have K1 := Lib.hid hk
  clear hk
  rw [rounds_succ]
  go_wp2_with fail
  refine K1.out.mono ?_
  rintro e y1 ⟨u1, t1, rfl, he, b5⟩
  obtain ⟨ua1, un1, uc1, rfl⟩ := he.form
  have E1 := Lib.hid he
  have F0 := Lib.hid (E0.out.below b5)
  clear E0
  have SX := Lib.hid (SZ0.out.below b5)
  have XX := Lib.hid (XZ0.out.below b5)
  have BX := Lib.hid (Below.up BZ0.out b5)
  clear SZ0 XZ0 BZ0 b5 he K1
  have cc := SX.out.cell (i := 3) (by omega)
  have ff := SX.out.frozen (i := 3) (by omega)
  go_wp2_with fail
  clear cc ff
  have N1 := Lib.hid (E1.out.put SX.out 3 (.slice ua1 un1 uc1))
  have N0 := Lib.hid (F0.out.put SX.out 3 (.slice ua1 un1 uc1))
  have SY := Lib.hid (SX.out.upd 3 (.slice ua1 un1 uc1))
  have XY := Lib.hid (XX.out.setOther (a := ⟨sb, 3, none⟩) (by show w.heap.size ≠ sb; omega) (.slice ua1 un1 uc1))
  have BY := Lib.hid (BX.out.setCell (p := ⟨sb, 3, none⟩) (by show w.heap.size ≤ sb; omega) (.slice ua1 un1 uc1))
  clear SX XX BX F0 E1
  generalize (y1.setCell ⟨sb, 3, none⟩ (.slice ua1 un1 uc1)) = x1 at *
  have E0 := N0
  clear N0
  have E1 := N1
  clear N1
  have SZ1 := SY
  have XZ1 := XY
  have BZ1 := BY
  clear SY XY BY
  have hk := HL.out 2 (by omega) _ BZ1.out
  rw [hV2] at hk
  have K2 := Lib.hid hk
  clear hk
  rw [rounds_succ]
  go_wp2_with fail
  refine K2.out.mono ?_
  rintro e y2 ⟨u2, t2, rfl, he, b5⟩
  obtain ⟨ua2, un2, uc2, rfl⟩ := he.form
  have E2 := Lib.hid he
  have F0 := Lib.hid (E0.out.below b5)
  clear E0
  have F1 := Lib.hid (E1.out.below b5)
  clear E1
  have SX := Lib.hid (SZ1.out.below b5)
  have XX := Lib.hid (XZ1.out.below b5)
  have BX := Lib.hid (Below.up BZ1.out b5)
  clear SZ1 XZ1 BZ1 b5 he K2
  have cc := SX.out.cell (i := 4) (by omega)
  have ff := SX.out.frozen (i := 4) (by omega)
  go_wp2_with fail
  clear cc ff
  have N2 := Lib.hid (E2.out.put SX.out 4 (.slice ua2 un2 uc2))
  have N0 := Lib.hid (F0.out.put SX.out 4 (.slice ua2 un2 uc2))
  have N1 := Lib.hid (F1.out.put SX.out 4 (.slice ua2 un2 uc2))
  have SY := Lib.hid (SX.out.upd 4 (.slice ua2 un2 uc2))
  have XY := Lib.hid (XX.out.setOther (a := ⟨sb, 4, none⟩) (by show w.heap.size ≠ sb; omega) (.slice ua2 un2 uc2))
  have BY := Lib.hid (BX.out.setCell (p := ⟨sb, 4, none⟩) (by show w.heap.size ≤ sb; omega) (.slice ua2 un2 uc2))
  clear SX XX BX F0 F1 E2
  generalize (y2.setCell ⟨sb, 4, none⟩ (.slice ua2 un2 uc2)) = x2 at *
  have E0 := N0
  clear N0
  have E1 := N1
  clear N1
  have E2 := N2
  clear N2
  have SZ2 := SY
  have XZ2 := XY
  have BZ2 := BY
  clear SY XY BY
  have hk := HL.out 3 (by omega) _ BZ2.out
  rw [hV3] at hk
  have K3 := Lib.hid hk
  clear hk
  rw [rounds_succ]
  go_wp2_with fail
  refine K3.out.mono ?_
  rintro e y3 ⟨u3, t3, rfl, he, b5⟩
  obtain ⟨ua3, un3, uc3, rfl⟩ := he.form
  have E3 := Lib.hid he
  have F0 := Lib.hid (E0.out.below b5)
  clear E0
  have F1 := Lib.hid (E1.out.below b5)
  clear E1
  have F2 := Lib.hid (E2.out.below b5)
  clear E2
  have SX := Lib.hid (SZ2.out.below b5)
  have XX := Lib.hid (XZ2.out.below b5)
  have BX := Lib.hid (Below.up BZ2.out b5)
  clear SZ2 XZ2 BZ2 b5 he K3
  have cc := SX.out.cell (i := 5) (by omega)
  have ff := SX.out.frozen (i := 5) (by omega)
  go_wp2_with fail
  clear cc ff
  have N3 := Lib.hid (E3.out.put SX.out 5 (.slice ua3 un3 uc3))
  have N0 := Lib.hid (F0.out.put SX.out 5 (.slice ua3 un3 uc3))
  have N1 := Lib.hid (F1.out.put SX.out 5 (.slice ua3 un3 uc3))
  have N2 := Lib.hid (F2.out.put SX.out 5 (.slice ua3 un3 uc3))
  have SY := Lib.hid (SX.out.upd 5 (.slice ua3 un3 uc3))
  have XY := Lib.hid (XX.out.setOther (a := ⟨sb, 5, none⟩) (by show w.heap.size ≠ sb; omega) (.slice ua3 un3 uc3))
  have BY := Lib.hid (BX.out.setCell (p := ⟨sb, 5, none⟩) (by show w.heap.size ≤ sb; omega) (.slice ua3 un3 uc3))
  clear SX XX BX F0 F1 F2 E3
  generalize (y3.setCell ⟨sb, 5, none⟩ (.slice ua3 un3 uc3)) = x3 at *
  have E0 := N0
  clear N0
  have E1 := N1
  clear N1
  have E2 := N2
  clear N2
  have E3 := N3
  clear N3
  have SZ3 := SY
  have XZ3 := XY
  have BZ3 := BY
  clear SY XY BY
  have hk := HL.out 4 (by omega) _ BZ3.out
  rw [hV4] at hk
  have K4 := Lib.hid hk
  clear hk
  rw [rounds_succ]
  go_wp2_with fail
  refine K4.out.mono ?_
  rintro e y4 ⟨u4, t4, rfl, he, b5⟩
  obtain ⟨ua4, un4, uc4, rfl⟩ := he.form
  have E4 := Lib.hid he
  have F0 := Lib.hid (E0.out.below b5)
  clear E0
  have F1 := Lib.hid (E1.out.below b5)
  clear E1
  have F2 := Lib.hid (E2.out.below b5)
  clear E2
  have F3 := Lib.hid (E3.out.below b5)
  clear E3
  have SX := Lib.hid (SZ3.out.below b5)
  have XX := Lib.hid (XZ3.out.below b5)
  have BX := Lib.hid (Below.up BZ3.out b5)
  clear SZ3 XZ3 BZ3 b5 he K4
  have cc := SX.out.cell (i := 6) (by omega)
  have ff := SX.out.frozen (i := 6) (by omega)
  go_wp2_with fail
  clear cc ff
  have N4 := Lib.hid (E4.out.put SX.out 6 (.slice ua4 un4 uc4))
  have N0 := Lib.hid (F0.out.put SX.out 6 (.slice ua4 un4 uc4))
  have N1 := Lib.hid (F1.out.put SX.out 6 (.slice ua4 un4 uc4))
  have N2 := Lib.hid (F2.out.put SX.out 6 (.slice ua4 un4 uc4))
  have N3 := Lib.hid (F3.out.put SX.out 6 (.slice ua4 un4 uc4))
  have SY := Lib.hid (SX.out.upd 6 (.slice ua4 un4 uc4))
  have XY := Lib.hid (XX.out.setOther (a := ⟨sb, 6, none⟩) (by show w.heap.size ≠ sb; omega) (.slice ua4 un4 uc4))
  have BY := Lib.hid (BX.out.setCell (p := ⟨sb, 6, none⟩) (by show w.heap.size ≤ sb; omega) (.slice ua4 un4 uc4))
  clear SX XX BX F0 F1 F2 F3 E4
  generalize (y4.setCell ⟨sb, 6, none⟩ (.slice ua4 un4 uc4)) = x4 at *
  have E0 := N0
  clear N0
  have E1 := N1
  clear N1
  have E2 := N2
  clear N2
  have E3 := N3
  clear N3
  have E4 := N4
  clear N4
  have SZ4 := SY
  have XZ4 := XY
  have BZ4 := BY
  clear SY XY BY
  have hk := HL.out 5 (by omega) _ BZ4.out
  rw [hV5] at hk
  have K5 := Lib.hid hk
  clear hk
  rw [rounds_succ]
  go_wp2_with fail
  refine K5.out.mono ?_
  rintro e y5 ⟨u5, t5, rfl, he, b5⟩
  obtain ⟨ua5, un5, uc5, rfl⟩ := he.form
  have E5 := Lib.hid he
  have F0 := Lib.hid (E0.out.below b5)
  clear E0
  have F1 := Lib.hid (E1.out.below b5)
  clear E1
  have F2 := Lib.hid (E2.out.below b5)
  clear E2
  have F3 := Lib.hid (E3.out.below b5)
  clear E3
  have F4 := Lib.hid (E4.out.below b5)
  clear E4
  have SX := Lib.hid (SZ4.out.below b5)
  have XX := Lib.hid (XZ4.out.below b5)
  have BX := Lib.hid (Below.up BZ4.out b5)
  clear SZ4 XZ4 BZ4 b5 he K5
  have cc := SX.out.cell (i := 7) (by omega)
  have ff := SX.out.frozen (i := 7) (by omega)
  go_wp2_with fail
  clear cc ff
  have N5 := Lib.hid (E5.out.put SX.out 7 (.slice ua5 un5 uc5))
  have N0 := Lib.hid (F0.out.put SX.out 7 (.slice ua5 un5 uc5))
  have N1 := Lib.hid (F1.out.put SX.out 7 (.slice ua5 un5 uc5))
  have N2 := Lib.hid (F2.out.put SX.out 7 (.slice ua5 un5 uc5))
  have N3 := Lib.hid (F3.out.put SX.out 7 (.slice ua5 un5 uc5))
  have N4 := Lib.hid (F4.out.put SX.out 7 (.slice ua5 un5 uc5))
  have SY := Lib.hid (SX.out.upd 7 (.slice ua5 un5 uc5))
  have XY := Lib.hid (XX.out.setOther (a := ⟨sb, 7, none⟩) (by show w.heap.size ≠ sb; omega) (.slice ua5 un5 uc5))
  have BY := Lib.hid (BX.out.setCell (p := ⟨sb, 7, none⟩) (by show w.heap.size ≤ sb; omega) (.slice ua5 un5 uc5))
  clear SX XX BX F0 F1 F2 F3 F4 E5
  generalize (y5.setCell ⟨sb, 7, none⟩ (.slice ua5 un5 uc5)) = x5 at *
  have E0 := N0
  clear N0
  have E1 := N1
  clear N1
  have E2 := N2
  clear N2
  have E3 := N3
  clear N3
  have E4 := N4
  clear N4
  have E5 := N5
  clear N5
  have SZ5 := SY
  have XZ5 := XY
  have BZ5 := BY
  clear SY XY BY
  have hk := HL.out 6 (by omega) _ BZ5.out
  rw [hV6] at hk
  have K6 := Lib.hid hk
  clear hk
  rw [rounds_succ]
  go_wp2_with fail
  refine K6.out.mono ?_
  rintro e y6 ⟨u6, t6, rfl, he, b5⟩
  obtain ⟨ua6, un6, uc6, rfl⟩ := he.form
  have E6 := Lib.hid he
  have F0 := Lib.hid (E0.out.below b5)
  clear E0
  have F1 := Lib.hid (E1.out.below b5)
  clear E1
  have F2 := Lib.hid (E2.out.below b5)
  clear E2
  have F3 := Lib.hid (E3.out.below b5)
  clear E3
  have F4 := Lib.hid (E4.out.below b5)
  clear E4
  have F5 := Lib.hid (E5.out.below b5)
  clear E5
  have SX := Lib.hid (SZ5.out.below b5)
  have XX := Lib.hid (XZ5.out.below b5)
  have BX := Lib.hid (Below.up BZ5.out b5)
  clear SZ5 XZ5 BZ5 b5 he K6
  have cc := SX.out.cell (i := 8) (by omega)
  have ff := SX.out.frozen (i := 8) (by omega)
  go_wp2_with fail
  clear cc ff
  have N6 := Lib.hid (E6.out.put SX.out 8 (.slice ua6 un6 uc6))
  have N0 := Lib.hid (F0.out.put SX.out 8 (.slice ua6 un6 uc6))
  have N1 := Lib.hid (F1.out.put SX.out 8 (.slice ua6 un6 uc6))
  have N2 := Lib.hid (F2.out.put SX.out 8 (.slice ua6 un6 uc6))
  have N3 := Lib.hid (F3.out.put SX.out 8 (.slice ua6 un6 uc6))
  have N4 := Lib.hid (F4.out.put SX.out 8 (.slice ua6 un6 uc6))
  have N5 := Lib.hid (F5.out.put SX.out 8 (.slice ua6 un6 uc6))
  have SY := Lib.hid (SX.out.upd 8 (.slice ua6 un6 uc6))
  have XY := Lib.hid (XX.out.setOther (a := ⟨sb, 8, none⟩) (by show w.heap.size ≠ sb; omega) (.slice ua6 un6 uc6))
  have BY := Lib.hid (BX.out.setCell (p := ⟨sb, 8, none⟩) (by show w.heap.size ≤ sb; omega) (.slice ua6 un6 uc6))
  clear SX XX BX F0 F1 F2 F3 F4 F5 E6
  generalize (y6.setCell ⟨sb, 8, none⟩ (.slice ua6 un6 uc6)) = x6 at *
  have E0 := N0
  clear N0
  have E1 := N1
  clear N1
  have E2 := N2
  clear N2
  have E3 := N3
  clear N3
  have E4 := N4
  clear N4
  have E5 := N5
  clear N5
  have E6 := N6
  clear N6
  have SZ6 := SY
  have XZ6 := XY
  have BZ6 := BY
  clear SY XY BY
  rw [rounds_succ]
  have c0 : x6.cell? ⟨sb, 0, none⟩ = some (.string s) := SZ6.out.cell (i := 0) (by omega)
  have c1 : x6.cell? ⟨sb, 1, none⟩ = some (.int .i64 T) := SZ6.out.cell (i := 1) (by omega)
  have c2 : x6.cell? ⟨sb, 2, none⟩ = some (.slice ua0 un0 uc0) := SZ6.out.cell (i := 2) (by omega)
  have c3 : x6.cell? ⟨sb, 3, none⟩ = some (.slice ua1 un1 uc1) := SZ6.out.cell (i := 3) (by omega)
  have c4 : x6.cell? ⟨sb, 4, none⟩ = some (.slice ua2 un2 uc2) := SZ6.out.cell (i := 4) (by omega)
  have c5 : x6.cell? ⟨sb, 5, none⟩ = some (.slice ua3 un3 uc3) := SZ6.out.cell (i := 5) (by omega)
  have c6 : x6.cell? ⟨sb, 6, none⟩ = some (.slice ua4 un4 uc4) := SZ6.out.cell (i := 6) (by omega)
  have c7 : x6.cell? ⟨sb, 7, none⟩ = some (.slice ua5 un5 uc5) := SZ6.out.cell (i := 7) (by omega)
  have c8 : x6.cell? ⟨sb, 8, none⟩ = some (.slice ua6 un6 uc6) := SZ6.out.cell (i := 8) (by omega)
  have r0 := XZ6.out.cell (i := 0) (by omega)
  have s0 := XZ6.out.frozen (i := 0) (by omega)
  have r1 := XZ6.out.cell (i := 1) (by omega)
  have s1 := XZ6.out.frozen (i := 1) (by omega)
  have r2 := XZ6.out.cell (i := 2) (by omega)
  have s2 := XZ6.out.frozen (i := 2) (by omega)
  have r3 := XZ6.out.cell (i := 3) (by omega)
  have s3 := XZ6.out.frozen (i := 3) (by omega)
  have r4 := XZ6.out.cell (i := 4) (by omega)
  have s4 := XZ6.out.frozen (i := 4) (by omega)
  have r5 := XZ6.out.cell (i := 5) (by omega)
  have s5 := XZ6.out.frozen (i := 5) (by omega)
  have r6 := XZ6.out.cell (i := 6) (by omega)
  have s6 := XZ6.out.frozen (i := 6) (by omega)
  have r7 := XZ6.out.cell (i := 7) (by omega)
  have s7 := XZ6.out.frozen (i := 7) (by omega)
  have r8 := XZ6.out.cell (i := 8) (by omega)
  have s8 := XZ6.out.frozen (i := 8) (by omega)
  go_wp2_with fail
  refine bodyPost_ret (v := .tuple #[.agg #[.string s, .int .i64 T, .slice ua0 un0 uc0, .slice ua1 un1 uc1, .slice ua2 un2 uc2, .slice ua3 un3 uc3, .slice ua4 un4 uc4, .slice ua5 un5 uc5, .slice ua6 un6 uc6], .int .i64 0]) (by simp [results, Tryd.results14, go_sem, r0, r1, r2, r3, r4, r5, r6, r7, r8]) rfl ⟨_, _, _, _, _, _, _, rfl, ?_, ?_⟩
  · refine ⟨E0.out.but XZ6.out ?_, E1.out.but XZ6.out ?_, E2.out.but XZ6.out ?_, E3.out.but XZ6.out ?_, E4.out.but XZ6.out ?_, E5.out.but XZ6.out ?_, E6.out.but XZ6.out ?_⟩
    all_goals
      intro j hj
      refine (Below.heap_setCell _ _ _ _ hj).trans ?_
      refine (Below.heap_setCell _ _ _ _ hj).trans ?_
      refine (Below.heap_setCell _ _ _ _ hj).trans ?_
      refine (Below.heap_setCell _ _ _ _ hj).trans ?_
      refine (Below.heap_setCell _ _ _ _ hj).trans ?_
      refine (Below.heap_setCell _ _ _ _ hj).trans ?_
      refine (Below.heap_setCell _ _ _ _ hj).trans ?_
      refine (Below.heap_setCell _ _ _ _ hj).trans ?_
      exact Below.heap_setCell _ _ _ _ hj
  · exact (((((((((BZ6.out.setCell (p := ⟨w.heap.size, 0, none⟩) (Nat.le_refl _) (.string s)).setCell (p := ⟨w.heap.size, 1, none⟩) (Nat.le_refl _) (.int .i64 T)).setCell (p := ⟨w.heap.size, 2, none⟩) (Nat.le_refl _) (.slice ua0 un0 uc0)).setCell (p := ⟨w.heap.size, 3, none⟩) (Nat.le_refl _) (.slice ua1 un1 uc1)).setCell (p := ⟨w.heap.size, 4, none⟩) (Nat.le_refl _) (.slice ua2 un2 uc2)).setCell (p := ⟨w.heap.size, 5, none⟩) (Nat.le_refl _) (.slice ua3 un3 uc3)).setCell (p := ⟨w.heap.size, 6, none⟩) (Nat.le_refl _) (.slice ua4 un4 uc4)).setCell (p := ⟨w.heap.size, 7, none⟩) (Nat.le_refl _) (.slice ua5 un5 uc5)).setCell (p := ⟨w.heap.size, 8, none⟩) (Nat.le_refl _) (.slice ua6 un6 uc6))
end Go.Proofs.YtlegacllbohbmaaDoor
