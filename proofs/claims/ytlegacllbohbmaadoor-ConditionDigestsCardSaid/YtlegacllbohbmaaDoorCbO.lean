/- Layer 4: List, Tagged. -/
import Derived.Test.YtlegacllbohbmaaDoorCbN
set_option linter.unusedVariables false
set_option linter.unusedSimpArgs false
namespace Go.Proofs.YtlegacllbohbmaaDoor
open Go.RowKit Go.Shelf

theorem BookAt.below {B bb : Nat} {W W' : World} {S : Bk} (h : BookAt B W bb S) (k : Below W.heap.size W W') : BookAt B W' bb S := by
  obtain ⟨mb, clk, es, vbs, svs, tv, lv, f, h⟩ := h
  exact ⟨_, _, _, _, _, _, _, _, h.below k⟩
theorem List_in (B bb i j : Nat) (k n T : Int) (S : Bk) (x : Vr) (w : World) (h : BookAt B w bb S) (hf : fnd S.vs k n = some i) (hi : S.vs[i]? = some ((k, n), x)) (hj : j < x.sp.length) (hP : ∀ i, Plc (tmF x.sp) x.sp.length T i → i = j + 1 ∧ hitB (tmF x.sp) x.sp.length T i = false)
    (hl : (x.sp[j]).2.length ≤ 1000000) :
    Calls Tryd.prog 32 #[.pointer (some ⟨bb, 0, none⟩), .int .i64 k, .int .i64 n, .int .i64 T] w fun e w' => ∃ v b, e = .returned (.tuple #[v, .bool b]) ∧ EntS w' v (x.sp[j]).2 ∧ Below w.heap.size w w' := by
  obtain ⟨mb, clk, es, vbs, svs, tv, lv, f, h⟩ := h
  obtain ⟨vb, sv, hvb, hsv, hV⟩ := h.at hi
  have c0 := h.rf.cell (i := 0) (by omega)
  rw [h.f0] at c0
  have c1 := h.rf.cell (i := 1) (by omega)
  rw [h.f1] at c1
  have HF := Lib.hid (find_at bb mb clk es S.vs vbs k n w c0 c1 h.map h.mi)
  rw [show verP S.vs vbs k n = .pointer (some ⟨vb, 0, none⟩) from by unfold verP; rw [hf]; simp [hvb]] at HF
  have HA := Lib.hid (at_in B vb j sv x T w hV hj hP)
  have HL := Lib.hid hl
  clear h hvb hsv hV c0 c1 hP hf hi hl
  go_enter Tryd.func32, Tryd.ntmps32
  go_wp2_with fail
  refine HF.out.mono ?_
  rintro e w' ⟨rfl, rfl⟩
  go_wp2_with fail
  refine HA.out.mono ?_
  rintro e w1 ⟨v, rfl, he, b1⟩
  obtain ⟨va, vn, vc, rfl⟩ := he.form
  have HE := Lib.hid he
  have B1 := Lib.hid b1
  clear he b1 HA
  go_wp2_with fail
  refine (copyOf_any _ _ w1 HE.out.en HL.out).mono ?_
  rintro e w2 ⟨v', rfl, he, b2, _⟩
  obtain ⟨va, vn, vc, rfl⟩ := he.form
  have HE2 := Lib.hid he
  have B2 := Lib.hid (Below.up B1.out b2)
  clear he b2
  go_wp2_with fail
  go_ret2
  exact ⟨_, _, rfl, HE2.out, B2.out⟩
theorem List_none (B bb : Nat) (k n T : Int) (S : Bk) (w : World) (h : BookAt B w bb S) (hf : fnd S.vs k n = none) :
    Calls Tryd.prog 32 #[.pointer (some ⟨bb, 0, none⟩), .int .i64 k, .int .i64 n, .int .i64 T] w fun e w' => ∃ v b, e = .returned (.tuple #[v, .bool b]) ∧ EntS w' v [] ∧ Below w.heap.size w w' := by
  obtain ⟨mb, clk, es, vbs, svs, tv, lv, f, h⟩ := h
  have c0 := h.rf.cell (i := 0) (by omega)
  rw [h.f0] at c0
  have c1 := h.rf.cell (i := 1) (by omega)
  rw [h.f1] at c1
  have HF := Lib.hid (find_at bb mb clk es S.vs vbs k n w c0 c1 h.map h.mi)
  rw [show verP S.vs vbs k n = .pointer none from by unfold verP; rw [hf]; rfl] at HF
  clear h c0 c1 hf
  go_enter Tryd.func32, Tryd.ntmps32
  go_wp2_with fail
  refine HF.out.mono ?_
  rintro e w' ⟨rfl, rfl⟩
  go_wp2_with fail
  go_ret2
  exact ⟨_, _, rfl, ⟨none, 0, rfl, by decide, (fun x hx => by cases hx), fun h => absurd h (by decide)⟩, Below.refl _ _⟩

set_option maxRecDepth 100000 in
set_option maxHeartbeats 1600000 in
theorem Tagged_at (B bb i : Nat) (s : ByteArray) (v : Nat → Int) (S : Bk) (w : World) (h : BookAt B w bb S) (hi : tagI S.tg s = (i : Nat)) (hl : i < S.tg.length) (hv : (S.tg[i]).2 = v) :
    Calls Tryd.prog 31 #[.pointer (some ⟨bb, 0, none⟩), .string s] w fun e w' => e = .returned (.tuple #[.agg #[.int .i64 (v 0), .int .i64 (v 1), .int .i64 (v 2), .int .i64 (v 3), .int .i64 (v 4), .int .i64 (v 5), .int .i64 (v 6)], .bool true]) ∧ Below w.heap.size w w' := by
  obtain ⟨mb, clk, es, vbs, svs, tv, lv, f, h⟩ := h
  have b0 : Below w.heap.size w (w.alloc (.cells #[.int .i64 0, .int .i64 0, .int .i64 0, .int .i64 0, .int .i64 0, .int .i64 0, .int .i64 0] 40)) := (Below.refl _ _).alloc (Nat.le_refl _) _
  have BX : Hid (RF (w.alloc (.cells #[.int .i64 0, .int .i64 0, .int .i64 0, .int .i64 0, .int .i64 0, .int .i64 0, .int .i64 0] 40)) w.heap.size 40 7 (fun i => .int .i64 0)) := Lib.hid (RF_new w _ _ 7 _ rfl (fun i hi => by
    match i, hi with
    | 0, _ => rfl
    | 1, _ => rfl
    | 2, _ => rfl
    | 3, _ => rfl
    | 4, _ => rfl
    | 5, _ => rfl
    | 6, _ => rfl))
  have H := Lib.hid (h.below b0)
  have B0 := Lib.hid b0
  have HI := Lib.hid hi
  have c0 := H.out.rf.cell (i := 0) (by omega)
  rw [h.f0] at c0
  have c9 := H.out.rf.cell (i := 9) (by omega)
  rw [h.f9] at c9
  have i64 := H.out.tgl
  clear h b0 hi
  go_enter Tryd.func31, Tryd.ntmps31
  go_wp2_with fail
  generalize (w.alloc (.cells #[.int .i64 0, .int .i64 0, .int .i64 0, .int .i64 0, .int .i64 0, .int .i64 0, .int .i64 0] 40)) = W0 at *
  refine (findTag_at bb tv S.tg s _ c0 c9 H.out.tags.tagS H.out.tgl).mono ?_
  rw [HI.out]
  rintro e w2 ⟨rfl, b2⟩
  have B2 := Lib.hid (Below.up B0.out b2)
  have d9 := bc b2 c9
  have H2 := Lib.hid (H.out.below b2)
  have X2 := Lib.hid (BX.out.below b2)
  clear b2 c0 c9 H BX
  obtain ⟨ta, tc, rfl, hcc⟩ := H2.out.tags.tagS
  obtain ⟨g, rfl, hcell⟩ := hcc (by omega)
  obtain ⟨_, q⟩ := hcell i hl
  rw [hv] at q
  have q0 := q 0 (by omega)
  have q1 := q 1 (by omega)
  have q2 := q 2 (by omega)
  have q3 := q 3 (by omega)
  have q4 := q 4 (by omega)
  have q5 := q 5 (by omega)
  have q6 := q 6 (by omega)
  simp only [Nat.reduceAdd] at q0 q1 q2 q3 q4 q5 q6
  clear q hcc hcell
  have r0 := X2.out.cell (i := 0) (by omega)
  have r1 := X2.out.cell (i := 1) (by omega)
  have r2 := X2.out.cell (i := 2) (by omega)
  have r3 := X2.out.cell (i := 3) (by omega)
  have r4 := X2.out.cell (i := 4) (by omega)
  have r5 := X2.out.cell (i := 5) (by omega)
  have r6 := X2.out.cell (i := 6) (by omega)
  have s0 := X2.out.frozen (i := 0) (by omega)
  have s1 := X2.out.frozen (i := 1) (by omega)
  have s2 := X2.out.frozen (i := 2) (by omega)
  have s3 := X2.out.frozen (i := 3) (by omega)
  have s4 := X2.out.frozen (i := 4) (by omega)
  have s5 := X2.out.frozen (i := 5) (by omega)
  have s6 := X2.out.frozen (i := 6) (by omega)
  have hlt := X2.out.lt
  go_wp2_with fail
  refine bodyPost_ret (v := .tuple #[.agg #[.int .i64 (v 0), .int .i64 (v 1), .int .i64 (v 2), .int .i64 (v 3), .int .i64 (v 4), .int .i64 (v 5), .int .i64 (v 6)], .bool true]) ?_ ?_ ?_
  · simp [results, Tryd.results31, go_sem, r0, r1, r2, r3, r4, r5, r6]
  · rfl
  refine ⟨rfl, ?_⟩
  exact (((((((B2.out.setCell (p := ⟨w.heap.size, 0, none⟩) (Nat.le_refl _) (.int .i64 (v 0))).setCell (p := ⟨w.heap.size, 1, none⟩) (Nat.le_refl _) (.int .i64 (v 1))).setCell (p := ⟨w.heap.size, 2, none⟩) (Nat.le_refl _) (.int .i64 (v 2))).setCell (p := ⟨w.heap.size, 3, none⟩) (Nat.le_refl _) (.int .i64 (v 3))).setCell (p := ⟨w.heap.size, 4, none⟩) (Nat.le_refl _) (.int .i64 (v 4))).setCell (p := ⟨w.heap.size, 5, none⟩) (Nat.le_refl _) (.int .i64 (v 5))).setCell (p := ⟨w.heap.size, 6, none⟩) (Nat.le_refl _) (.int .i64 (v 6)))
end Go.Proofs.YtlegacllbohbmaaDoor
