/- Layer 4: Begin. -/
import Derived.Test.YtlegacllbohbmaaDoorCbH
set_option linter.unusedVariables false
set_option linter.unusedSimpArgs false
namespace Go.Proofs.YtlegacllbohbmaaDoor
open Go.RowKit Go.Shelf

/-- A book with a line more. -/
def addL (S : Bk) (text : List UInt8) : Bk := { S with lg := S.lg ++ (text ++ (32 :: (hexL (sumN S.sm text) ++ [10]))), sm := sumN S.sm text }
/-- A book with a version more. -/
def begunB (S : Bk) (k : Nat) : Bk := { S with vs := S.vs ++ [(((k : Int), S.cn k + 1), ⟨false, []⟩)], cn := fun j => if j = k then S.cn k + 1 else S.cn j }
theorem beginFrom_0 (bb : Nat) (k : Int) (w : World) :
    Calls Tryd.prog 20 #[.pointer (some ⟨bb, 0, none⟩), .int .i64 k, .int .i64 0] w fun e w' => e = .returned (.tuple #[.pointer (some ⟨w.heap.size, 0, none⟩), .int .i64 0]) ∧ w' = w.alloc (.cells #[.bool false, .slice none 0 0] 67) := by
  go_enter Tryd.func20, Tryd.ntmps20
  go_wp2_with fail
  go_ret2
  exact ⟨rfl, rfl⟩

set_option maxRecDepth 100000 in
set_option maxHeartbeats 1600000 in
theorem Begin_0 (B bb mb clk k : Nat) (S : Bk) (es : Array MapEntry) (vbs : List Nat) (svs : List Value) (tv lv : Value) (f : Nat → Value) (w : World) (h : BookW B w bb S mb clk es vbs svs tv lv f) (hk : k < 7) (hc : S.cn k < 64)
    (hn : fnd S.vs k (S.cn k + 1) = none) (hl : S.lg.length ≤ 100000000000) (hp : Pow B w) (ht : Tz B w) :
    Calls Tryd.prog 10 #[.pointer (some ⟨bb, 0, none⟩), .int .i64 k, .int .i64 0] w fun e w' => e = .returned (.tuple #[.int .i64 (S.cn k + 1), .int .i64 0]) ∧
      BookAt B w' bb (addL (begunB S k) ([98, 101, 103, 105, 110] ++ numsL (fun i => if i = 0 then (k : Int) else 0) 2)) ∧ Below B w w' := by
  have H := Lib.hid h
  have HP := Lib.hid hp
  have HT := Lib.hid ht
  have HN := Lib.hid hn
  have HB : B ≤ w.heap.size := by have := h.rf.lt; have := h.hbb; omega
  have c0 := h.rf.cell (i := 0) (by omega)
  rw [h.f0] at c0
  have ck := h.rf.cell (i := 2 + k) (by omega)
  obtain ⟨e0, n0, n1⟩ := h.fc k hk
  rw [e0] at ck
  have kb : inB (k : Int) 0 6 = true := inB_true.2 ⟨by omega, by omega⟩
  have KB := Lib.hid kb
  clear h hp ht hn e0 kb
  generalize hcn : S.cn k = cn at *
  have HCN := Lib.hid hcn
  clear hcn
  have hne : (cn == 64) = false := by simp; omega
  have hlt := H.out.rf.lt
  go_enter Tryd.func10, Tryd.ntmps10
  go_wp2_with fail
  refine (isMade_yes bb _ c0).mono ?_
  rintro e w' ⟨rfl, rfl⟩
  go_wp2_with fail
  refine (isKind_any _ _).mono ?_
  rw [KB.out]
  rintro e w' ⟨rfl, rfl⟩
  go_wp2_with fail
  refine (beginFrom_0 bb _ _).mono ?_
  rintro e w' ⟨rfl, rfl⟩
  have b1 : Below w.heap.size w (w.alloc (.cells #[.bool false, .slice none 0 0] 67)) := (Below.refl _ _).alloc (Nat.le_refl _) _
  have B1 := Lib.hid b1
  have d1 := bc b1 ck
  have R1 := Lib.hid (H.out.below b1)
  have f1 := R1.out.rf.frozen (i := 2 + k) (by omega)
  clear b1 ck c0
  have V1 : Hid (RF (w.alloc (.cells #[.bool false, .slice none 0 0] 67)) w.heap.size 67 2 (fun i => ((#[.bool false, .slice none 0 0] : Array Value)[i]?).getD default)) := Lib.hid (RF_new w _ _ 2 _ rfl (fun i hi => by rw [Array.getElem?_eq_getElem (by exact hi)]; rfl))
  go_wp2_with fail
  obtain ⟨vb, hvb⟩ : ∃ vb, vb = w.heap.size := ⟨_, rfl⟩
  rw [← hvb] at V1
  rw [← hvb]
  have HVB := Lib.hid hvb
  clear hvb
  generalize (w.alloc (.cells #[.bool false, .slice none 0 0] 67)) = W1 at *
  go_region
  have x1 := Lib.hid ((R1.out.rf.upd (2 + k) (.int .i64 (cn + 1))).of_block (w' := (W1.setCell ⟨bb, 2 + k, none⟩ (.int .i64 (cn + 1))).drew) rfl)
  have x2 : Hid ((W1.setCell ⟨bb, 2 + k, none⟩ (.int .i64 (cn + 1))).drew.heap[mb]? = some (.map es clk)) := Lib.hid ((Below.heap_setCell _ _ _ _ (by
    rintro rfl
    obtain ⟨c2, fz2, e2⟩ := R1.out.rf.kind
    rw [R1.out.map] at e2
    cases e2)).trans R1.out.map)
  have x3 : Hid (∀ j, j ≠ bb → (W1.setCell ⟨bb, 2 + k, none⟩ (.int .i64 (cn + 1))).drew.heap[j]? = W1.heap[j]?) := Lib.hid fun j hj => Below.heap_setCell _ _ _ _ hj
  have x4 : Hid (Below B w (W1.setCell ⟨bb, 2 + k, none⟩ (.int .i64 (cn + 1))).drew) := Lib.hid ((B1.out.mono HB).setCell (p := ⟨bb, 2 + k, none⟩) R1.out.hbb _).drew
  clear d1 f1
  go_wp2_with fail
  have z1 := B1.out.size
  have z2 : (W1.setCell ⟨bb, 2 + k, none⟩ (.int .i64 (cn + 1))).drew.heap.size = W1.heap.size := by simp
  generalize (W1.setCell ⟨bb, 2 + k, none⟩ (.int .i64 (cn + 1))).drew = W2 at *
  have m1 := x1.out.cell (i := 1) (by omega)
  rw [upd_other _ _ (by omega), R1.out.f1] at m1
  have m2 := x1.out.cell (i := 2 + k) (by omega)
  rw [upd_same] at m2
  have hu := upd_run (W := W2.drew) x2.out R1.out.mi (k : Int) (cn + 1) HN.out vb
  go_region
  clear hu m1 m2
  go_wp2_with fail
  have hmb : mb < W2.heap.size := (Array.getElem?_eq_some_iff.1 x2.out).1
  have k4 : ∀ j, j < W2.heap.size → j ≠ mb → ((W2.drew.putObj mb (.map (es.push { key := .agg #[.int .i64 k, .int .i64 (cn + 1)], val := .pointer (some ⟨vb, 0, none⟩), born := clk }) (clk + 1))).alloc (.cells #[.int .i64 k, .int .i64 0] 3)).heap[j]? = W2.heap[j]? := fun j hj hne =>
    (Below.heap_alloc _ _ _ (by simpa using hj)).trans (World.putObj_heap_other hne)
  have m4 : ((W2.drew.putObj mb (.map (es.push { key := .agg #[.int .i64 k, .int .i64 (cn + 1)], val := .pointer (some ⟨vb, 0, none⟩), born := clk }) (clk + 1))).alloc (.cells #[.int .i64 k, .int .i64 0] 3)).heap[mb]? = some (.map (es.push { key := .agg #[.int .i64 k, .int .i64 (cn + 1)], val := .pointer (some ⟨vb, 0, none⟩), born := clk }) (clk + 1)) :=
    (Below.heap_alloc _ _ _ (by simpa using hmb)).trans (World.putObj_heap_same (by simpa using hmb))
  have n4 : ((W2.drew.putObj mb (.map (es.push { key := .agg #[.int .i64 k, .int .i64 (cn + 1)], val := .pointer (some ⟨vb, 0, none⟩), born := clk }) (clk + 1))).alloc (.cells #[.int .i64 k, .int .i64 0] 3)).heap[W1.heap.size]? = some (.cells #[.int .i64 k, .int .i64 0] 3 (0, 0)) := by
    have := World.alloc_heap_new (W2.drew.putObj mb (.map (es.push { key := .agg #[.int .i64 k, .int .i64 (cn + 1)], val := .pointer (some ⟨vb, 0, none⟩), born := clk }) (clk + 1))) (.cells #[.int .i64 k, .int .i64 0] 3)
    rwa [show (W2.drew.putObj mb (.map (es.push { key := .agg #[.int .i64 k, .int .i64 (cn + 1)], val := .pointer (some ⟨vb, 0, none⟩), born := clk }) (clk + 1))).heap.size = W1.heap.size from by simp [z2]] at this
  have b4 : Below B W2 ((W2.drew.putObj mb (.map (es.push { key := .agg #[.int .i64 k, .int .i64 (cn + 1)], val := .pointer (some ⟨vb, 0, none⟩), born := clk }) (clk + 1))).alloc (.cells #[.int .i64 k, .int .i64 0] 3)) :=
    ⟨rfl, rfl, rfl, by simp, fun j hj => k4 j (by omega) (by have := R1.out.hmb; omega)⟩
  have K4 := Lib.hid k4
  have M4 := Lib.hid m4
  have N4 := Lib.hid n4
  have B4 := Lib.hid (x4.out.trans b4)
  clear k4 m4 n4 b4
  generalize ((W2.drew.putObj mb (.map (es.push { key := .agg #[.int .i64 k, .int .i64 (cn + 1)], val := .pointer (some ⟨vb, 0, none⟩), born := clk }) (clk + 1))).alloc (.cells #[.int .i64 k, .int .i64 0] 3)) = W4 at *
  have nbm : bb ≠ mb := by
    rintro rfl
    obtain ⟨c2, fz2, e2⟩ := R1.out.rf.kind
    rw [R1.out.map] at e2
    cases e2
  have nvb : vb ≠ bb := by
    rintro rfl
    obtain ⟨c2, fz2, e2⟩ := R1.out.rf.kind
    obtain ⟨c3, fz3, e3⟩ := V1.out.kind
    rw [e2] at e3
    cases e3
  have nvm : vb ≠ mb := by
    rintro rfl
    obtain ⟨c3, fz3, e3⟩ := V1.out.kind
    rw [R1.out.map] at e3
    cases e3
  have hvl := V1.out.lt
  have hbl := R1.out.rf.lt
  have rb := x1.out.of_block (K4.out bb (by omega) nbm)
  have rv := (V1.out.of_block (x3.out vb nvb)).of_block (K4.out vb (by omega) nvm)
  have W := Lib.hid (BookW.begun (W' := W4) H.out k vb hk (by rw [HCN.out]; exact hc) (by rw [HVB.out]; exact Nat.le_refl _) _ (by rw [HCN.out]; exact rb) rv rfl rfl (by rw [HCN.out]; exact M4.out) (fun j hj h1 h2 => (K4.out j (by omega) h2).trans ((x3.out j h1).trans (B1.out.block j hj))))
  have NS : Hid (NumS W4 (.slice (some ⟨W1.heap.size, 0, none⟩) 2 2) 2 (fun i => if i = 0 then (k : Int) else 0)) := Lib.hid ⟨_, 2, rfl, fun j hj => by
      dsimp only
      split <;> omega, fun _ => ⟨W1.heap.size, 0, rfl, fun j hj => by
        match j, hj with
        | 0, _ => simp [World.cell?, N4.out]
        | 1, _ => simp [World.cell?, N4.out]⟩⟩
  clear rb rv x1 x2 x3 V1 K4 M4 N4
  refine (record_any B bb S.sm 2 _ (fun _ => default) _ lv S.lg ⟨#[98, 101, 103, 105, 110]⟩ _ W4 W.out.rf H.out.hbb W.out.f10 W.out.f11 W.out.sm W.out.log hl (by decide) (by decide) NS.out (HP.out.on B4.out) (HT.out.on B4.out)).mono ?_
  rintro e w5 ⟨rfl, lv', rf5, by5, bl5, ok5⟩
  have W5 := Lib.hid (W.out.logged _ (sumN_lt _ _) lv' _ rf5 by5 ok5)
  have B5 := Lib.hid (B4.out.trans bl5)
  have c5 := rf5.cell (i := 2 + k) (by omega)
  rw [upd_other _ _ (by omega), upd_other _ _ (by omega), HCN.out, upd_same] at c5
  clear rf5 by5 bl5 ok5
  go_wp2_with fail
  go_ret2
  exact ⟨rfl, ⟨_, _, _, _, _, _, _, _, W5.out⟩, B5.out⟩
end Go.Proofs.YtlegacllbohbmaaDoor
