/- Layer 4: Tag. -/
import Derived.Deep.RegionLaw
import Derived.Deep.DrawnRows
import Derived.Test.YtlegacllbohbmaaDoorCbL
set_option linter.unusedVariables false
set_option linter.unusedSimpArgs false
namespace Go.Proofs.YtlegacllbohbmaaDoor
open Go.RowKit Go.Shelf
attribute [local go_sem ↓] Go.wp_at_zero Go.wp_at_succ

theorem cloneI_any (s : ByteArray) (w : World) (hs : s.size ≤ 1000000) : Calls Tryd.prog 50 #[.string s] w fun e w' => e = .returned (.string s) ∧ Below w.heap.size w w' := by
  have h := Any.stringslite_Clone laysM316 s w (by omega)
  rwa [show laysM316_ren.f 316 = 50 by kernel_rfl] at h
theorem clone_any (s : ByteArray) (w : World) (hs : s.size ≤ 1000000) : Calls Tryd.prog 30 #[.string s] w fun e w' => e = .returned (.string s) ∧ Below w.heap.size w w' := by
  go_enter Tryd.func30, Tryd.ntmps30
  go_wp2_with fail
  refine (cloneI_any s w hs).mono ?_
  rintro e w' ⟨rfl, hB⟩
  have HB := Lib.hid hB
  clear hB
  go_wp2_with fail
  go_ret
  exact ⟨rfl, HB.out⟩
section
variable {B bb mb clk : Nat} {W W' : World} {S : Bk} {es : Array MapEntry} {vbs : List Nat} {svs : List Value} {tv lv : Value} {f : Nat → Value}
theorem BookW.tagged (h : BookW B W bb S mb clk es vbs svs tv lv f) (x : ByteArray × (Nat → Int)) (tv' : Value) (rb : RF W' bb 53 12 (upd f 9 tv')) (rt : Rw 72 8 B W' tv' (S.tg.length + 1) (S.tg.flatMap tgC ++ tgC x)) (hl : S.tg.length < 64)
    (ko : ∀ j, j < W.heap.size → j ≠ bb → some j ≠ tv.ownBlock → W'.heap[j]? = W.heap[j]?) : BookW B W' bb { S with tg := S.tg ++ [x] } mb clk es vbs svs tv' lv (upd f 9 tv') := by
  have hlt : ∀ {j : Nat} {o : Obj}, W.heap[j]? = some o → j < W.heap.size := fun h => (Array.getElem?_eq_some_iff.1 h).1
  have kb : ∀ (b : Nat) (o : Obj), W.heap[b]? = some o → (∀ c fz, o ≠ .cells c 53 fz) → (∀ c fz, o ≠ .cells c 72 fz) → W'.heap[b]? = W.heap[b]? := fun b o hb h1 h2 => by
    refine ko b (hlt hb) ?_ ?_
    · rintro rfl
      obtain ⟨c, fz, e⟩ := h.rf.kind
      rw [hb] at e
      exact h1 c fz (Option.some.inj e)
    · intro e
      obtain ⟨c, fz, e⟩ := h.tags.kind b e.symm
      rw [hb] at e
      exact h2 c fz (Option.some.inj e)
  exact { h with
    rf := rb
    f0 := by rw [upd_other _ _ (by decide)]; exact h.f0
    f1 := by rw [upd_other _ _ (by decide)]; exact h.f1
    fc := fun j hj => by rw [upd_other _ _ (by omega)]; exact h.fc j hj
    f9 := upd_same _ _ _
    f10 := by rw [upd_other _ _ (by decide)]; exact h.f10
    f11 := by rw [upd_other _ _ (by decide)]; exact h.f11
    map := (kb _ _ h.map (fun _ _ e => by cases e) (fun _ _ e => by cases e)).trans h.map
    ver := fun i h0 h1 h2 => (h.ver i h0 h1 h2).same (by obtain ⟨c, fz, e⟩ := (h.ver i h0 h1 h2).kind.1; exact kb _ _ e (fun _ _ e => by cases e) (fun _ _ e => by cases e)) (fun g hg => by obtain ⟨c, fz, e⟩ := (h.ver i h0 h1 h2).kind.2 g hg; exact kb _ _ e (fun _ _ e => by cases e) (fun _ _ e => by cases e)) (fun b c fz e => kb _ _ e (fun _ _ e => by cases e) (fun _ _ e => by cases e))
    tags := by
      rw [List.flatMap_append, List.length_append]
      simpa using rt
    tgl := by simp; omega
    log := Rw.same h.log fun g hg => by obtain ⟨c, fz, e⟩ := Rw.kind h.log g hg; exact kb _ _ e (fun _ _ e => by cases e) (fun _ _ e => by cases e) }
end
theorem tag_info : (Tryd.prog.info? 72).map (fun i => (i.zero, i.size, i.bytes)) = some (some (.agg #[.string ⟨#[]⟩, .int .i64 0, .int .i64 0, .int .i64 0, .int .i64 0, .int .i64 0, .int .i64 0, .int .i64 0]), 8, 72) := by kernel_rfl
theorem tag_slice : Tryd.prog.underlying 51 = some (.slice 72) := by kernel_rfl
theorem src_tag (s : ByteArray) (v0 v1 v2 v3 v4 v5 v6 : Int) (w : World) : Src Tryd.prog 8 51 (.slice (some ⟨w.heap.size, 0, none⟩) 1 1) 1 [.string s, .int .i64 v0, .int .i64 v1, .int .i64 v2, .int .i64 v3, .int .i64 v4, .int .i64 v5, .int .i64 v6]
    (w.alloc (.cells #[.string s, .int .i64 v0, .int .i64 v1, .int .i64 v2, .int .i64 v3, .int .i64 v4, .int .i64 v5, .int .i64 v6] 72)) := by
  refine Src.ofSlice _ tag_slice ⟨w.heap.size, 0, none⟩ 1 1 _ rfl (fun j u hj => ?_) (fun u hu => ?_)
  · match j, hj with
    | 0, hj => simp at hj; subst hj; simp [Addr.add, go_sem]
    | 1, hj => simp at hj; subst hj; simp [Addr.add, go_sem]
    | 2, hj => simp at hj; subst hj; simp [Addr.add, go_sem]
    | 3, hj => simp at hj; subst hj; simp [Addr.add, go_sem]
    | 4, hj => simp at hj; subst hj; simp [Addr.add, go_sem]
    | 5, hj => simp at hj; subst hj; simp [Addr.add, go_sem]
    | 6, hj => simp at hj; subst hj; simp [Addr.add, go_sem]
    | 7, hj => simp at hj; subst hj; simp [Addr.add, go_sem]
  · simp at hu
    rcases hu with rfl | rfl | rfl | rfl | rfl | rfl | rfl | rfl <;> rfl

/-- The seven versions of a tag. -/
def sev (v0 v1 v2 v3 v4 v5 v6 : Int) : Nat → Int := fun k => nth [v0, v1, v2, v3, v4, v5, v6] k
def tagT (s : ByteArray) (v0 v1 v2 v3 v4 v5 v6 : Int) : List UInt8 := ([116, 97, 103, 32] ++ s.data.toList) ++ numsL (nth [v0, v1, v2, v3, v4, v5, v6]) 7

theorem ix0 (a b c d e f g : Int) (w : World) : (Instr.index 40 (.agg #[.int .i64 a, .int .i64 b, .int .i64 c, .int .i64 d, .int .i64 e, .int .i64 f, .int .i64 g]) (.int .i64 0)).run Tryd.prog w = .ok (.int .i64 a) w := by kernel_rfl
theorem ix1 (a b c d e f g : Int) (w : World) : (Instr.index 40 (.agg #[.int .i64 a, .int .i64 b, .int .i64 c, .int .i64 d, .int .i64 e, .int .i64 f, .int .i64 g]) (.int .i64 1)).run Tryd.prog w = .ok (.int .i64 b) w := by kernel_rfl
theorem ix2 (a b c d e f g : Int) (w : World) : (Instr.index 40 (.agg #[.int .i64 a, .int .i64 b, .int .i64 c, .int .i64 d, .int .i64 e, .int .i64 f, .int .i64 g]) (.int .i64 2)).run Tryd.prog w = .ok (.int .i64 c) w := by kernel_rfl
theorem ix3 (a b c d e f g : Int) (w : World) : (Instr.index 40 (.agg #[.int .i64 a, .int .i64 b, .int .i64 c, .int .i64 d, .int .i64 e, .int .i64 f, .int .i64 g]) (.int .i64 3)).run Tryd.prog w = .ok (.int .i64 d) w := by kernel_rfl
theorem ix4 (a b c d e f g : Int) (w : World) : (Instr.index 40 (.agg #[.int .i64 a, .int .i64 b, .int .i64 c, .int .i64 d, .int .i64 e, .int .i64 f, .int .i64 g]) (.int .i64 4)).run Tryd.prog w = .ok (.int .i64 e) w := by kernel_rfl
theorem ix5 (a b c d e f g : Int) (w : World) : (Instr.index 40 (.agg #[.int .i64 a, .int .i64 b, .int .i64 c, .int .i64 d, .int .i64 e, .int .i64 f, .int .i64 g]) (.int .i64 5)).run Tryd.prog w = .ok (.int .i64 f) w := by kernel_rfl
theorem ix6 (a b c d e f g : Int) (w : World) : (Instr.index 40 (.agg #[.int .i64 a, .int .i64 b, .int .i64 c, .int .i64 d, .int .i64 e, .int .i64 f, .int .i64 g]) (.int .i64 6)).run Tryd.prog w = .ok (.int .i64 g) w := by kernel_rfl
attribute [local go_sem] ix0 ix1 ix2 ix3 ix4 ix5 ix6
theorem tag_end {B bb mb clk xb : Nat} {w2 w4 w5 : World} {S : Bk} {es : Array MapEntry} {vbs : List Nat} {svs : List Value} {tv lv v5 : Value} {f : Nat → Value} {vv : Nat → Int} (o : Obj) (s : ByteArray) (H : BookW B w2 bb S mb clk es vbs svs tv lv f)
    (X : RF w2 xb 40 7 (fun i => .int .i64 (vv i))) (B4 : Below w2.heap.size w2 w4) (hl : S.tg.length < 64) (H5 : Rw 72 8 B w5 v5 (S.tg.length + 1) (S.tg.flatMap tgC ++ tgC (s, vv))) (G5 : (w4.alloc o).grownBy w5 tv.ownBlock)
    (hne : some bb ≠ tv.ownBlock) :
    BookW B (w5.setCell ⟨bb, 9, none⟩ v5) bb { S with tg := S.tg ++ [(s, vv)] } mb clk es vbs svs v5 lv (upd f 9 v5) ∧ RF (w5.setCell ⟨bb, 9, none⟩ v5) xb 40 7 (fun i => .int .i64 (vv i)) ∧ Below B w2 (w5.setCell ⟨bb, 9, none⟩ v5) := by
  have hB := H.hbb
  have hlt := H.rf.lt
  have b5 : Below w2.heap.size w2 (w4.alloc o) := B4.alloc B4.size _
  have z5 := b5.size
  have k5 : ∀ j, j < w2.heap.size → some j ≠ tv.ownBlock → w5.heap[j]? = w2.heap[j]? := fun j hj h1 => (G5.block j (by omega) h1).trans (b5.block j hj)
  have hnx : ∀ g, v5.ownBlock = some g → g ≠ bb := by
    rintro g hg rfl
    obtain ⟨c, fz, e1⟩ := Rw.kind H5 g hg
    obtain ⟨c2, fz2, e2⟩ := H.rf.kind
    rw [k5 _ hlt hne, e2] at e1
    cases e1
  have hxb : xb ≠ bb := by
    rintro rfl
    obtain ⟨c, fz, e1⟩ := X.kind
    obtain ⟨c2, fz2, e2⟩ := H.rf.kind
    rw [e1] at e2
    cases e2
  have hxt : some xb ≠ tv.ownBlock := by
    intro e
    obtain ⟨c, fz, e1⟩ := H.tags.kind xb e.symm
    obtain ⟨c2, fz2, e2⟩ := X.kind
    rw [e1] at e2
    cases e2
  refine ⟨H.tagged (s, vv) v5 ((H.rf.of_block (k5 _ hlt hne)).upd 9 v5) (Rw.same H5 fun g hg => Below.heap_setCell _ _ _ _ (hnx g hg)) hl fun j hj h1 h2 => (Below.heap_setCell _ _ _ _ h1).trans (k5 j hj h2), ?_, ?_⟩
  · exact (X.of_block (k5 _ X.lt hxt)).setOther (a := ⟨bb, 9, none⟩) hxb v5
  · exact ((b5.mono (by omega)).trans (grown_below G5 (fun g hg => (H.tags.lt g hg).1) (by omega))).setCell (p := ⟨bb, 9, none⟩) hB _
theorem tag_mid {B bb mb clk : Nat} {w2 w4 w5 : World} {S : Bk} {es : Array MapEntry} {vbs : List Nat} {svs : List Value} {tv lv : Value} {f : Nat → Value} (o : Obj) (H : BookW B w2 bb S mb clk es vbs svs tv lv f) (B4 : Below w2.heap.size w2 w4) (G5 : (w4.alloc o).grownBy w5 tv.ownBlock) (hne : some bb ≠ tv.ownBlock) :
    w5.cell? ⟨bb, 9, none⟩ = some tv ∧ w5.frozen? ⟨bb, 9, none⟩ = false := by
  have hlt := H.rf.lt
  have b5 : Below w2.heap.size w2 (w4.alloc o) := B4.alloc B4.size _
  have z5 := b5.size
  have e : w5.heap[bb]? = w2.heap[bb]? := (G5.block bb (by omega) hne).trans (b5.block bb hlt)
  exact ⟨by rw [(H.rf.of_block e).cell (by omega), H.f9], (H.rf.of_block e).frozen (by omega)⟩
theorem box_nums {W : World} {xb n : Nat} {t : TypeId} {v : Nat → Int} (X : RF W xb t n (fun i => .int .i64 (v i))) (hb : ∀ k, k < n → -9223372036854775808 ≤ v k ∧ v k ≤ 9223372036854775807) : NumS W (.slice (some ⟨xb, 0, none⟩) n n) n v :=
  ⟨_, _, rfl, hb, fun h0 => ⟨xb, 0, rfl, fun k hk => by rw [Nat.zero_add, X.cell hk]⟩⟩

theorem sev_in {v0 v1 v2 v3 v4 v5 v6 : Int} (hb : ∀ x ∈ [v0, v1, v2, v3, v4, v5, v6], -9223372036854775808 ≤ x ∧ x ≤ 9223372036854775807) : ∀ k, k < 7 → -9223372036854775808 ≤ sev v0 v1 v2 v3 v4 v5 v6 k ∧ sev v0 v1 v2 v3 v4 v5 v6 k ≤ 9223372036854775807 := fun k hk => by
  have e : sev v0 v1 v2 v3 v4 v5 v6 k = [v0, v1, v2, v3, v4, v5, v6][k]'(by simpa using hk) := by
    unfold sev nth
    rw [List.getElem?_eq_getElem (by simpa using hk)]
    rfl
  rw [e]
  exact hb _ (List.getElem_mem _)
set_option maxRecDepth 100000 in
set_option maxHeartbeats 3200000 in
theorem Tag_ok (B bb : Nat) (s : ByteArray) (v0 v1 v2 v3 v4 v5 v6 : Int) (S : Bk) (w : World) (h : BookAt B w bb S) (hs : s.size ≤ 32) (hn : ∀ W, Calls Tryd.prog 27 #[.string s] W fun e w' => e = .returned (.bool true) ∧ Below W.heap.size W w')
    (hi : tagI S.tg s = -1) (hl : S.tg.length < 64) (hb : ∀ x ∈ [v0, v1, v2, v3, v4, v5, v6], -9223372036854775808 ≤ x ∧ x ≤ 9223372036854775807)
    (hc : ∀ k, k < 7 → ∀ W, Below w.heap.size w W → Calls Tryd.prog 29 #[.pointer (some ⟨bb, 0, none⟩), .int .i64 (k : Nat), .int .i64 (sev v0 v1 v2 v3 v4 v5 v6 k)] W fun e w' => e = .returned (.int .i64 0) ∧ W = w')
    (hlg : S.lg.length ≤ 100000000000) (hp : Pow B w) (ht : Tz B w) :
    Calls Tryd.prog 13 #[.pointer (some ⟨bb, 0, none⟩), .string s, .agg #[.int .i64 v0, .int .i64 v1, .int .i64 v2, .int .i64 v3, .int .i64 v4, .int .i64 v5, .int .i64 v6]] w fun e w' => e = .returned (.int .i64 0) ∧
      BookAt B w' bb (addL { S with tg := S.tg ++ [(s, sev v0 v1 v2 v3 v4 v5 v6)] } (tagT s v0 v1 v2 v3 v4 v5 v6)) ∧ Below B w w' := by
  obtain ⟨mb, clk, es, vbs, svs, tv, lv, f, h⟩ := h
  have HB : B ≤ w.heap.size := by have := h.rf.lt; have := h.hbb; omega
  have b0 : Below w.heap.size w (w.alloc (.cells #[.int .i64 v0, .int .i64 v1, .int .i64 v2, .int .i64 v3, .int .i64 v4, .int .i64 v5, .int .i64 v6] 40)) := (Below.refl _ _).alloc (Nat.le_refl _) _
  have BX : Hid (RF (w.alloc (.cells #[.int .i64 v0, .int .i64 v1, .int .i64 v2, .int .i64 v3, .int .i64 v4, .int .i64 v5, .int .i64 v6] 40)) w.heap.size 40 7 (fun i => .int .i64 (sev v0 v1 v2 v3 v4 v5 v6 i))) := Lib.hid (RF_new w _ _ 7 _ rfl (fun i hi => by
    match i, hi with
    | 0, _ => rfl
    | 1, _ => rfl
    | 2, _ => rfl
    | 3, _ => rfl
    | 4, _ => rfl
    | 5, _ => rfl
    | 6, _ => rfl))
  have z0 : (w.alloc (.cells #[.int .i64 v0, .int .i64 v1, .int .i64 v2, .int .i64 v3, .int .i64 v4, .int .i64 v5, .int .i64 v6] 40)).heap.size = w.heap.size + 1 := by simp
  have H := Lib.hid (h.below b0)
  have B0 := Lib.hid b0
  have HP := Lib.hid hp
  have HT := Lib.hid ht
  have HI := Lib.hid hi
  have HN := Lib.hid hn
  have HC := Lib.hid hc
  have HBV := Lib.hid hb
  have c0 := (h.below b0).rf.cell (i := 0) (by omega)
  rw [h.f0] at c0
  clear h hp ht hi hn hc hb b0
  go_enter Tryd.func13, Tryd.ntmps13
  go_wp2_with fail
  generalize (w.alloc (.cells #[.int .i64 v0, .int .i64 v1, .int .i64 v2, .int .i64 v3, .int .i64 v4, .int .i64 v5, .int .i64 v6] 40)) = W0 at *
  refine (isMade_yes bb _ c0).mono ?_
  rintro e w' ⟨rfl, rfl⟩
  go_wp2_with fail
  refine (HN.out _).mono ?_
  rintro e w1 ⟨rfl, b1⟩
  have B1 := Lib.hid (Below.up B0.out b1)
  have H1 := Lib.hid (H.out.below b1)
  have X1 := Lib.hid (BX.out.below b1)
  have z1 := b1.size
  have d0 := bc b1 c0
  have d9 := H1.out.rf.cell (i := 9) (by omega)
  rw [H1.out.f9] at d9
  clear b1 c0 HN H BX
  go_wp2_with fail
  refine (findTag_at bb tv S.tg s _ d0 d9 H1.out.tags.tagS H1.out.tgl).mono ?_
  rw [HI.out]
  rintro e w2 ⟨rfl, b2⟩
  have B2 := Lib.hid (Below.up B1.out b2)
  have H2 := Lib.hid (H1.out.below b2)
  have X2 := Lib.hid (X1.out.below b2)
  have z2 := b2.size
  clear b2 d0 d9 H1 X1 B1
  have q0 := X2.out.cell (i := 0) (by omega)
  have q1 := X2.out.cell (i := 1) (by omega)
  have q2 := X2.out.cell (i := 2) (by omega)
  have q3 := X2.out.cell (i := 3) (by omega)
  have q4 := X2.out.cell (i := 4) (by omega)
  have q5 := X2.out.cell (i := 5) (by omega)
  have q6 := X2.out.cell (i := 6) (by omega)
  simp only [sev, nth, List.getElem?_cons_zero, List.getElem?_cons_succ, Option.getD_some] at q0 q1 q2 q3 q4 q5 q6
  go_wp2_with fail
  have q9 := H2.out.rf.cell (i := 9) (by omega)
  rw [H2.out.f9] at q9
  have p9 := H2.out.rf.frozen (i := 9) (by omega)
  have NE : some bb ≠ tv.ownBlock := by
    intro e
    obtain ⟨c, fz, e1⟩ := H2.out.tags.kind bb e.symm
    obtain ⟨c2, fz2, e2⟩ := H2.out.rf.kind
    rw [e1] at e2
    cases e2
  have HNE := Lib.hid NE
  clear NE
  obtain ⟨ta, tc, rfl, _⟩ := H2.out.tags.form
  have hne64 : ((S.tg.length : Int) == 64) = false := by simp; omega
  have hlt := H2.out.rf.lt
  have hltx := X2.out.lt
  have M := Lib.hid (show ∀ w' : World, Below w2.heap.size w2 w' → w'.cell? ⟨bb, 9, none⟩ = some (.slice ta S.tg.length tc) ∧ w'.cell? ⟨w.heap.size, 0, none⟩ = some (.int .i64 v0) ∧ w'.cell? ⟨w.heap.size, 1, none⟩ = some (.int .i64 v1) ∧ w'.cell? ⟨w.heap.size, 2, none⟩ = some (.int .i64 v2) ∧ w'.cell? ⟨w.heap.size, 3, none⟩ = some (.int .i64 v3) ∧ w'.cell? ⟨w.heap.size, 4, none⟩ = some (.int .i64 v4) ∧ w'.cell? ⟨w.heap.size, 5, none⟩ = some (.int .i64 v5) ∧ w'.cell? ⟨w.heap.size, 6, none⟩ = some (.int .i64 v6)
    from fun w' h => ⟨bc h q9, bc h q0, bc h q1, bc h q2, bc h q3, bc h q4, bc h q5, bc h q6⟩)
  have D := Lib.hid (Below.drew (Below.refl w2.heap.size w2))
  have HSZ := Lib.hid hs
  have HTL := Lib.hid hl
  refine wp_loop_rounds 8 ?_
  have hk := HC.out 0 (by omega) _ B2.out
  simp only [sev, nth, List.getElem?_cons_zero, List.getElem?_cons_succ, Option.getD_some] at hk
  have K0 := Lib.hid hk
  clear hk
  rw [rounds_succ]
  go_wp2_with fail
  refine K0.out.mono ?_
  rintro e w' ⟨rfl, rfl⟩
  go_wp2_with fail
  have hk := HC.out 1 (by omega) _ B2.out
  simp only [sev, nth, List.getElem?_cons_zero, List.getElem?_cons_succ, Option.getD_some] at hk
  have K1 := Lib.hid hk
  clear hk
  rw [rounds_succ]
  go_wp2_with fail
  refine K1.out.mono ?_
  rintro e w' ⟨rfl, rfl⟩
  go_wp2_with fail
  have hk := HC.out 2 (by omega) _ B2.out
  simp only [sev, nth, List.getElem?_cons_zero, List.getElem?_cons_succ, Option.getD_some] at hk
  have K2 := Lib.hid hk
  clear hk
  rw [rounds_succ]
  go_wp2_with fail
  refine K2.out.mono ?_
  rintro e w' ⟨rfl, rfl⟩
  go_wp2_with fail
  have hk := HC.out 3 (by omega) _ B2.out
  simp only [sev, nth, List.getElem?_cons_zero, List.getElem?_cons_succ, Option.getD_some] at hk
  have K3 := Lib.hid hk
  clear hk
  rw [rounds_succ]
  go_wp2_with fail
  refine K3.out.mono ?_
  rintro e w' ⟨rfl, rfl⟩
  go_wp2_with fail
  have hk := HC.out 4 (by omega) _ B2.out
  simp only [sev, nth, List.getElem?_cons_zero, List.getElem?_cons_succ, Option.getD_some] at hk
  have K4 := Lib.hid hk
  clear hk
  rw [rounds_succ]
  go_wp2_with fail
  refine K4.out.mono ?_
  rintro e w' ⟨rfl, rfl⟩
  go_wp2_with fail
  have hk := HC.out 5 (by omega) _ B2.out
  simp only [sev, nth, List.getElem?_cons_zero, List.getElem?_cons_succ, Option.getD_some] at hk
  have K5 := Lib.hid hk
  clear hk
  rw [rounds_succ]
  go_wp2_with fail
  refine K5.out.mono ?_
  rintro e w' ⟨rfl, rfl⟩
  go_wp2_with fail
  have hk := HC.out 6 (by omega) _ B2.out
  simp only [sev, nth, List.getElem?_cons_zero, List.getElem?_cons_succ, Option.getD_some] at hk
  have K6 := Lib.hid hk
  clear hk
  rw [rounds_succ]
  go_wp2_with fail
  refine K6.out.mono ?_
  rintro e w' ⟨rfl, rfl⟩
  go_wp2_with fail
  rw [rounds_succ]
  go_wp2_with fail
  clear K0 K1 K2 K3 K4 K5 K6
  go_cut [39] from 39 to 51 (fun s0 W => s0 = .pointer (some ⟨bb, 0, none⟩) ∧ ∃ tv', Hid (BookW B W bb { S with tg := S.tg ++ [(s, sev v0 v1 v2 v3 v4 v5 v6)] } mb clk es vbs svs tv' lv (upd f 9 tv') ∧ RF W w.heap.size 40 7 (fun i => .int .i64 (sev v0 v1 v2 v3 v4 v5 v6 i)) ∧ Below B w2 W))
  case first =>
    rename_i hJ hK
    go_region_law
      (first
        | (rw [if_pos (by rfl)]; go_simp; go_at_call 30; ((with_reducible refine (clone_any s _ (Nat.le_trans HSZ.out (by decide))).mono ?_); rintro e w4 ⟨rfl, b4⟩; have B4 := Lib.hid (Below.up D.out b4); obtain ⟨r9, r0, r1, r2, r3, r4, r5, r6⟩ := M.out _ B4.out; have z4 := B4.out.size; have l4 : bb < w4.heap.size := (by omega); have n4 : bb ≠ w4.heap.size := (by omega); clear b4; dsimp only))
        | ((refine step_append_rw rfl _ _ _ _ (by rfl) _ _ tag_slice tag_info rfl (by decide) (by rfl) ((H2.out.tags.below B4.out).below ((Below.refl _ _).alloc (Nat.le_refl _) _)) _ (by rfl) 1 _ (src_tag s v0 v1 v2 v3 v4 v5 v6 _) (by have := HTL.out; unfold maxLen; omega) (by have := HTL.out; omega) (by simp; omega) ?_); intro v5 w5 h5 g5 l5; obtain ⟨a5, k5, e5, _⟩ := Rw.form h5; subst e5; have H5 := Lib.hid h5; have G5 := Lib.hid g5; obtain ⟨m9, n9⟩ := tag_mid _ H2.out B4.out G5.out HNE.out; clear h5 g5 l5))
    all_goals
      refine hK _ _ (Met.intro (hJ _ _ ?_))
      (repeat apply Exists.intro)
      refine ⟨?_, rfl⟩
      exact ⟨rfl, _, Lib.hid (tag_end _ s H2.out X2.out B4.out HTL.out H5.out G5.out HNE.out)⟩
  case rest =>
    obtain ⟨rfl, tv', HX⟩ := hcut
    generalize wc = w3 at *
    obtain ⟨tx, htx⟩ : ∃ tx : ByteArray, tx = (⟨#[116, 97, 103, 32]⟩ : ByteArray) ++ s := ⟨_, rfl⟩
    have qx : tx.size = 4 + s.size := by rw [htx, ByteArray.size_append]; rfl
    have hx := add_str _ s tx htx (by have := HSZ.out; omega)
    have HTX : Hid (tx.data.toList = [116, 97, 103, 32] ++ s.data.toList) := Lib.hid (by rw [htx, cat_size])
    have HQX : Hid (tx.size ≤ 1000) := Lib.hid (by have := HSZ.out; omega)
    clear htx qx
    have B3 := Lib.hid (((B2.out.mono HB).trans HX.out.2.2))
    go_wp2_with fail
    refine (record_any B bb S.sm 7 (upd f 9 tv') (fun _ => default) (sev v0 v1 v2 v3 v4 v5 v6) lv S.lg tx _ w3 HX.out.1.rf HX.out.1.hbb HX.out.1.f10 HX.out.1.f11 HX.out.1.sm HX.out.1.log hlg HQX.out (by decide) (box_nums HX.out.2.1 (sev_in HBV.out)) (HP.out.on B3.out) (HT.out.on B3.out)).mono ?_
    rintro e w4 ⟨rfl, lv', rf2, by2, bl2, ok2⟩
    have H4 := Lib.hid (HX.out.1.logged _ (sumN_lt _ _) lv' _ rf2 by2 ok2)
    have B4 := Lib.hid (B3.out.trans bl2)
    clear rf2 by2 bl2 ok2
    rw [HTX.out] at H4
    go_wp2_with fail
    go_ret
    exact ⟨rfl, ⟨_, _, _, _, _, _, _, _, H4.out⟩, B4.out⟩
end Go.Proofs.YtlegacllbohbmaaDoor
