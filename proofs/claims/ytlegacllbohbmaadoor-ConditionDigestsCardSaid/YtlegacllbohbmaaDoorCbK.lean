/- Layer 4: Close; Put at a closed version. -/
import Derived.Test.YtlegacllbohbmaaDoorCbJ
set_option linter.unusedVariables false
set_option linter.unusedSimpArgs false
namespace Go.Proofs.YtlegacllbohbmaaDoor
open Go.RowKit Go.Shelf

theorem BookW.at {B bb mb clk : Nat} {W : World} {S : Bk} {es : Array MapEntry} {vbs : List Nat} {svs : List Value} {tv lv : Value} {f : Nat → Value} (h : BookW B W bb S mb clk es vbs svs tv lv f) {i : Nat} {key : Int × Int} {x : Vr} (hi : S.vs[i]? = some (key, x)) :
    ∃ vb sv, vbs[i]? = some vb ∧ svs[i]? = some sv ∧ VerAt B W vb sv x := by
  obtain ⟨a, ha⟩ := List.getElem?_eq_some_iff.1 hi
  have b : i < vbs.length := by rw [h.mi.1]; exact a
  have c : i < svs.length := by rw [h.svl]; exact a
  have := h.ver i a b c
  rw [ha] at this
  exact ⟨vbs[i], svs[i], List.getElem?_eq_getElem b, List.getElem?_eq_getElem c, this⟩
theorem VerAt.below {B : Nat} {W W' : World} {vb : Nat} {sv : Value} {x : Vr} (h : VerAt B W vb sv x) (k : Below W.heap.size W W') : VerAt B W' vb sv x :=
  h.same (k.block _ (by obtain ⟨c, fz, e⟩ := h.kind.1; exact (Array.getElem?_eq_some_iff.1 e).1)) (fun g hg => k.block _ (by obtain ⟨c, fz, e⟩ := h.kind.2 g hg; exact (Array.getElem?_eq_some_iff.1 e).1)) (fun b c fz e => k.block _ (Array.getElem?_eq_some_iff.1 e).1)
/-- The version's cells behind closing it. -/
theorem VerAt.closed {B : Nat} {W : World} {vb : Nat} {sv : Value} {x : Vr} (h : VerAt B W vb sv x) : VerAt B (W.setCell ⟨vb, 0, none⟩ (.bool true)) vb sv ⟨true, x.sp⟩ ∧ But2 vb sv.ownBlock W (W.setCell ⟨vb, 0, none⟩ (.bool true)) := by
  have hk := h.kind
  obtain ⟨hb, ⟨f, hf, h0, h1⟩, ls, hl, hr, hq, he⟩ := h
  refine ⟨⟨hb, ⟨_, hf.upd 0 (.bool true), upd_same _ _ _, by rw [upd_other _ _ (by decide)]; exact h1⟩, ls, hl, hr.same fun g hg => Below.heap_setCell _ _ _ _ ?_, hq, fun i h h' => (he i h h').same fun b c fz e => Below.heap_setCell _ _ _ _ ?_⟩, fun k hk n1 n2 => Below.heap_setCell _ _ _ _ n1⟩
  · rintro rfl
    obtain ⟨c, fz, e1⟩ := hr.kind g hg
    obtain ⟨c2, fz2, e2⟩ := hf.kind
    rw [e1] at e2
    cases e2
  · rintro rfl
    obtain ⟨c2, fz2, e2⟩ := hf.kind
    rw [e] at e2
    cases e2

theorem nums_lit (w : World) (l : List Int) (hb : ∀ x ∈ l, -9223372036854775808 ≤ x ∧ x ≤ 9223372036854775807) : NumS (w.alloc (.cells (l.map (Value.int .i64 ·)).toArray 3)) (.slice (some ⟨w.heap.size, 0, none⟩) l.length l.length) l.length (nth l) := by
  have e : ∀ k (hk : k < l.length), nth l k = l[k] := fun k hk => by unfold nth; rw [List.getElem?_eq_getElem hk]; rfl
  refine ⟨_, _, rfl, fun k hk => by rw [e k hk]; exact hb _ (List.getElem_mem hk), fun h0 => ⟨w.heap.size, 0, rfl, fun k hk => ?_⟩⟩
  rw [Nat.zero_add, e k hk]
  have h := _root_.Go.heap_alloc_new w (.cells (l.map (Value.int .i64 ·)).toArray 3)
  unfold World.cell?
  show (match (w.alloc (.cells (l.map (Value.int .i64 ·)).toArray 3)).heap[w.heap.size]? with | some (.cells c _ _) => c[k]? | _ => none) = _
  rw [h]
  simp [hk]
theorem record_two (B bb : Nat) (a b : Int) (S : Bk) (x : ByteArray) (w : World) (h : BookAt B w bb S) (hx : x.size ≤ 1000) (ha : -9223372036854775808 ≤ a ∧ a ≤ 9223372036854775807) (hb : -9223372036854775808 ≤ b ∧ b ≤ 9223372036854775807) (hlg : S.lg.length ≤ 100000000000) (hp : Pow B w) (ht : Tz B w) :
    Calls Tryd.prog 21 #[.pointer (some ⟨bb, 0, none⟩), .string x, .slice (some ⟨w.heap.size, 0, none⟩) 2 2] (w.alloc (.cells #[.int .i64 a, .int .i64 b] 3)) fun e w' => e = .returned (.tuple #[]) ∧
      BookAt B w' bb (addL S (x.data.toList ++ numsL (nth [a, b]) 2)) ∧ Below B w w' := by
  obtain ⟨mb, clk, es, vbs, svs, tv, lv, f, h⟩ := h
  have hB : B ≤ w.heap.size := by have := h.rf.lt; have := h.hbb; omega
  have b1 : Below w.heap.size w (w.alloc (.cells #[.int .i64 a, .int .i64 b] 3)) := (Below.refl _ _).alloc (Nat.le_refl _) _
  have h1 := h.below b1
  have bB := b1.mono hB
  refine (record_any B bb S.sm 2 f (fun _ => default) (nth [a, b]) lv S.lg x _ _ h1.rf h1.hbb h1.f10 h1.f11 h1.sm h1.log hlg hx (by decide) (nums_lit w [a, b] (fun y hy => by
    simp at hy
    rcases hy with rfl | rfl
    · exact ha
    · exact hb)) (hp.on bB) (ht.on bB)).mono ?_
  rintro e w2 ⟨rfl, lv', rf2, by2, bl2, ok2⟩
  exact ⟨rfl, ⟨_, _, _, _, _, _, _, _, h1.logged _ (sumN_lt _ _) lv' _ rf2 by2 ok2⟩, bB.trans bl2⟩
def closeT (k n : Int) : List UInt8 := [99, 108, 111, 115, 101] ++ numsL (nth [k, n]) 2
set_option maxRecDepth 100000 in
set_option maxHeartbeats 1600000 in
theorem Close_open (B bb i : Nat) (k n : Int) (S : Bk) (x : Vr) (w : World) (h : BookAt B w bb S) (hk : inB k 0 6 = true) (hf : fnd S.vs k n = some i) (hi : S.vs[i]? = some ((k, n), x)) (hx : x.cl = false)
    (hn : -9223372036854775808 ≤ n ∧ n ≤ 9223372036854775807) (hlg : S.lg.length ≤ 100000000000) (hp : Pow B w) (ht : Tz B w) :
    Calls Tryd.prog 12 #[.pointer (some ⟨bb, 0, none⟩), .int .i64 k, .int .i64 n] w fun e w' => e = .returned (.int .i64 0) ∧
      BookAt B w' bb (addL (setV S i (k, n) ⟨true, x.sp⟩) (closeT k n)) ∧ Below B w w' := by
  obtain ⟨mb, clk, es, vbs, svs, tv, lv, f, h⟩ := h
  obtain ⟨vb, sv, hvb, hsv, hV⟩ := h.at hi
  have H := Lib.hid h
  have HP := Lib.hid hp
  have HT := Lib.hid ht
  have HI := Lib.hid hi
  have HVB := Lib.hid hvb
  have HSV := Lib.hid hsv
  have HK := Lib.hid hk
  have HX := Lib.hid hx
  have HF := Lib.hid hf
  have HV := Lib.hid hV
  have HB : B ≤ w.heap.size := by have := h.rf.lt; have := h.hbb; omega
  have c0 := h.rf.cell (i := 0) (by omega)
  rw [h.f0] at c0
  have c1 := h.rf.cell (i := 1) (by omega)
  rw [h.f1] at c1
  obtain ⟨k0, k1⟩ := inB_true.1 hk
  have cv : w.cell? ⟨vb, 0, none⟩ = some (.bool false) := by
    obtain ⟨_, ⟨g, hg, g0, _⟩, _⟩ := hV
    rw [hg.cell (by omega), g0, hx]
  have fv : w.frozen? ⟨vb, 0, none⟩ = false := by
    obtain ⟨_, ⟨g, hg, g0, _⟩, _⟩ := hV
    exact hg.frozen (by omega)
  clear h hp ht hi hvb hsv hk hx hf hV
  go_enter Tryd.func12, Tryd.ntmps12
  go_wp2_with fail
  refine (isMade_yes bb _ c0).mono ?_
  rintro e w' ⟨rfl, rfl⟩
  go_wp2_with fail
  refine (isKind_any _ _).mono ?_
  rw [HK.out]
  rintro e w' ⟨rfl, rfl⟩
  go_wp2_with fail
  refine (findOpen_at bb mb clk es S.vs vbs k n i vb false w c0 c1 H.out.map H.out.mi HF.out HVB.out cv).mono ?_
  rintro e w' ⟨rfl, rfl⟩
  have V1 := Lib.hid HV.out.closed
  have W1 := Lib.hid (H.out.turned i vb (k, n) x ⟨true, x.sp⟩ sv sv HI.out HVB.out HSV.out V1.out.1 V1.out.2 (.inl rfl))
  have B1 : Hid (Below B w (w.setCell ⟨vb, 0, none⟩ (.bool true))) := Lib.hid ((Below.refl _ _).setCell (p := ⟨vb, 0, none⟩) HV.out.1 _)
  have z1 : (w.setCell ⟨vb, 0, none⟩ (.bool true)).heap.size = w.heap.size := by simp
  go_wp2_with fail
  clear c0 c1 cv fv V1
  generalize (w.setCell ⟨vb, 0, none⟩ (.bool true)) = w1 at *
  rw [← z1]
  refine (record_two B bb k n _ ⟨#[99, 108, 111, 115, 101]⟩ w1 ⟨_, _, _, _, _, _, _, _, W1.out⟩ (by decide) (by omega) hn hlg (HP.out.on B1.out) (HT.out.on B1.out)).mono ?_
  rintro e w2 ⟨rfl, h2, b2⟩
  have H2 := Lib.hid h2
  have B2 := Lib.hid (B1.out.trans b2)
  clear h2 b2
  go_wp2_with fail
  go_ret
  exact ⟨rfl, H2.out, B2.out⟩

set_option maxRecDepth 100000 in
set_option maxHeartbeats 1600000 in
theorem Put_closed (B bb i : Nat) (k n T : Int) (S : Bk) (x : Vr) (v : Value) (l : Ents) (w : World) (h : BookAt B w bb S) (hk : inB k 0 6 = true) (hT : inB T 0 1099511627776 = true) (hl : listB l = true) (hv : EnS w v l) (hf : fnd S.vs k n = some i) (hi : S.vs[i]? = some ((k, n), x)) (hx : x.cl = true) :
    Calls Tryd.prog 11 #[.pointer (some ⟨bb, 0, none⟩), .int .i64 k, .int .i64 n, .int .i64 T, v] w fun e w' => e = .returned (.int .i64 9) ∧ Below w.heap.size w w' := by
  obtain ⟨mb, clk, es, vbs, svs, tv, lv, f, h⟩ := h
  obtain ⟨vb, sv, hvb, hsv, hV⟩ := h.at hi
  have HVB := Lib.hid hvb
  have HK := Lib.hid hk
  have HTT := Lib.hid hT
  have HLL := Lib.hid hl
  have HV := Lib.hid hv
  have HF := Lib.hid hf
  have H := Lib.hid h
  have c0 := h.rf.cell (i := 0) (by omega)
  rw [h.f0] at c0
  have c1 := h.rf.cell (i := 1) (by omega)
  rw [h.f1] at c1
  have cv : w.cell? ⟨vb, 0, none⟩ = some (.bool true) := by
    obtain ⟨_, ⟨g, hg, g0, _⟩, _⟩ := hV
    rw [hg.cell (by omega), g0, hx]
  obtain ⟨k0, k1⟩ := inB_true.1 hk
  obtain ⟨t0, t1⟩ := inB_true.1 hT
  obtain ⟨va, vc, rfl, _, _⟩ := id hv
  clear h hi hvb hsv hk hT hl hv hf hx hV
  go_enter Tryd.func11, Tryd.ntmps11
  go_wp2_with fail
  refine (isMade_yes bb _ c0).mono ?_
  rintro e w' ⟨rfl, rfl⟩
  go_wp2_with fail
  refine (isKind_any _ _).mono ?_
  rw [HK.out]
  rintro e w' ⟨rfl, rfl⟩
  go_wp2_with fail
  refine (isTime_any _ _).mono ?_
  rw [HTT.out]
  rintro e w' ⟨rfl, rfl⟩
  go_wp2_with fail
  refine (isList_any _ l _ HV.out).mono ?_
  rw [HLL.out]
  rintro e w1 ⟨rfl, b1⟩
  have B1 := Lib.hid b1
  have W1 := Lib.hid (H.out.below b1)
  have d0 := bc b1 c0
  have d1 := bc b1 c1
  have dv := bc b1 cv
  clear b1 c0 c1 cv
  go_wp2_with fail
  refine (findOpen_at bb mb clk es S.vs vbs k n i vb true w1 d0 d1 W1.out.map W1.out.mi HF.out HVB.out dv).mono ?_
  rintro e w' ⟨rfl, rfl⟩
  go_wp2_with fail
  go_ret
  exact ⟨rfl, B1.out⟩
end Go.Proofs.YtlegacllbohbmaaDoor
