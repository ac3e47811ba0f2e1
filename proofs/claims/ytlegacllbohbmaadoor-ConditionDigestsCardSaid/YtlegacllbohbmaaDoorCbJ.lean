/- Layer 4: Put. -/
import Derived.Test.YtlegacllbohbmaaDoorCbI
set_option linter.unusedVariables false
set_option linter.unusedSimpArgs false
namespace Go.Proofs.YtlegacllbohbmaaDoor
open Go.RowKit Go.Shelf

theorem int_info : (Tryd.prog.info? 3).map (fun i => (i.zero, i.size, i.bytes)) = some (some (.int .i64 0), 1, 8) := by kernel_rfl
theorem int_slice : Tryd.prog.underlying 64 = some (.slice 3) := by kernel_rfl
def inC (l : List Int) : List Value := l.map (.int .i64 ·)
/-- Numbers in a row of the call's own. -/
def In (B : Nat) (W : World) (v : Value) (l : List Int) : Prop := Rw 3 1 B W v l.length (inC l) ∧ ∀ x ∈ l, -9223372036854775808 ≤ x ∧ x ≤ 9223372036854775807
theorem In.below {B : Nat} {W W' : World} {v : Value} {l : List Int} (h : In B W v l) (k : Below W.heap.size W W') : In B W' v l := ⟨h.1.below k, h.2⟩
def nth (l : List Int) (i : Nat) : Int := (l[i]?).getD 0
theorem In.nums {B : Nat} {W : World} {v : Value} {l : List Int} (h : In B W v l) : NumS W v l.length (nth l) := by
  obtain ⟨h, hb⟩ := h
  have e : ∀ k (hk : k < l.length), nth l k = l[k] := fun k hk => by unfold nth; rw [List.getElem?_eq_getElem hk]; rfl
  rcases h.2 with ⟨rfl, h0⟩ | ⟨g, cap, f, rfl, hB, hf, hc, hm, hx⟩
  · exact ⟨none, 0, by rw [h0], fun k hk => by omega, fun h1 => by omega⟩
  · refine ⟨_, cap, rfl, fun k hk => by rw [e k hk]; exact hb _ (List.getElem_mem hk), fun h0 => ⟨g, 0, rfl, fun k hk => ?_⟩⟩
    have x1 := hx k (by omega)
    rw [Nat.zero_add, hf.cell (by omega), ← x1, e k hk]
    simp [inC, hk]
/-- Two numbers behind the others: their block is new. -/
theorem append_two {ops : Array Oper} {rest : List Oper} {o : Oper} {a : Act} {Q : Exit → Act → World → Prop} {W : World} (hgd : o.guard = none) (s y : Operand)
    (ho : o.op = .call { callee := .builtin .append, args := #[s, y], argTypes := #[64, 64] }) {B : Nat} {v : Value} {l : List Int} (p q : Int) (hp : -9223372036854775808 ≤ p ∧ p ≤ 9223372036854775807) (hq : -9223372036854775808 ≤ q ∧ q ≤ 9223372036854775807)
    (hs : a.eval s = v) (h : In B W v l) (hy : a.eval y = .slice (some ⟨W.heap.size, 0, none⟩) 2 2) (hl : l.length + 2 ≤ 1000000) (hB : B ≤ W.heap.size)
    (hK : ∀ v' w', In B w' v' (l ++ [p, q]) → Below B W w' → (∀ b, b < W.heap.size → some b ≠ v.ownBlock → w'.heap[b]? = W.heap[b]?) → wpList Tryd.prog ops Q rest (a.put o.dst v') w') :
    wpList Tryd.prog ops Q (o :: rest) a (W.alloc (.cells #[.int .i64 p, .int .i64 q] 3)) := by
  have hb0 : Below W.heap.size W (W.alloc (.cells #[.int .i64 p, .int .i64 q] 3)) := (Below.refl _ _).alloc (Nat.le_refl _) _
  refine wpList_append_rw (B := B) hgd s y _ _ ho (.int .i64 0) 8 int_slice int_info rfl (by decide) hs (h.1.below hb0) _ hy 2 [.int .i64 p, .int .i64 q]
    (Src.ofSlice _ int_slice ⟨W.heap.size, 0, none⟩ 2 2 _ rfl (fun j u hj => ?_) (fun u hu => ?_)) (by unfold maxLen; omega) (by omega) (by have := hb0.size; omega) fun v' w' h1 h2 h3 => hK v' w' ⟨?_, ?_⟩ ?_ ?_
  · match j, hj with
    | 0, hj => simp at hj; subst hj; simp [Addr.add, go_sem]
    | 1, hj => simp at hj; subst hj; simp [Addr.add, go_sem]
  · simp at hu
    rcases hu with rfl | rfl <;> rfl
  · have e : inC (l ++ [p, q]) = inC l ++ [.int .i64 p, .int .i64 q] := by simp [inC]
    rw [e, List.length_append]
    exact h1
  · intro x hx
    rcases List.mem_append.1 hx with hx | hx
    · exact h.2 x hx
    · simp at hx
      rcases hx with rfl | rfl
      · exact hp
      · exact hq
  · exact (hb0.mono hB).trans (grown_below h2 (fun g hg => (h.1.lt g hg).1) (by have := hb0.size; omega))
  · intro b hb hne
    rw [h2.block b (by have := hb0.size; omega) hne, hb0.block b hb]

def enN (l : Ents) : List Int := l.flatMap fun x => [x.1, x.2]
/-- What a line of a Put says. -/
def putN (k n T : Int) (l : Ents) : List Int := [k, n, T, (l.length : Int)] ++ enN l
def putT (k n T : Int) (l : Ents) : List UInt8 := [112, 117, 116] ++ numsL (nth (putN k n T l)) (putN k n T l).length
def setV (S : Bk) (i : Nat) (key : Int × Int) (x : Vr) : Bk := { S with vs := S.vs.set i (key, x) }
theorem enN_take (l : Ents) (j : Nat) (h : j < l.length) : enN (l.take (j + 1)) = enN (l.take j) ++ [(l[j]).1, (l[j]).2] := by
  rw [List.take_succ_eq_append_getElem h]
  unfold enN
  rw [List.flatMap_append]
  rfl
/-- A list that a call was given: older than the call's own, or in a row of entries. -/
def EnX (B : Nat) (W : World) (v : Value) (l : Ents) : Prop := EnS W v l ∧ ∀ b, v.ownBlock = some b → b < B ∨ ∃ c fz, W.heap[b]? = some (.cells c 36 fz)
theorem EnX.same {B : Nat} {W W' : World} {v : Value} {l : Ents} (h : EnX B W v l) (hl : 0 < l.length) (k1 : ∀ b, b < W.heap.size → b < B → W'.heap[b]? = W.heap[b]?) (k2 : ∀ (b : Nat) (c : Array Value) (fz : Nat × Nat), W.heap[b]? = some (.cells c 36 fz) → W'.heap[b]? = W.heap[b]?) : EnX B W' v l := by
  obtain ⟨⟨a, cap, rfl, hb, hx⟩, ho⟩ := h
  obtain ⟨b, off, rfl, hc⟩ := hx hl
  have hlt : b < W.heap.size := cell_lt (hc 0 hl).1
  have e : W'.heap[b]? = W.heap[b]? := by
    rcases ho b rfl with h | ⟨c, fz, h⟩
    · exact k1 b hlt h
    · exact k2 b c fz h
  refine ⟨⟨_, cap, rfl, hb, fun _ => ⟨b, off, rfl, fun j hj => ⟨(World.cell?_of_block (w := W) e).trans (hc j hj).1, (World.cell?_of_block (w := W) e).trans (hc j hj).2⟩⟩⟩, fun b' hb' => ?_⟩
  simp [Value.ownBlock] at hb'
  subst hb'
  rcases ho b rfl with h | ⟨c, fz, h⟩
  · exact .inl h
  · exact .inr ⟨c, fz, e.trans h⟩
theorem BookW.others {B bb mb clk : Nat} {W W' : World} {S : Bk} {es : Array MapEntry} {vbs : List Nat} {svs : List Value} {tv lv : Value} {f : Nat → Value} (h : BookW B W bb S mb clk es vbs svs tv lv f) (k : Lib.OthersKept 3 none W W') : BookW B W' bb S mb clk es vbs svs tv lv f := by
  have kb : ∀ (b : Nat) (c : Array Value) (t : TypeId) (fz : Nat × Nat), W.heap[b]? = some (.cells c t fz) → t ≠ 3 → W'.heap[b]? = W.heap[b]? := fun b c t fz hb ht => (k b _ hb (by simp) (fun c' fz' e => ht (by cases e; rfl))).trans hb.symm
  exact { h with
    rf := h.rf.of_block (by obtain ⟨c, fz, e⟩ := h.rf.kind; exact kb _ _ _ _ e (by decide))
    map := k _ _ h.map (by simp) (fun c fz e => by cases e)
    ver := fun i h0 h1 h2 => (h.ver i h0 h1 h2).same (by obtain ⟨c, fz, e⟩ := (h.ver i h0 h1 h2).kind.1; exact kb _ _ _ _ e (by decide)) (fun g hg => by obtain ⟨c, fz, e⟩ := (h.ver i h0 h1 h2).kind.2 g hg; exact kb _ _ _ _ e (by decide)) (fun b c fz e => kb _ _ _ _ e (by decide))
    tags := h.tags.same fun g hg => by obtain ⟨c, fz, e⟩ := h.tags.kind g hg; exact kb _ _ _ _ e (by decide)
    log := Rw.same h.log fun g hg => by obtain ⟨c, fz, e⟩ := Rw.kind h.log g hg; exact kb _ _ _ _ e (by decide) }
theorem enN_len (l : Ents) : (enN l).length = 2 * l.length := by
  induction l with
  | nil => rfl
  | cons x l ih => simp only [enN, List.flatMap_cons, List.length_append, List.length_cons, List.length_nil] at ih ⊢; omega

set_option maxRecDepth 100000 in
set_option maxHeartbeats 3200000 in
theorem Put_end (B bb mb clk i vb : Nat) (k n T : Int) (S : Bk) (x : Vr) (es : Array MapEntry) (vbs : List Nat) (svs : List Value) (tv lv sv v : Value) (l : Ents) (f : Nat → Value) (w : World) (h : BookW B w bb S mb clk es vbs svs tv lv f)
    (hk : inB k 0 6 = true) (hT : inB T 0 1099511627776 = true) (hl : listB l = true) (hv : EnX B w v l) (hf : fnd S.vs k n = some i) (hi : S.vs[i]? = some ((k, n), x)) (hvb : vbs[i]? = some vb) (hsv : svs[i]? = some sv) (hx : x.cl = false) (hlt : ∀ y ∈ x.sp, y.1 < T) (h64 : x.sp.length < 64)
    (hn : -9223372036854775808 ≤ n ∧ n ≤ 9223372036854775807) (hlg : S.lg.length ≤ 100000000000) (hp : Pow B w) (ht : Tz B w) :
    Calls Tryd.prog 11 #[.pointer (some ⟨bb, 0, none⟩), .int .i64 k, .int .i64 n, .int .i64 T, v] w fun e w' => e = .returned (.int .i64 0) ∧
      BookAt B w' bb (addL (setV S i (k, n) ⟨false, x.sp ++ [(T, l)]⟩) (putT k n T l)) ∧ Below B w w' := by
  have H := Lib.hid h
  have HP := Lib.hid hp
  have HT := Lib.hid ht
  have HI := Lib.hid hi
  have HVB := Lib.hid hvb
  have HSV := Lib.hid hsv
  have HLT := Lib.hid hlt
  have HK := Lib.hid hk
  have HTT := Lib.hid hT
  have HLL := Lib.hid hl
  have HV := Lib.hid hv
  have HX := Lib.hid hx
  have HF := Lib.hid hf
  have HB : B ≤ w.heap.size := by have := h.rf.lt; have := h.hbb; omega
  have c0 := h.rf.cell (i := 0) (by omega)
  rw [h.f0] at c0
  have c1 := h.rf.cell (i := 1) (by omega)
  rw [h.f1] at c1
  have V0 : Hid (VerAt B w vb sv x) := Lib.hid (by
    obtain ⟨a, ha⟩ := List.getElem?_eq_some_iff.1 hi
    obtain ⟨b, hb⟩ := List.getElem?_eq_some_iff.1 hvb
    obtain ⟨c, hc⟩ := List.getElem?_eq_some_iff.1 hsv
    have := h.ver i a b c
    rwa [ha, hb, hc] at this)
  have hlen : l.length ≤ 256 := by
    unfold listB at hl
    rw [Bool.and_eq_true, decide_eq_true_iff] at hl
    exact hl.1
  obtain ⟨k0, k1⟩ := inB_true.1 hk
  obtain ⟨t0, t1⟩ := inB_true.1 hT
  obtain ⟨va, vc, rfl, hvb2, _⟩ := id hv.1
  have HQ := Lib.hid hvb2
  clear h hp ht hi hvb hsv hlt hk hT hl hv hx hf hvb2
  go_enter Tryd.func11, Tryd.ntmps11
  go_wp2_with fail
  refine (isMade_yes bb _ c0).mono ?_
  rintro e w' ⟨rfl, rfl⟩
  go_wp2_with fail
  refine (isKind_any _ _).mono ?_
  rw [HK.out]
  rintro e w' ⟨rfl, rfl⟩
  go_wp2_with fail
  refine (isTime_any _ _).mono ?_
  rw [HTT.out]
  rintro e w' ⟨rfl, rfl⟩
  go_wp2_with fail
  refine (isList_any _ l _ HV.out.1).mono ?_
  rw [HLL.out]
  rintro e w1 ⟨rfl, b1⟩
  have B1 := Lib.hid b1
  have W1 := Lib.hid (H.out.below b1)
  have V1 := Lib.hid (V0.out.same (b1.block _ (by obtain ⟨c, fz, e⟩ := V0.out.kind.1; exact (Array.getElem?_eq_some_iff.1 e).1)) (fun g hg => b1.block _ (by obtain ⟨c, fz, e⟩ := V0.out.kind.2 g hg; exact (Array.getElem?_eq_some_iff.1 e).1)) (fun b c fz e => b1.block _ (Array.getElem?_eq_some_iff.1 e).1))
  have d0 := bc b1 c0
  have d1 := bc b1 c1
  have L1 := Lib.hid (HV.out.1.below b1)
  have cv : w1.cell? ⟨vb, 0, none⟩ = some (.bool false) := by
    obtain ⟨_, ⟨g, hg, g0, _⟩, _⟩ := V1.out
    rw [hg.cell (by omega), g0, HX.out]
  clear b1 c0 c1
  go_wp2_with fail
  refine (findOpen_at bb mb clk es S.vs vbs k n i vb false w1 d0 d1 W1.out.map W1.out.mi HF.out HVB.out cv).mono ?_
  rintro e w' ⟨rfl, rfl⟩
  go_wp2_with fail
  refine (copyOf_any _ l _ L1.out (by omega)).mono ?_
  rintro e w2 ⟨cl, rfl, hcl, b2, _⟩
  obtain ⟨ca, cn, cc, rfl⟩ := hcl.form
  have B2 := Lib.hid b2
  have W2 := Lib.hid (W1.out.below b2)
  have V2 := Lib.hid (V1.out.same (b2.block _ (by obtain ⟨c, fz, e⟩ := V1.out.kind.1; exact (Array.getElem?_eq_some_iff.1 e).1)) (fun g hg => b2.block _ (by obtain ⟨c, fz, e⟩ := V1.out.kind.2 g hg; exact (Array.getElem?_eq_some_iff.1 e).1)) (fun b c fz e => b2.block _ (Array.getElem?_eq_some_iff.1 e).1))
  have L2 := Lib.hid (L1.out.below b2)
  have C2 := Lib.hid hcl
  clear b2 hcl d0 d1 cv
  obtain ⟨hvbB, ⟨g, hg, g0, g1⟩, hsp⟩ := id V2.out
  have CP := Lib.hid (put_end B vb sv x.sp T (.slice ca cn cc) l g w2 hvbB hg g1 hsp C2.out HLT.out ⟨t0, t1⟩ h64)
  have HG := Lib.hid hg
  have HG0 := Lib.hid g0
  clear hg g0 g1 hsp
  go_wp2_with fail
  refine CP.out.mono ?_
  rintro e w3 ⟨rfl, sv', r3, s3, b3, u3, l3⟩
  have W3 := Lib.hid (W2.out.turned i vb (k, n) x ⟨false, x.sp ++ [(T, l)]⟩ sv sv' HI.out HVB.out HSV.out ⟨hvbB, ⟨_, r3, by rw [upd_other _ _ (by decide), HG0.out, HX.out], upd_same _ _ _⟩, s3⟩ u3 l3)
  have z1 := B1.out.size
  have z2 := B2.out.size
  have B3 : Hid (Below B w w3) := Lib.hid (((B1.out.mono HB).trans (B2.out.mono (by omega))).trans b3)
  have z3 := b3.size
  have X3 : Hid (0 < l.length → EnX B w3 (.slice va l.length vc) l) := Lib.hid fun h0 => HV.out.same h0 (fun b hb hbB => B3.out.block b hbB) (fun b c fz hb => by
    have e1 : w2.heap[b]? = w.heap[b]? := (B2.out.block b (by have := (Array.getElem?_eq_some_iff.1 hb).1; omega)).trans (B1.out.block b (Array.getElem?_eq_some_iff.1 hb).1)
    refine (u3 b (by have := (Array.getElem?_eq_some_iff.1 hb).1; omega) ?_ ?_).trans e1
    · rintro rfl
      obtain ⟨c2, fz2, e2⟩ := HG.out.kind
      rw [e1, hb] at e2
      cases e2
    · intro e3
      obtain ⟨c2, fz2, e2⟩ := V2.out.kind.2 b e3.symm
      rw [e1, hb] at e2
      cases e2)
  clear r3 s3 b3 u3 l3 CP HG HG0 C2 L1 L2 V1 V2 W1 W2 HV H V0
  have IN0 : Hid (In B (w3.alloc (.cells #[.int .i64 k, .int .i64 n, .int .i64 T, .int .i64 l.length] 3)) (.slice (some ⟨w3.heap.size, 0, none⟩) 4 4) ([k, n, T, (l.length : Int)] ++ enN (l.take 0))) := Lib.hid (by
    refine ⟨⟨rfl, .inr ⟨w3.heap.size, 4, fun i => ((#[.int .i64 k, .int .i64 n, .int .i64 T, .int .i64 l.length] : Array Value)[i]?).getD default, rfl, by omega, RF_new w3 _ _ 4 _ rfl (fun i hi => by rw [Array.getElem?_eq_getElem (by exact hi)]; rfl), Nat.le_refl _, by unfold maxLen; omega, fun j hj => ?_⟩⟩, ?_⟩
    · match j, hj with
      | 0, _ => rfl
      | 1, _ => rfl
      | 2, _ => rfl
      | 3, _ => rfl
    · intro y hy
      simp [enN] at hy
      rcases hy with rfl | rfl | rfl | rfl <;> omega)
  have OK0 : Hid (Lib.OthersKept 3 none w3 (w3.alloc (.cells #[.int .i64 k, .int .i64 n, .int .i64 T, .int .i64 l.length] 3))) := Lib.hid ((Lib.OthersKept.refl _ _ _).alloc _)
  have BL0 : Hid (Below B w (w3.alloc (.cells #[.int .i64 k, .int .i64 n, .int .i64 T, .int .i64 l.length] 3))) := Lib.hid (B3.out.alloc (by omega) _)
  go_wp2_with fail
  go_loopw [13, 56] (fun nv i wr => ∃ j : Nat, j ≤ l.length ∧ i = .int .i64 j ∧ Hid (In B wr nv ([k, n, T, (l.length : Int)] ++ enN (l.take j))) ∧ Hid (Lib.OthersKept 3 none w3 wr) ∧ Hid (Below B w wr)) (fun _ i _ => l.length - (intOf i).toNat)
  case atStart => exact ⟨0, Nat.zero_le _, rfl, IN0, OK0, BL0⟩
  case round =>
    clear IN0 OK0 BL0
    obtain ⟨j, hj, rfl, HIN, OK, BL⟩ := hrel
    have zr := BL.out.size
    by_cases hlt : j < l.length
    · obtain ⟨⟨a', cap', e0, _, hcc⟩, _⟩ := (X3.out (by omega)).same (W' := wr) (by omega) (fun b hb hbB => (BL.out.block b hbB).trans (B3.out.block b hbB).symm) (fun b c fz hb => (OK.out b _ hb (by simp) (fun c' fz' e => by cases e)).trans hb.symm)
      cases e0
      obtain ⟨b, off, rfl, hcell⟩ := hcc (by omega)
      obtain ⟨c1, c2⟩ := hcell j hlt
      have HD := Lib.hid (enN_take l j hlt)
      obtain ⟨p1, q1⟩ := HQ.out l[j] (List.getElem_mem hlt)
      clear hcc hcell
      obtain ⟨⟨p, q⟩, hpq⟩ : ∃ x, x = l[j] := ⟨_, rfl⟩
      rw [← hpq] at c1 c2 p1 q1 HD
      simp only at c1 c2 p1 q1
      have HPQ := Lib.hid hpq
      clear hpq
      rw [show off + 2 * j = off + j * 2 by omega] at c1 c2
      have b4 : Below wr.heap.size wr (wr.alloc (.cells #[.int .i64 p, .int .i64 q] 36)) := (Below.refl _ _).alloc (Nat.le_refl _) _
      have IN4 := Lib.hid (HIN.out.below b4)
      have z4 : (wr.alloc (.cells #[.int .i64 p, .int .i64 q] 36)).heap.size = wr.heap.size + 1 := by simp
      have B4 := Lib.hid b4
      have hnl : ([k, n, T, (l.length : Int)] ++ enN (l.take j)).length + 2 ≤ 1000000 := by
        rw [List.length_append, enN_len, List.length_take]
        simp
        omega
      clear b4
      go_wp2_with (at_builtin; refine append_two (W := wr.alloc (.cells #[.int .i64 p, .int .i64 q] 36)) rfl _ _ rfl p q p1 q1 rfl IN4.out (Eq.trans (by rfl) (congrArg (fun h => Value.slice (some ⟨h, 0, none⟩) 2 2) z4.symm)) hnl (by omega) ?_)
      intro v5 w5 h5 b5 k5
      have OK5 : Hid (Lib.OthersKept 3 none w3 w5) := Lib.hid (fun b o hb hn ht => by
        have e1 := OK.out b o hb hn ht
        have hbl : b < wr.heap.size := (Array.getElem?_eq_some_iff.1 e1).1
        refine (k5 b (by omega) ?_).trans ((B4.out.block b hbl).trans e1)
        intro e
        obtain ⟨c', fz, e2⟩ := IN4.out.1.kind b e.symm
        rw [B4.out.block b hbl, e1] at e2
        exact ht c' fz (Option.some.inj e2))
      have BL5 : Hid (Below B w w5) := Lib.hid ((BL.out.alloc (by omega) _).trans b5)
      have IN5 : Hid (In B w5 v5 ([k, n, T, (l.length : Int)] ++ enN (l.take (j + 1)))) := Lib.hid (by
        rw [HD.out, ← List.append_assoc]
        exact h5)
      clear h5 b5 k5 IN4 B4 c1 c2
      go_wp2_with fail
      go_roundw
      case rel => exact ⟨j + 1, by omega, by go_num, IN5, OK5, BL5⟩
      case measure => simp [intOf]; omega
    · obtain rfl : j = l.length := by omega
      have HN5 : Hid (In B wr _ (putN k n T l)) := Lib.hid (by
        have := HIN.out
        rw [List.take_of_length_le (Nat.le_refl _)] at this
        exact this)
      have W5 := Lib.hid (W3.out.others OK.out)
      have hnn : (putN k n T l).length ≤ 1000 := by
        unfold putN
        rw [List.length_append, enN_len]
        simp
        omega
      clear HIN W3 X3 OK
      go_wp2_with fail
      refine (record_any B bb S.sm (putN k n T l).length f (fun _ => default) (nth (putN k n T l)) lv S.lg ⟨#[112, 117, 116]⟩ _ wr W5.out.rf W5.out.hbb W5.out.f10 W5.out.f11 W5.out.sm W5.out.log hlg (by decide) hnn HN5.out.nums (HP.out.on BL.out) (HT.out.on BL.out)).mono ?_
      rintro e w6 ⟨rfl, lv', rf6, by6, bl6, ok6⟩
      have W6 := Lib.hid (W5.out.logged _ (sumN_lt _ _) lv' _ rf6 by6 ok6)
      have B6 := Lib.hid (BL.out.trans bl6)
      clear rf6 by6 bl6 ok6 W5 HN5
      go_wp2_with fail
      go_ret
      exact ⟨rfl, ⟨_, _, _, _, _, _, _, _, W6.out⟩, B6.out⟩
end Go.Proofs.YtlegacllbohbmaaDoor
