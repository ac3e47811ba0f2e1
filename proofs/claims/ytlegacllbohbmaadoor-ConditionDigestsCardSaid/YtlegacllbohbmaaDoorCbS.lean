/- Layer 4: the example of the laws' awake: its book, call by call. -/
import Derived.Test.YtlegacllbohbmaaDoorCbR
set_option linter.unusedVariables false
set_option linter.unusedSimpArgs false
namespace Go.Proofs.YtlegacllbohbmaaDoor
open Go.RowKit Go.Shelf

/-- A book with these versions and tags, and a log that is not too long. -/
def Bx (B : Nat) (W : World) (bb : Nat) (vs : List ((Int × Int) × Vr)) (tg : List (ByteArray × (Nat → Int))) (m : Nat) : Prop := ∃ S, BookAt B W bb S ∧ S.vs = vs ∧ S.tg = tg ∧ S.lg.length ≤ m
theorem Bx.below {B : Nat} {W W' : World} {bb m : Nat} {vs : List ((Int × Int) × Vr)} {tg : List (ByteArray × (Nat → Int))} (h : Bx B W bb vs tg m) (k : Below W.heap.size W W') : Bx B W' bb vs tg m := by
  obtain ⟨S, h, r⟩ := h
  exact ⟨S, h.below k, r⟩
theorem addL_len (S : Bk) (t : List UInt8) : (addL S t).lg.length = S.lg.length + (t.length + 18) := by
  unfold addL
  simp only [List.length_append, List.length_cons, List.length_nil, hexL_len]
theorem nth_in {l : List Int} (h : ∀ x ∈ l, -9223372036854775808 ≤ x ∧ x ≤ 9223372036854775807) : ∀ j, j < l.length → -9223372036854775808 ≤ nth l j ∧ nth l j ≤ 9223372036854775807 := fun j hj => by
  unfold nth
  rw [List.getElem?_eq_getElem hj]
  exact h _ (List.getElem_mem hj)

theorem ex_begin (B bb : Nat) (w : World) (h : BookAt B w bb Bk0) (hp : Pow B w) (ht : Tz B w) :
    Calls Tryd.prog 10 #[.pointer (some ⟨bb, 0, none⟩), .int .i64 3, .int .i64 0] w fun e w' => e = .returned (.tuple #[.int .i64 1, .int .i64 0]) ∧
      Bx B w' bb [((3, 1), ⟨false, []⟩)] [] 1000 ∧ Below B w w' := by
  obtain ⟨mb, clk, es, vbs, svs, tv, lv, f, h⟩ := h
  refine (Begin_0 B bb mb clk 3 Bk0 es vbs svs tv lv f w h (by decide) (by decide) (by rfl) (by decide) hp ht).mono ?_
  rintro e w' ⟨rfl, h', b⟩
  refine ⟨rfl, ⟨_, h', rfl, rfl, ?_⟩, b⟩
  rw [addL_len]
  have := numsL_len (fun i => if i = 0 then ((3 : Nat) : Int) else 0) 2 (fun j hj => by
    match j, hj with
    | 0, _ => decide
    | 1, _ => decide)
  have e : (begunB Bk0 3).lg.length = 0 := rfl
  rw [e, List.length_append]
  simp only [List.length_cons, List.length_nil]
  omega
theorem put_bx (B bb i m : Nat) (k n T : Int) (vs : List ((Int × Int) × Vr)) (tg : List (ByteArray × (Nat → Int))) (x : Vr) (v : Value) (l : Ents) (w : World) (h : Bx B w bb vs tg m) (hk : inB k 0 6 = true) (hT : inB T 0 1099511627776 = true) (hl : listB l = true) (hv : EnX B w v l) (hf : fnd vs k n = some i) (hi : vs[i]? = some ((k, n), x))
    (hx : x.cl = false) (hlt : ∀ y ∈ x.sp, y.1 < T) (h64 : x.sp.length < 64) (hb : ∀ y ∈ putN k n T l, -9223372036854775808 ≤ y ∧ y ≤ 9223372036854775807) (hm : m ≤ 1000000) (hp : Pow B w) (ht : Tz B w) :
    Calls Tryd.prog 11 #[.pointer (some ⟨bb, 0, none⟩), .int .i64 k, .int .i64 n, .int .i64 T, v] w fun e w' => e = .returned (.int .i64 0) ∧
      Bx B w' bb (vs.set i ((k, n), ⟨false, x.sp ++ [(T, l)]⟩)) tg (m + 20000) ∧ Below B w w' := by
  obtain ⟨S, ⟨mb, clk, es, vbs, svs, tv, lv, f, h⟩, rfl, rfl, hS⟩ := h
  obtain ⟨vb, sv, hvb, hsv, _⟩ := h.at hi
  have hn : -9223372036854775808 ≤ n ∧ n ≤ 9223372036854775807 := hb n (by simp [putN])
  refine (Put_end B bb mb clk i vb k n T S x es vbs svs tv lv sv v l f w h hk hT hl hv hf hi hvb hsv hx hlt h64 hn (by omega) hp ht).mono ?_
  rintro e w' ⟨rfl, h', b⟩
  refine ⟨rfl, ⟨_, h', rfl, rfl, ?_⟩, b⟩
  rw [addL_len]
  have h1 := numsL_len (nth (putN k n T l)) (putN k n T l).length (nth_in hb)
  have h2 : (putN k n T l).length = 4 + 2 * l.length := by
    have : ∀ l : Ents, (enN l).length = 2 * l.length := fun l => by
      induction l with
      | nil => rfl
      | cons x l ih => simp only [enN, List.flatMap_cons, List.length_append, List.length_cons, List.length_nil] at ih ⊢; omega
    simp [putN, this]
    omega
  have h3 := listB_len hl
  have e : (setV S i (k, n) ⟨false, x.sp ++ [(T, l)]⟩).lg.length = S.lg.length := rfl
  rw [e]
  unfold putT
  simp only [List.length_append, List.length_cons, List.length_nil]
  omega
theorem close_bx (B bb i m : Nat) (k n : Int) (vs : List ((Int × Int) × Vr)) (tg : List (ByteArray × (Nat → Int))) (x : Vr) (w : World) (h : Bx B w bb vs tg m) (hk : inB k 0 6 = true) (hf : fnd vs k n = some i) (hi : vs[i]? = some ((k, n), x)) (hx : x.cl = false)
    (hn : -9223372036854775808 ≤ n ∧ n ≤ 9223372036854775807) (hm : m ≤ 1000000) (hp : Pow B w) (ht : Tz B w) :
    Calls Tryd.prog 12 #[.pointer (some ⟨bb, 0, none⟩), .int .i64 k, .int .i64 n] w fun e w' => e = .returned (.int .i64 0) ∧ Bx B w' bb (vs.set i ((k, n), ⟨true, x.sp⟩)) tg (m + 100) ∧ Below B w w' := by
  obtain ⟨S, h, rfl, rfl, hS⟩ := h
  refine (Close_open B bb i k n S x w h hk hf hi hx hn (by omega) hp ht).mono ?_
  rintro e w' ⟨rfl, h', b⟩
  refine ⟨rfl, ⟨_, h', rfl, rfl, ?_⟩, b⟩
  rw [addL_len]
  obtain ⟨k0, k1⟩ := inB_true.1 hk
  have h1 := numsL_len (nth [k, n]) 2 (nth_in (l := [k, n]) (fun y hy => by
    simp at hy
    rcases hy with rfl | rfl
    · omega
    · exact hn))
  have e : (setV S i (k, n) ⟨true, x.sp⟩).lg.length = S.lg.length := rfl
  rw [e]
  unfold closeT
  simp only [List.length_append, List.length_cons, List.length_nil]
  omega
theorem check_bx (B bb i : Nat) (k n : Int) (S : Bk) (x : Vr) (w : World) (h : BookAt B w bb S) (hf : fnd S.vs k n = some i) (hi : S.vs[i]? = some ((k, n), x)) (hx : x.cl = true) (hn : n ≠ 0) :
    Calls Tryd.prog 29 #[.pointer (some ⟨bb, 0, none⟩), .int .i64 k, .int .i64 n] w fun e w' => e = .returned (.int .i64 0) ∧ w = w' := by
  obtain ⟨mb, clk, es, vbs, svs, tv, lv, f, h⟩ := h
  obtain ⟨vb, sv, hvb, hsv, hV⟩ := h.at hi
  have c0 := h.rf.cell (i := 0) (by omega)
  rw [h.f0] at c0
  have c1 := h.rf.cell (i := 1) (by omega)
  rw [h.f1] at c1
  obtain ⟨_, ⟨g, hg, g0, _⟩, _⟩ := hV
  exact checkTagged_at bb mb clk es S.vs vbs k n i vb w c0 c1 h.map h.mi hf hvb (by rw [hg.cell (by omega), g0, hx]) hn

/-- The example's spans. -/
def spX : List (Int × Ents) := [(10, [(0, 5)]), (20, [(0, 7), (1, -2)])]
def tgX : List (ByteArray × (Nat → Int)) := [(⟨#[116]⟩, sev 0 0 0 1 0 0 0)]
theorem ex_tag (B bb m : Nat) (w : World) (h : Bx B w bb [((3, 1), ⟨true, spX⟩)] [] m) (hm : m ≤ 1000000) (hp : Pow B w) (ht : Tz B w) :
    Calls Tryd.prog 13 #[.pointer (some ⟨bb, 0, none⟩), .string ⟨#[116]⟩, .agg #[.int .i64 0, .int .i64 0, .int .i64 0, .int .i64 1, .int .i64 0, .int .i64 0, .int .i64 0]] w fun e w' => e = .returned (.int .i64 0) ∧
      Bx B w' bb [((3, 1), ⟨true, spX⟩)] tgX (m + 1000) ∧ Below B w w' := by
  obtain ⟨S, h, hv, hg, hS⟩ := h
  refine (Tag_ok B bb ⟨#[116]⟩ 0 0 0 1 0 0 0 S w h (by decide) (fun W => isName_t W) (by rw [hg]; rfl) (by rw [hg]; decide) (by decide) (fun k hk W hW => ?_) (by omega) hp ht).mono ?_
  · have c := h.below hW
    match k, hk with
    | 0, _ => exact checkTagged_0 bb _ W
    | 1, _ => exact checkTagged_0 bb _ W
    | 2, _ => exact checkTagged_0 bb _ W
    | 3, _ => exact check_bx B bb 0 3 1 S ⟨true, spX⟩ W c (by rw [hv]; rfl) (by rw [hv]; rfl) rfl (by decide)
    | 4, _ => exact checkTagged_0 bb _ W
    | 5, _ => exact checkTagged_0 bb _ W
    | 6, _ => exact checkTagged_0 bb _ W
  rintro e w' ⟨rfl, h', b⟩
  refine ⟨rfl, ⟨_, h', hv, ?_, ?_⟩, b⟩
  · show S.tg ++ _ = _
    rw [hg]
    rfl
  rw [addL_len]
  have h1 := numsL_len (nth [0, 0, 0, 1, 0, 0, 0]) 7 (nth_in (l := [0, 0, 0, 1, 0, 0, 0]) (by decide))
  show S.lg.length + _ ≤ _
  unfold tagT
  simp only [List.length_append, List.length_cons, List.length_nil]
  have e : (⟨#[116]⟩ : ByteArray).data.toList.length = 1 := rfl
  omega
def lsX : Nat → Ents := fun k => if k = 3 then [(0, 5)] else []
theorem plcX : ∀ i, Plc (tmF spX) spX.length 15 i → i = 0 + 1 ∧ hitB (tmF spX) spX.length 15 i = false := by
  intro i ⟨hi, h1, h2⟩
  have t0 : tmF spX 0 = 10 := rfl
  have t1 : tmF spX 1 = 20 := rfl
  have hl : spX.length = 2 := rfl
  rw [hl] at hi h2
  match i, hi with
  | 0, _ => have := h2 0 (by omega) (by omega); rw [t0] at this; omega
  | 1, _ => exact ⟨rfl, by decide⟩
  | 2, _ => have := h1 1 (by omega); rw [t1] at this; omega
theorem ex_resolve (B bb m : Nat) (w : World) (h : Bx B w bb [((3, 1), ⟨true, spX⟩)] tgX m) :
    Calls Tryd.prog 14 #[.pointer (some ⟨bb, 0, none⟩), .string ⟨#[116]⟩, .int .i64 15] w fun e w' => ∃ u0 u1 u2 u3 u4 u5 u6, e = .returned (.tuple #[.agg #[.string ⟨#[116]⟩, .int .i64 15, u0, u1, u2, u3, u4, u5, u6], .int .i64 0]) ∧
      (EntS w' u0 (lsX 0) ∧ EntS w' u1 (lsX 1) ∧ EntS w' u2 (lsX 2) ∧ EntS w' u3 (lsX 3) ∧ EntS w' u4 (lsX 4) ∧ EntS w' u5 (lsX 5) ∧ EntS w' u6 (lsX 6)) ∧ Below w.heap.size w w' := by
  obtain ⟨S, h, hv, hg, hS⟩ := h
  refine Resolve_at B bb 0 ⟨#[116]⟩ (sev 0 0 0 1 0 0 0) 15 lsX S w h (by rw [hg]; rfl) (by rw [hg]; decide) (by simp [hg, tgX]) (by rfl) (by decide) fun k hk W hW => ?_
  have c := h.below hW
  match k, hk with
  | 0, _ => exact List_none B bb 0 0 15 S W c (by rw [hv]; rfl)
  | 1, _ => exact List_none B bb 1 0 15 S W c (by rw [hv]; rfl)
  | 2, _ => exact List_none B bb 2 0 15 S W c (by rw [hv]; rfl)
  | 3, _ => exact List_in B bb 0 0 3 1 15 S ⟨true, spX⟩ W c (by rw [hv]; rfl) (by rw [hv]; rfl) (by decide) plcX (by decide)
  | 4, _ => exact List_none B bb 4 0 15 S W c (by rw [hv]; rfl)
  | 5, _ => exact List_none B bb 5 0 15 S W c (by rw [hv]; rfl)
  | 6, _ => exact List_none B bb 6 0 15 S W c (by rw [hv]; rfl)
theorem ex_put (B bb m : Nat) (w : World) (h : Bx B w bb [((3, 1), ⟨true, spX⟩)] tgX m) :
    Calls Tryd.prog 11 #[.pointer (some ⟨bb, 0, none⟩), .int .i64 3, .int .i64 1, .int .i64 30, .slice none 0 0] w fun e w' => e = .returned (.int .i64 9) ∧ Below w.heap.size w w' := by
  obtain ⟨S, h, hv, hg, hS⟩ := h
  exact Put_closed B bb 0 3 1 30 S ⟨true, spX⟩ _ [] w h (by rfl) (by rfl) (by rfl) ⟨none, 0, rfl, (fun x hx => by cases hx), fun h => absurd h (by decide)⟩ (by rw [hv]; rfl) (by rw [hv]; rfl) rfl
end Go.Proofs.YtlegacllbohbmaaDoor
