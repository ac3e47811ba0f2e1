/- Rows of numbers of the call's own; append; lists of numbers in memory. -/
import Derived.Deep.AppendSrc
import Derived.Laws.AppendOwn
import Derived.Laws.IdiomCopy
import Derived.Lib.BufferKept
import Derived.Lib.OwnKind
import Derived.OwnWalk
import Derived.Deep.Upon
import Derived.Lib.EndianMore
import Derived.Lib.Walk
import Derived.Deep.OwnRows
import Derived.Test.YtkhchaoehlefdaaDoorExH
import Derived.Test.YtkhchaoehlefdaaDoorZpA
set_option linter.unusedVariables false
set_option linter.unusedSimpArgs false
namespace Go.Proofs.YtkhchaoehlefdaaDoor
open Go.RowKit

theorem cell_in {w : World} {b o : Nat} {v : Value} (h : w.cell? ⟨b, o, none⟩ = some v) : b < w.heap.size := by
  unfold World.cell? at h
  split at h
  · rename_i hb; exact (Array.getElem?_eq_some_iff.1 hb).1
  · simp at h
theorem bc {W W' : World} (hB : Below W.heap.size W W') {b o : Nat} {v : Value} (h : W.cell? ⟨b, o, none⟩ = some v) : W'.cell? ⟨b, o, none⟩ = some v := by
  rw [hB.cell (p := ⟨b, o, none⟩) (cell_in h)]; exact h
theorem int_info : (Tryd.prog.info? 3).map (fun i => (i.zero, i.size, i.bytes)) = some (some (.int .i64 0), 1, 8) := by kernel_rfl
theorem int_slice : Tryd.prog.underlying 26 = some (.slice 3) := by kernel_rfl

/-- A block of n cells of type t, none of them frozen. -/
def RF (W : World) (b : Nat) (t : TypeId) (n : Nat) (f : Nat → Value) : Prop :=
  ∃ (c : Array Value) (fz : Nat × Nat), W.heap[b]? = some (.cells c t fz) ∧ c.size = n ∧ (∀ j, j < n → ¬ (fz.1 ≤ j ∧ j < fz.2)) ∧ ∀ i, i < n → c[i]? = some (f i)
namespace RF
variable {w w' : World} {b : Nat} {t : TypeId} {n : Nat} {f g : Nat → Value}
theorem cell (h : RF w b t n f) {i : Nat} (hi : i < n) : w.cell? ⟨b, i, none⟩ = some (f i) := by
  obtain ⟨c, fz, hb, _, _, hc⟩ := h
  simp [World.cell?, hb, hc i hi]
theorem frozen (h : RF w b t n f) {i : Nat} (hi : i < n) : w.frozen? ⟨b, i, none⟩ = false := by
  obtain ⟨c, fz, hb, _, hz, _⟩ := h
  have := hz i hi
  simp [World.frozen?, hb]
  omega
theorem lt (h : RF w b t n f) : b < w.heap.size := by
  obtain ⟨c, fz, hb, _⟩ := h
  exact (Array.getElem?_eq_some_iff.1 hb).1
theorem congr (h : RF w b t n f) (e : ∀ i, i < n → f i = g i) : RF w b t n g := by
  obtain ⟨c, fz, hb, hn, hz, hc⟩ := h
  exact ⟨c, fz, hb, hn, hz, fun i hi => by rw [hc i hi, e i hi]⟩
theorem of_block (h : RF w b t n f) (e : w'.heap[b]? = w.heap[b]?) : RF w' b t n f := by
  obtain ⟨c, fz, hb, hn, hz, hc⟩ := h
  exact ⟨c, fz, e.trans hb, hn, hz, hc⟩
theorem set (h : RF w b t n f) (i : Nat) (v : Value) : RF (w.setCell ⟨b, i, none⟩ v) b t n (fun j => if j = i then v else f j) := by
  obtain ⟨c, fz, hb, hn, hz, hc⟩ := h
  refine ⟨c.setIfInBounds i v, fz, ?_, by simpa using hn, hz, fun j hj => ?_⟩
  · simp [World.setCell, Array.getElem?_modify, hb]
  · rw [Array.getElem?_setIfInBounds]
    by_cases e : j = i
    · subst e
      simp [hn, hj]
    · rw [if_neg (fun h => e h.symm)]
      show c[j]? = some (if j = i then v else f j)
      rw [if_neg e]
      exact hc j hj
theorem setOther (h : RF w b t n f) {a : Addr} (ha : b ≠ a.block) (v : Value) : RF (w.setCell a v) b t n f := h.of_block (Below.heap_setCell _ _ _ _ ha)
theorem below (h : RF w b t n f) (k : Below w.heap.size w w') : RF w' b t n f := h.of_block (k.block b h.lt)
theorem below' {B : Nat} (h : RF w b t n f) (hb : b < B) (k : Below B w w') : RF w' b t n f := h.of_block (k.block b hb)
theorem kept {e : TypeId} {o : Option Nat} (h : RF w b t n f) (k : Lib.OthersKept e o w w') (hn : some b ≠ o) (ht : t ≠ e) : RF w' b t n f := by
  obtain ⟨c, fz, hb, hr⟩ := h
  exact ⟨c, fz, k b _ hb hn (fun c' fz' e' => ht (by cases e'; rfl)), hr⟩
theorem kind (h : RF w b t n f) : ∃ c fz, w.heap[b]? = some (.cells c t fz) := by
  obtain ⟨c, fz, hb, _⟩ := h
  exact ⟨c, fz, hb⟩
theorem sets (vs : List Value) : ∀ (o : Nat) (w : World) (f : Nat → Value), RF w b t n f → RF (w.setCells b o vs) b t n (fun j => if o ≤ j ∧ j < o + vs.length then vs[j - o]?.getD default else f j) := by
  induction vs with
  | nil => exact fun o w f h => h.congr (fun j _ => by rw [if_neg (by simp)])
  | cons v r ih =>
    intro o w f h
    refine (ih (o + 1) _ _ (h.set o v)).congr (fun j _ => ?_)
    by_cases h1 : j = o
    · subst h1
      rw [if_neg (by omega), if_pos rfl, if_pos (by simp), Nat.sub_self]
      rfl
    · by_cases h2 : o + 1 ≤ j ∧ j < o + 1 + r.length
      · rw [if_pos h2, if_pos (by simp; omega), show j - o = (j - (o + 1)) + 1 by omega, List.getElem?_cons_succ]
      · rw [if_neg h2, if_neg h1, if_neg (by simp; omega)]
end RF
theorem RF_new (w : World) (c : Array Value) (t : TypeId) (n : Nat) (f : Nat → Value) (hn : c.size = n) (hc : ∀ i, i < n → c[i]? = some (f i)) : RF (w.alloc (.cells c t)) w.heap.size t n f :=
  ⟨c, (0, 0), _root_.Go.heap_alloc_new w _, hn, fun j _ h => by simp at h, hc⟩

/-- A slice of the call's own (its row lies from block B on): n elements of size cells each, with these cells. -/
def Rw (e : TypeId) (size B : Nat) (W : World) (v : Value) (n : Nat) (xs : List Value) : Prop :=
  xs.length = n * size ∧ ((v = .slice none 0 0 ∧ n = 0) ∨
    ∃ g cap f, v = .slice (some ⟨g, 0, none⟩) n cap ∧ B ≤ g ∧ RF W g e (cap * size) f ∧ n ≤ cap ∧ cap ≤ maxLen ∧ ∀ j, j < n * size → xs[j]? = some (f j))
namespace Rw
variable {e : TypeId} {size B : Nat} {w w' : World} {v : Value} {n : Nat} {xs : List Value}
theorem same (h : Rw e size B w v n xs) (k : ∀ g, v.ownBlock = some g → w'.heap[g]? = w.heap[g]?) : Rw e size B w' v n xs := by
  obtain ⟨hl, h | ⟨g, cap, f, rfl, hB, hr, r⟩⟩ := h
  · exact ⟨hl, .inl h⟩
  · exact ⟨hl, .inr ⟨g, cap, f, rfl, hB, hr.of_block (k g rfl), r⟩⟩
theorem lt (h : Rw e size B w v n xs) : ∀ g, v.ownBlock = some g → B ≤ g ∧ g < w.heap.size := by
  obtain ⟨hl, ⟨rfl, _⟩ | ⟨g, cap, f, rfl, hB, hr, _⟩⟩ := h
  · intro g hg; simp [Value.ownBlock] at hg
  · intro g' hg
    simp [Value.ownBlock] at hg
    subst hg
    exact ⟨hB, hr.lt⟩
theorem below (h : Rw e size B w v n xs) (k : Below w.heap.size w w') : Rw e size B w' v n xs := h.same fun g hg => k.block g (h.lt g hg).2
theorem kind (h : Rw e size B w v n xs) : ∀ g, v.ownBlock = some g → ∃ c fz, w.heap[g]? = some (.cells c e fz) := by
  obtain ⟨hl, ⟨rfl, _⟩ | ⟨g, cap, f, rfl, hB, hr, _⟩⟩ := h
  · intro g hg; simp [Value.ownBlock] at hg
  · intro g' hg
    simp [Value.ownBlock] at hg
    subst hg
    exact hr.kind
theorem kept {t : TypeId} {o : Option Nat} (h : Rw e size B w v n xs) (k : Lib.OthersKept t o w w') (ho : v.ownBlock = none ∨ v.ownBlock ≠ o) (ht : e ≠ t) : Rw e size B w' v n xs := h.same fun g hg => by
  obtain ⟨c, fz, hb⟩ := h.kind g hg
  exact (k g _ hb (by rcases ho with e0 | e0 <;> rw [hg] at e0; cases e0; exact e0) (fun c' fz' e' => ht (by cases e'; rfl))).trans hb.symm
theorem mono {B' : Nat} (h : Rw e size B w v n xs) (hB : B' ≤ B) : Rw e size B' w v n xs := by
  obtain ⟨hl, h | ⟨g, cap, f, rfl, hg, r⟩⟩ := h
  · exact ⟨hl, .inl h⟩
  · exact ⟨hl, .inr ⟨g, cap, f, rfl, by omega, r⟩⟩
theorem form (h : Rw e size B w v n xs) : ∃ a cap, v = .slice a n cap ∧ n ≤ cap := by
  obtain ⟨hl, ⟨rfl, rfl⟩ | ⟨g, cap, f, rfl, hg, _, hc, _⟩⟩ := h
  · exact ⟨none, 0, rfl, Nat.le_refl _⟩
  · exact ⟨_, cap, rfl, hc⟩
theorem cells (h : Rw e size B w v n xs) {g : Nat} (hg : v.ownBlock = some g) : ∀ j u, xs[j]? = some u → w.cell? ((⟨g, 0, none⟩ : Addr).add j) = some u := by
  intro j u hu
  obtain ⟨hl, ⟨rfl, rfl⟩ | ⟨g', cap, f, rfl, hB, hr, hc, _, hx⟩⟩ := h
  · simp [Value.ownBlock] at hg
  · simp [Value.ownBlock] at hg
    subst hg
    have hj : j < n * size := by rw [← hl]; exact (List.getElem?_eq_some_iff.1 hu).1
    have ha : (⟨g', 0, none⟩ : Addr).add j = ⟨g', j, none⟩ := by unfold Addr.add; split <;> simp_all
    have hm : n * size ≤ cap * size := Nat.mul_le_mul_right _ hc
    rw [ha, hr.cell (by omega), ← hx j hj, hu]
end Rw
theorem Rw_nil (e : TypeId) (size B : Nat) (w : World) : Rw e size B w (.slice none 0 0) 0 [] := ⟨by simp, .inl ⟨rfl, rfl⟩⟩

section
variable {P : Program}
theorem run_append_rw {e : TypeId} {size B : Nat} {W : World} {v : Value} {n : Nat} {xs : List Value} (t tx ty : TypeId) (i : TypeInfo) (z : Value) (bytes : Nat) (ht : P.underlying t = some (.slice e)) (hi : P.info? e = some i) (hz : i.zero = some z)
    (hs : i.size = size) (hby : i.bytes = bytes) (hzs : z.cells.size = size) (h0 : 0 < size) (h : Rw e size B W v n xs) (x : Value) (m : Nat) (news : List Value) (hx : Src P size tx x m news W)
    (h63 : n + m ≤ maxLen) (hb : (n + m) * bytes ≤ 140737488355328) (hB : B ≤ W.heap.size) :
    ∃ v' w', (Builtin.append_ #[t, tx] ty #[v, x]).run P W = .ok v' w' ∧ Rw e size B w' v' (n + m) (xs ++ news) ∧ W.grownBy w' v.ownBlock ∧
      (v'.ownBlock = v.ownBlock ∨ ∃ g, v'.ownBlock = some g ∧ W.heap.size ≤ g) := by
  subst hs hby
  have hlen : (xs ++ news).length = (n + m) * i.size := by rw [List.length_append, h.1, hx.newsLen, Nat.add_mul]
  have hsmall : n + m ≤ 9223372036854775807 := by simp only [maxLen] at h63; omega
  have grown : ∀ (old : Nat), ∀ (row : Option Nat),
      Rw e i.size B (W.drew.alloc (.cells ((xs ++ news).toArray ++ Builtin.zeroCells z.cells (grownCap W (n + m) old e - (n + m))) e)) (.slice (some ⟨W.heap.size, 0, none⟩) (n + m) (grownCap W (n + m) old e)) (n + m) (xs ++ news) ∧
      W.grownBy (W.drew.alloc (.cells ((xs ++ news).toArray ++ Builtin.zeroCells z.cells (grownCap W (n + m) old e - (n + m))) e)) row := by
    intro old row
    have hge := grownCap_ge W (n + m) old e
    have hcm : grownCap W (n + m) old e ≤ maxLen := grownCap_le_maxLen W (n + m) old e h63
    generalize grownCap W (n + m) old e = cap at *
    have hsz : ((xs ++ news).toArray ++ Builtin.zeroCells z.cells (cap - (n + m))).size = cap * i.size := by
      rw [Array.size_append, size_zeroCells, hzs, List.size_toArray, hlen, ← Nat.add_mul]
      congr 1
      omega
    refine ⟨⟨hlen, .inr ⟨W.heap.size, cap, fun j => (((xs ++ news).toArray ++ Builtin.zeroCells z.cells (cap - (n + m)))[j]?).getD default, rfl, hB, RF_new W.drew _ e _ _ hsz fun j hj => ?_, hge, hcm, fun j hj => ?_⟩⟩, ⟨rfl, rfl, rfl, by simp, fun k hk _ => Below.heap_alloc W.drew _ k hk⟩⟩
    · rw [Array.getElem?_eq_getElem (by omega)]; rfl
    · have hj' : j < (xs ++ news).length := by omega
      show _ = some ((((xs ++ news).toArray ++ Builtin.zeroCells z.cells (cap - (n + m)))[j]?).getD default)
      rw [List.getElem?_eq_getElem hj', Array.getElem?_append_left (by simpa using hj'), List.getElem?_toArray, List.getElem?_eq_getElem hj']
      rfl
  rcases h.2 with ⟨rfl, rfl⟩ | ⟨g, cap, f, rfl, hBg, hr, hnc, hcm, hxs⟩
  · have hx0 : xs = [] := List.eq_nil_of_length_eq_zero (by simpa using h.1)
    subst hx0
    by_cases hm : m = 0
    · subst hm
      have hn : news = [] := List.eq_nil_of_length_eq_zero (by simpa using hx.newsLen)
      subst hn
      refine ⟨.slice none 0 0, W, ?_, Rw_nil _ _ _ _, ⟨rfl, rfl, rfl, Nat.le_refl _, fun _ _ _ => rfl⟩, .inl rfl⟩
      rcases hx.kind with ⟨e', hk⟩ | hk <;> simp [Builtin.append_, run_underlying ht, run_underlying hk, sizeOf, typeInfo, hi, hx.len, hx.cells]
    · have hr := run_append_grow_src (P := P) W t tx ty e i z ht hi hz none 0 0 [] (run_firstCells_none W.drew i.size 0 0 0) x m news hx (by omega) (by omega) (growslice_fits (by omega) hb)
      have hg := grown 0 (Value.ownBlock (.slice none 0 0))
      simp only [List.nil_append] at hr hg ⊢
      exact ⟨_, _, hr, hg.1, hg.2, .inr ⟨_, rfl, Nat.le_refl _⟩⟩
  · by_cases hroom : n + m ≤ cap
    · have hmul : (n + m) * i.size ≤ cap * i.size := Nat.mul_le_mul_right _ hroom
      have hnl := hx.newsLen
      have e1 : (n + m) * i.size = n * i.size + m * i.size := Nat.add_mul _ _ _
      have hrun := run_append_room_src (P := P) W t tx ty e i ht hi g 0 n cap x m news hx hroom (fun j hj => by rw [hr.cell (by omega)]; rfl) (fun j hj => hr.frozen (by omega))
      simp only [Nat.zero_add] at hrun
      refine ⟨_, _, hrun, ⟨hlen, .inr ⟨g, cap, _, rfl, hBg, RF.sets news (n * i.size) W f hr, hroom, hcm, fun j hj => ?_⟩⟩, ⟨World.os_setCells _ _ _ _, ?_, World.output_setCells _ _ _ _, ?_, fun k hk hne => World.heap_setCells_other W g _ news hk (fun e => hne (by simp [Value.ownBlock, e]))⟩, .inl rfl⟩
      · by_cases h1 : j < n * i.size
        · rw [if_neg (by omega), List.getElem?_append_left (by rw [h.1]; exact h1)]
          exact hxs j h1
        · rw [if_pos (by omega), List.getElem?_append_right (by rw [h.1]; omega), h.1, List.getElem?_eq_getElem (by omega)]
          rfl
      · have := (Lib.below_setCells_w (Nat.zero_le g) news (n * i.size) W).tape
        exact this
      · exact (Lib.below_setCells_w (Nat.zero_le g) news (n * i.size) W).size
    · have holds : ∀ j u, xs[j]? = some u → W.drew.cell? ((⟨g, 0, none⟩ : Addr).add j) = some u := h.cells (g := g) rfl
      have hold := run_firstCells_some (P := P) W.drew i.size n ⟨g, 0, none⟩ n cap xs h.1 holds
      have hrun := run_append_grow_src (P := P) W t tx ty e i z ht hi hz (some ⟨g, 0, none⟩) n cap xs hold x m news hx (by omega) (by omega) (growslice_fits (by omega) hb)
      have hg := grown cap (Value.ownBlock (.slice (some ⟨g, 0, none⟩) n cap))
      exact ⟨_, _, hrun, hg.1, hg.2, .inr ⟨_, rfl, Nat.le_refl _⟩⟩

/-- 'append' for the walk. -/
theorem wpList_append_rw {ops : Array Oper} {rest : List Oper} {o : Oper} {a : Act} {Q : Exit → Act → World → Prop} {W : World} (hgd : o.guard = none) (s y : Operand) (t tx : TypeId)
    (ho : o.op = .call { callee := .builtin .append, args := #[s, y], argTypes := #[t, tx] })
    {e : TypeId} {size B : Nat} {v : Value} {n : Nat} {xs : List Value} (z : Value) (bytes : Nat) (ht : P.underlying t = some (.slice e)) (hinfo : (P.info? e).map (fun i => (i.zero, i.size, i.bytes)) = some (some z, size, bytes))
    (hzs : z.cells.size = size) (h0 : 0 < size) (hs : a.eval s = v) (h : Rw e size B W v n xs) (x : Value) (hy : a.eval y = x) (m : Nat) (news : List Value) (hx : Src P size tx x m news W)
    (h63 : n + m ≤ maxLen) (hb : (n + m) * bytes ≤ 140737488355328) (hB : B ≤ W.heap.size)
    (hK : ∀ v' w', Rw e size B w' v' (n + m) (xs ++ news) → W.grownBy w' v.ownBlock → (v'.ownBlock = v.ownBlock ∨ ∃ g, v'.ownBlock = some g ∧ W.heap.size ≤ g) → wpList P ops Q rest (a.put o.dst v') w') :
    wpList P ops Q (o :: rest) a W := by
  obtain ⟨i, hi, hzz⟩ := Option.map_eq_some_iff.1 hinfo
  simp only [Prod.mk.injEq] at hzz
  obtain ⟨hz, hsz, hby⟩ := hzz
  refine wpList_plain hgd fun K hK' => ?_
  obtain ⟨v', w', hr, h2, h3, h4⟩ := run_append_rw (P := P) t tx o.type i z bytes ht hi hz hsz hby hzs h0 h x m news hx h63 hb hB
  unfold Oper.wp execOp
  simp only [ho, resolve, invoke, builtin, Sem.run_bind, Sem.run_pure, Result.andThen_ok, List.map_toArray, List.map_cons, List.map_nil, hs, hy, hr]
  exact hK' _ _ (hK v' w' h2 h3 h4)
end
section
variable {P : Program}
/-- 'append' at a step of a region that draws its order. -/
theorem step_append_rw {ops : Array Oper} {o : Oper} {a : Act} {K : Act → World → Prop} {Q : Exit → Act → World → Prop} {E : Prop} {W : World} (hgd : o.guard = none) (s y : Operand) (t tx : TypeId)
    (ho : o.op = .call { callee := .builtin .append, args := #[s, y], argTypes := #[t, tx] })
    {e : TypeId} {size B : Nat} {v : Value} {n : Nat} {xs : List Value} (z : Value) (bytes : Nat) (ht : P.underlying t = some (.slice e)) (hinfo : (P.info? e).map (fun i => (i.zero, i.size, i.bytes)) = some (some z, size, bytes))
    (hzs : z.cells.size = size) (h0 : 0 < size) (hs : a.eval s = v) (h : Rw e size B W v n xs) (x : Value) (hy : a.eval y = x) (m : Nat) (news : List Value) (hx : Src P size tx x m news W)
    (h63 : n + m ≤ maxLen) (hb : (n + m) * bytes ≤ 140737488355328) (hB : B ≤ W.heap.size)
    (hK : ∀ v' w', Rw e size B w' v' (n + m) (xs ++ news) → W.grownBy w' v.ownBlock → (v'.ownBlock = v.ownBlock ∨ ∃ g, v'.ownBlock = some g ∧ W.heap.size ≤ g) → K (a.put o.dst v') w') :
    if Region.wanted o (yielded ops a.tmps) = true then Oper.wp P o a W K Q else E := by
  obtain ⟨i, hi, hzz⟩ := Option.map_eq_some_iff.1 hinfo
  simp only [Prod.mk.injEq] at hzz
  obtain ⟨hz, hsz, hby⟩ := hzz
  have hw : Region.wanted o (yielded ops a.tmps) = true := by simp [Region.wanted, hgd]
  rw [if_pos hw]
  obtain ⟨v', w', hr, h2, h3, h4⟩ := run_append_rw (P := P) t tx o.type i z bytes ht hi hz hsz hby hzs h0 h x m news hx h63 hb hB
  unfold Oper.wp execOp
  simp only [ho, resolve, invoke, builtin, Sem.run_bind, Sem.run_pure, Result.andThen_ok, List.map_toArray, List.map_cons, List.map_nil, hs, hy, hr]
  exact hK v' w' h2 h3 h4
end
theorem grown_below {B : Nat} {w w' : World} {o : Option Nat} (h : w.grownBy w' o) (ho : ∀ g, o = some g → B ≤ g) (hB : B ≤ w.heap.size) : Below B w w' :=
  (Below.refl B w).grown h hB ho
/-! ### Lists in memory -/
def I64 (x : Int) : Prop := -9223372036854775808 ≤ x ∧ x ≤ 9223372036854775807
/-- A list of numbers, anywhere. -/
def InS (W : World) (v : Value) (l : List Int) : Prop :=
  ∃ a cap, v = .slice a l.length cap ∧ l.length ≤ cap ∧ (∀ x ∈ l, I64 x) ∧
    (0 < l.length → ∃ b off, a = some ⟨b, off, none⟩ ∧ ∀ k (h : k < l.length), W.cell? ⟨b, off + k, none⟩ = some (.int .i64 l[k]))
theorem InS.below {W W' : World} {v : Value} {l : List Int} (h : InS W v l) (k : Below W.heap.size W W') : InS W' v l := by
  obtain ⟨a, cap, rfl, hc, hb, hx⟩ := h
  refine ⟨a, cap, rfl, hc, hb, fun h0 => ?_⟩
  obtain ⟨b, off, rfl, h2⟩ := hx h0
  exact ⟨b, off, rfl, fun j hj => bc k (h2 j hj)⟩
theorem InS.form {W : World} {v : Value} {l : List Int} (h : InS W v l) : ∃ a cap, v = .slice a l.length cap ∧ l.length ≤ cap := by
  obtain ⟨a, cap, rfl, hc, _⟩ := h
  exact ⟨a, cap, rfl, hc⟩
theorem InS.at {W : World} {a : Option Addr} {n cap : Nat} {l : List Int} (h : InS W (.slice a n cap) l) {k : Nat} (hk : k < l.length) :
    ∃ b off, a = some ⟨b, off, none⟩ ∧ b < W.heap.size ∧ I64 l[k] ∧ W.cell? ⟨b, off + k, none⟩ = some (.int .i64 l[k]) := by
  obtain ⟨a', cap', e, hc, hb, hx⟩ := h
  cases e
  obtain ⟨b, off, rfl, h2⟩ := hx (by omega)
  exact ⟨b, off, rfl, cell_in (h2 k hk), hb _ (List.getElem_mem hk), h2 k hk⟩
theorem InS.nil (W : World) : InS W (.slice none 0 0) [] := ⟨none, 0, rfl, Nat.le_refl _, (fun x hx => by cases hx), fun h => absurd h (by decide)⟩

/-- A list of numbers that was just made. -/
theorem InS.fresh (w : World) (l : List Int) (c : Array Value) (t : TypeId) (n : Nat) (hn : n = l.length) (hc : c = (l.map fun x => Value.int .i64 x).toArray) (hb : ∀ x ∈ l, I64 x) : InS (w.alloc (.cells c t)) (.slice (some ⟨w.heap.size, 0, none⟩) n n) l := by
  subst hc hn
  refine ⟨_, l.length, rfl, Nat.le_refl _, hb, fun _ => ⟨w.heap.size, 0, rfl, fun k hk => ?_⟩⟩
  rw [Nat.zero_add]
  unfold World.cell?
  rw [show (w.alloc (.cells (l.map fun x => Value.int .i64 x).toArray t)).heap[w.heap.size]? = some (.cells (l.map fun x => Value.int .i64 x).toArray t) from _root_.Go.heap_alloc_new w _]
  simp [hk]

/-! ### Numbers of the call's own -/
def inC (l : List Int) : List Value := l.map fun x => .int .i64 x
def Io (B : Nat) (W : World) (v : Value) (l : List Int) : Prop := Rw 3 1 B W v l.length (inC l) ∧ ∀ x ∈ l, I64 x
theorem Io.ins {B : Nat} {W : World} {v : Value} {l : List Int} (h : Io B W v l) : InS W v l := by
  obtain ⟨hr, hb⟩ := h
  rcases id hr.2 with ⟨rfl, h0⟩ | ⟨g, cap, f, rfl, hB, hf, hc, hm, hx⟩
  · exact ⟨none, 0, by rw [h0], by omega, hb, fun hn => by omega⟩
  · refine ⟨_, cap, rfl, hc, hb, fun hn => ⟨g, 0, rfl, fun k hk => ?_⟩⟩
    have x1 := hx k (by omega)
    have e1 : (inC l)[k]? = some (.int .i64 l[k]) := by simp [inC, hk]
    rw [e1] at x1
    have c1 := hf.cell (i := k) (by omega)
    rw [← Option.some.inj x1] at c1
    rw [Nat.zero_add]
    exact c1
theorem Io.nil (B : Nat) (W : World) : Io B W (.slice none 0 0) [] := ⟨Rw_nil _ _ _ _, (fun x hx => by cases hx)⟩
theorem Io.below {B : Nat} {W W' : World} {v : Value} {l : List Int} (h : Io B W v l) (k : Below W.heap.size W W') : Io B W' v l := ⟨h.1.below k, h.2⟩
theorem Io.mono {B B' : Nat} {W : World} {v : Value} {l : List Int} (h : Io B W v l) (k : B' ≤ B) : Io B' W v l := ⟨h.1.mono k, h.2⟩
theorem new_one (W : World) (a : Value) (t : TypeId) : (W.alloc (.cells #[a] t)).cell? ⟨W.heap.size, 0, none⟩ = some a := by
  have h := _root_.Go.heap_alloc_new W (.cells #[a] t)
  unfold World.cell?; rw [h]; rfl
/-- A number behind a row. -/
theorem append_one {ops : Array Oper} {rest : List Oper} {o : Oper} {a : Act} {Q : Exit → Act → World → Prop} {W : World} (hgd : o.guard = none) (s y : Operand)
    (ho : o.op = .call { callee := .builtin .append, args := #[s, y], argTypes := #[26, 26] }) {B : Nat} {v : Value} {l : List Int}
    (hs : a.eval s = v) (h : Io B W v l) (g : Nat) (x : Int) (hi : I64 x) (hy : a.eval y = .slice (some ⟨g, 0, none⟩) 1 1) (c0 : W.cell? ⟨g, 0, none⟩ = some (.int .i64 x))
    (hl : l.length ≤ 1000000000) (hB : B ≤ W.heap.size)
    (hK : ∀ v' w', Io B w' v' (l ++ [x]) → Below B W w' → wpList Tryd.prog ops Q rest (a.put o.dst v') w') :
    wpList Tryd.prog ops Q (o :: rest) a W := by
  refine wpList_append_rw hgd s y _ _ ho (.int .i64 0) 8 int_slice int_info rfl (by decide) hs h.1 _ hy 1 [.int .i64 x]
    (Src.ofSlice W int_slice ⟨g, 0, none⟩ 1 1 _ rfl (fun j u hj => ?_) (fun u hu => ?_)) (by unfold maxLen; omega) (by omega) hB fun v' w' h1 h2 h3 => hK v' w' ⟨?_, ?_⟩ (grown_below h2 (fun g hg => (h.1.lt g hg).1) hB)
  · match j, hj with
    | 0, hj => simp at hj; subst hj; simpa [Addr.add] using c0
  · simp at hu
    subst hu
    rfl
  · have e : inC l ++ [.int .i64 x] = inC (l ++ [x]) := by simp [inC]
    rw [← e, List.length_append]
    exact h1
  · intro x hx
    rcases List.mem_append.1 hx with hx | hx
    · exact h.2 x hx
    · rw [List.mem_singleton.1 hx]; exact hi

end Go.Proofs.YtkhchaoehlefdaaDoor
