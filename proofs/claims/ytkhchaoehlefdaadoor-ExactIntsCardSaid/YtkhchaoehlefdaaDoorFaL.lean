/- Contract: own, an integer in memory of its own with room behind its words. -/
import Derived.Lib.JoinLaws
import Derived.Lib.EndianMore
import Derived.Deep.Upon
import Derived.Deep.RegionHeld3
import Derived.Test.YtkhchaoehlefdaaDoorEzIv
set_option linter.unusedVariables false
set_option linter.unusedSimpArgs false
namespace Go.Proofs.YtkhchaoehlefdaaDoor
open Go.RowKit

/-- A block of N words whose contents are not told. -/
def Rm (w : World) (b N : Nat) : Prop := ∃ C : Array Value, w.heap[b]? = some (.cells C 62 (0, 0)) ∧ C.size = N
theorem Rm.cell {w : World} {b N j : Nat} (h : Rm w b N) (hj : j < N) : (w.cell? ⟨b, j, none⟩).isSome = true := by
  obtain ⟨C, h1, h2⟩ := h
  simp [World.cell?, h1, h2, hj]
theorem Rm.frozen {w : World} {b N j : Nat} (h : Rm w b N) : w.frozen? ⟨b, j, none⟩ = false := by
  obtain ⟨C, h1, h2⟩ := h
  simp [World.frozen?, h1]

theorem Rm.set {w : World} {b N j : Nat} (h : Rm w b N) (v : Value) : Rm (w.setCell ⟨b, j, none⟩ v) b N := by
  obtain ⟨C, h1, h2⟩ := h
  refine ⟨C.setIfInBounds j v, ?_, by simpa using h2⟩
  simp [World.setCell, Array.getElem?_modify, h1]
theorem Rm.sets {b N : Nat} : ∀ (vs : List Value) (o : Nat) (w : World), Rm w b N → Rm (w.setCells b o vs) b N
  | [], _, _, h => h
  | v :: r, o, w, h => Rm.sets r (o + 1) (w.setCell ⟨b, o, none⟩ v) (h.set v)
theorem Rm.setOther {w : World} {b N : Nat} (h : Rm w b N) {a : Addr} (ha : a.block ≠ b) (v : Value) : Rm (w.setCell a v) b N := by
  obtain ⟨C, h1, h2⟩ := h
  exact ⟨C, (Below.heap_setCell _ _ _ _ (Ne.symm ha)).trans h1, h2⟩

/-- 'make' of no words, with room for n. -/
theorem makeRoom32 {ops : Array Oper} {rest : List Oper} {o : Oper} {a : Act} {Q : Exit → Act → World → Prop} {w : World}
    (hg : o.guard = none) (l c : Operand) (t : TypeId) (hop : o.op = Op.makeSlice t l c) (h1 : Tryd.prog.underlying t = some (.slice 62))
    (n : Nat) (C : Int) (hl : a.eval l = .int .i64 0) (hc : a.eval c = .int .i64 C) (hC : C = (n : Int)) (hn : n ≤ 1000000000)
    (hK : ∀ w', Rm w' w.heap.size n → Below w.heap.size w w' → wpList Tryd.prog ops Q rest (a.put o.dst (.slice (some ⟨w.heap.size, 0, none⟩) 0 n)) w') :
    wpList Tryd.prog ops Q (o :: rest) a w := by
  obtain ⟨i, hi, hz0, hz1, hz2⟩ := info_parts u32_info
  refine wpList_make_own w hg l c t hop w.heap.size 62 i _ 1 h1 hi hz0 hz1 .i64 .i64 C n hl hc hC (by rw [hz2]; omega) (by unfold maxLen; omega) (Nat.le_refl _) ?_
  intro w' hown hgrow
  refine hK w' ?_ ⟨hgrow.os, hgrow.tape, hgrow.output, hgrow.size, fun k hk => hgrow.block k hk (by simp)⟩
  obtain ⟨h1, h2 | ⟨g, cap, cur, hv, hg, hh, hle, hm, hsz, htk⟩⟩ := hown
  · exact absurd h2.1 (by simp)
  · simp only [Value.slice.injEq, Option.some.injEq, Addr.mk.injEq, and_true] at hv
    obtain ⟨hv1, _, hv2⟩ := hv
    subst hv1
    subst hv2
    exact ⟨cur, hh, by omega⟩

/-- For a walk's arms: this is a call of append. -/
theorem is_append {P : Program} {ops : Array Oper} {rest : List Oper} {a : Act} {Q : Exit → Act → World → Prop} {w : World} {dst : Option Tmp} {x : Array Operand} {y : Array TypeId} {ty : TypeId} {pos : String} {after : Array Edge} {g : Option (Nat × Bool)}
    (h : wpList P ops Q (⟨dst, .call { callee := .builtin .append, args := x, argTypes := y }, ty, pos, after, g⟩ :: rest) a w) : wpList P ops Q (⟨dst, .call { callee := .builtin .append, args := x, argTypes := y }, ty, pos, after, g⟩ :: rest) a w := h

/-- The words of a row, in a list. -/
def wl (n : Nat) (x : Nat → Int) : List Value := (List.range n).map fun j => .int .u32 (x j)
theorem wl_length (n : Nat) (x : Nat → Int) : (wl n x).length = n := by simp [wl]
theorem wl_get {n j : Nat} {x : Nat → Int} {u : Value} (h : (wl n x)[j]? = some u) : j < n ∧ u = .int .u32 (x j) := by
  simp only [wl, List.getElem?_map, Option.map_eq_some_iff] at h
  obtain ⟨k, h1, h2⟩ := h
  obtain ⟨h3, h4⟩ := List.getElem?_eq_some_iff.1 h1
  simp only [List.length_range] at h3
  simp only [List.getElem_range] at h4
  subst h4
  exact ⟨h3, h2.symm⟩

theorem src_words {w : World} {tx : TypeId} (hk : Tryd.prog.underlying tx = some (.slice 62)) {a : Option Addr} {n c : Nat} {x : Nat → Int} (h : Sl w a n x) : Src Tryd.prog 1 tx (.slice a n c) n (wl n x) w := by
  cases a with
  | none =>
    have h0 : n = 0 := by
      by_cases h0 : 0 < n
      · obtain ⟨b, off, h1, _⟩ := h h0; cases h1
      · omega
    subst h0
    exact Src.ofNil w hk c
  | some ad =>
    refine Src.ofSlice w hk ad n c _ (by rw [wl_length, Nat.mul_one]) ?_ ?_
    · intro j u hj
      obtain ⟨h1, rfl⟩ := wl_get hj
      obtain ⟨b, off, h2, h3⟩ := h (by omega)
      have h4 := Option.some.inj h2
      subst h4
      have h5 := h3 j h1
      rw [show Addr.add ⟨b, off, none⟩ j = ⟨b, off + j, none⟩ from by simp [Addr.add]]
      exact h5
    · intro u hu
      obtain ⟨j, _, rfl⟩ := List.mem_map.1 hu
      rfl

/-- 'append' of a row of words within room. -/
theorem append32 {ops : Array Oper} {rest : List Oper} {o : Oper} {a : Act} {Q : Exit → Act → World → Prop} {w : World}
    (hg : o.guard = none) (s y : Operand) (t : TypeId) (hop : o.op = Op.call { callee := Callee.builtin Builtin.append, args := #[s, y], argTypes := #[t, t] })
    (ht : Tryd.prog.underlying t = some (.slice 62)) (b N n c : Nat) (ad : Option Addr) (x : Nat → Int) (hs : a.eval s = .slice (some ⟨b, 0, none⟩) 0 N) (hy : a.eval y = .slice ad n c)
    (hx : Sl w ad n x) (hN : Rm w b N) (hn : n ≤ N) (B : Nat) (hB : B ≤ b)
    (hK : ∀ w', Row w' b 0 n x → Below B w w' → (∀ k, k < w.heap.size → k ≠ b → w'.heap[k]? = w.heap[k]?) → Rm w' b N → wpList Tryd.prog ops Q rest (a.put o.dst (.slice (some ⟨b, 0, none⟩) n N)) w') :
    wpList Tryd.prog ops Q (o :: rest) a w := by
  refine wpList_append_room1 w hg s y t t hop 62 (.int .u32 0) 4 ht u32_info b 0 0 N hs _ hy n (wl n x) (src_words ht hx) (by omega) ?_ ?_ ?_
  · intro j hj
    rw [wl_length] at hj
    simpa using hN.cell (by omega : j < N)
  · intro j hj
    exact hN.frozen
  · simp only [Nat.zero_add]
    refine hK _ ?_ (Lib.below_setCells_w hB _ _ _) (fun k h1 h2 => World.heap_setCells_other w b 0 _ h1 h2) (hN.sets _ _ _)
    intro j hj
    have hl : j < (wl n x).length := by rw [wl_length]; exact hj
    have h1 := World.cell?_setCells_in b (wl n x) 0 w (fun k hk => by rw [wl_length] at hk; simpa using hN.cell (by omega : k < N)) j hl
    rw [h1]
    obtain ⟨_, h2⟩ := wl_get (List.getElem?_eq_getElem hl)
    rw [h2]

/-- The same behind l words that are there. -/
theorem append32_at {ops : Array Oper} {rest : List Oper} {o : Oper} {a : Act} {Q : Exit → Act → World → Prop} {w : World}
    (hg : o.guard = none) (s y : Operand) (t : TypeId) (hop : o.op = Op.call { callee := Callee.builtin Builtin.append, args := #[s, y], argTypes := #[t, t] })
    (ht : Tryd.prog.underlying t = some (.slice 62)) (b l N n c : Nat) (ad : Option Addr) (x : Nat → Int) (hs : a.eval s = .slice (some ⟨b, 0, none⟩) l N) (hy : a.eval y = .slice ad n c)
    (hx : Sl w ad n x) (hN : Rm w b N) (hn : l + n ≤ N) (B : Nat) (hB : B ≤ b)
    (hK : ∀ w', Row w' b l n x → (∀ j, j < l → w'.cell? ⟨b, j, none⟩ = w.cell? ⟨b, j, none⟩) → Below B w w' → (∀ k, k < w.heap.size → k ≠ b → w'.heap[k]? = w.heap[k]?) → Rm w' b N →
      wpList Tryd.prog ops Q rest (a.put o.dst (.slice (some ⟨b, 0, none⟩) (l + n) N)) w') :
    wpList Tryd.prog ops Q (o :: rest) a w := by
  refine wpList_append_room1 w hg s y t t hop 62 (.int .u32 0) 4 ht u32_info b 0 l N hs _ hy n (wl n x) (src_words ht hx) hn ?_ ?_ ?_
  · intro j hj
    rw [wl_length] at hj
    simpa using hN.cell (by omega : l + j < N)
  · intro j hj
    exact hN.frozen
  · simp only [Nat.zero_add]
    refine hK _ ?_ ?_ (Lib.below_setCells_w hB _ _ _) (fun k h1 h2 => World.heap_setCells_other w b l _ h1 h2) (hN.sets _ _ _)
    · intro j hj
      have hl : j < (wl n x).length := by rw [wl_length]; exact hj
      have h1 := World.cell?_setCells_in b (wl n x) l w (fun k hk => by rw [wl_length] at hk; exact hN.cell (by omega : l + k < N)) j hl
      rw [h1]
      obtain ⟨_, h2⟩ := wl_get (List.getElem?_eq_getElem hl)
      rw [h2]
    · intro j hj
      exact World.cell?_setCells_out b (wl n x) l w ⟨b, j, none⟩ (fun _ _ => .inl hj)

/-- The cells of a new block of n + 3 words. -/
def zs (n : Nat) : Array Value := madeCells #[.int .u32 0] (n + 3)
theorem zs_size (n : Nat) : (zs n).size = n + 3 := by simp [zs, madeCells]
theorem make_eq (n : Nat) (hn : n ≤ 1000000) (W : World) : (Instr.makeSlice 22 (.int .i64 0) (.int .i64 (IntKind.i64.wrap ((n : Int) + 3)))).run Tryd.prog W = .ok (.slice (some ⟨W.heap.size, 0, none⟩) 0 (n + 3)) (W.alloc (.cells (zs n) 62)) := by
  obtain ⟨i, hi, hz0, hz1, hz2⟩ := info_parts u32_info
  have hw : IntKind.i64.wrap ((n : Int) + 3) = ((n + 3 : Nat) : Int) := by rw [IntWalk.i64_in _ (by omega)]; omega
  rw [hw]
  have hr := run_make (P := Tryd.prog) W 22 62 i _ (by kernel_rfl) hi hz0 .i64 .i64 0 ((n + 3 : Nat) : Int) (Int.le_refl _) (by omega) (by rw [hz2]; omega) (by omega)
  simp only [Int.toNat_zero, Int.toNat_natCast, hz1, Nat.mul_one] at hr
  exact hr

theorem own_block {w : World} (X : Obj) : (w.alloc X).heap[w.heap.size]? = some X := World.alloc_heap_new w X
/-- What own has made before its words are there. -/
def OwnMid (w W0 : World) (g : Bool) (n bo b : Nat) (W : World) : Prop :=
  w.heap.size + 2 ≤ bo ∧ w.heap.size + 2 ≤ b ∧ b ≠ bo ∧ bo < W.heap.size ∧ b < W.heap.size ∧ Below W0.heap.size W0 W ∧ W.heap[bo]? = some (.cells #[.bool g, .slice (some ⟨b, 0, none⟩) 0 (n + 3)] 24 (0, 0)) ∧ Rm W b (n + 3)
theorem own_l1 {w W0 : World} (h : W0.heap.size = w.heap.size + 2) (g : Bool) (n : Nat) :
    OwnMid w W0 g n (w.heap.size + 2 + 1) (w.heap.size + 2) ((W0.alloc (.cells (zs n) 62)).alloc (.cells #[.bool g, .slice (some ⟨w.heap.size + 2, 0, none⟩) 0 (n + 3)] 24)).drew := by
  have k1 := (Below.refl W0.heap.size W0).alloc (Nat.le_refl _) (.cells (zs n) 62)
  have s1 : (W0.alloc (.cells (zs n) 62)).heap.size = w.heap.size + 2 + 1 := by simp [h]
  have k2 := (Below.refl (W0.alloc (.cells (zs n) 62)).heap.size (W0.alloc (.cells (zs n) 62))).alloc (Nat.le_refl _) (.cells #[.bool g, .slice (some ⟨w.heap.size + 2, 0, none⟩) 0 (n + 3)] 24)
  have e1 := own_block (w := W0) (.cells (zs n) 62)
  have e2 := own_block (w := W0.alloc (.cells (zs n) 62)) (.cells #[.bool g, .slice (some ⟨w.heap.size + 2, 0, none⟩) 0 (n + 3)] 24)
  have e3 := k2.block W0.heap.size (by omega)
  have s2 : ((W0.alloc (.cells (zs n) 62)).alloc (.cells #[.bool g, .slice (some ⟨w.heap.size + 2, 0, none⟩) 0 (n + 3)] 24)).heap.size = w.heap.size + 2 + 1 + 1 := by rw [← s1]; simp
  rw [s1] at e2
  rw [e1, h] at e3
  exact ⟨by omega, by omega, by omega, by show _ < Array.size (World.heap (World.alloc _ _)); rw [s2]; omega, by show _ < Array.size (World.heap (World.alloc _ _)); rw [s2]; omega, Below.drew (Below.up k1 k2), e2, zs n, e3, zs_size n⟩
theorem own_l2 {w W0 : World} (h : W0.heap.size = w.heap.size + 2) (g : Bool) (n : Nat) :
    OwnMid w W0 g n (w.heap.size + 2) (w.heap.size + 2 + 1) ((W0.alloc (.cells #[.bool g, .slice (some ⟨w.heap.size + 2 + 1, 0, none⟩) 0 (n + 3)] 24)).alloc (.cells (zs n) 62)).drew := by
  have k1 := (Below.refl W0.heap.size W0).alloc (Nat.le_refl _) (.cells #[.bool g, .slice (some ⟨w.heap.size + 2 + 1, 0, none⟩) 0 (n + 3)] 24)
  have s1 : (W0.alloc (.cells #[.bool g, .slice (some ⟨w.heap.size + 2 + 1, 0, none⟩) 0 (n + 3)] 24)).heap.size = w.heap.size + 2 + 1 := by simp [h]
  have k2 := (Below.refl (W0.alloc (.cells #[.bool g, .slice (some ⟨w.heap.size + 2 + 1, 0, none⟩) 0 (n + 3)] 24)).heap.size (W0.alloc (.cells #[.bool g, .slice (some ⟨w.heap.size + 2 + 1, 0, none⟩) 0 (n + 3)] 24))).alloc (Nat.le_refl _) (.cells (zs n) 62)
  have e1 := own_block (w := W0) (.cells #[.bool g, .slice (some ⟨w.heap.size + 2 + 1, 0, none⟩) 0 (n + 3)] 24)
  have e2 := own_block (w := W0.alloc (.cells #[.bool g, .slice (some ⟨w.heap.size + 2 + 1, 0, none⟩) 0 (n + 3)] 24)) (.cells (zs n) 62)
  have e3 := k2.block W0.heap.size (by omega)
  have s2 : ((W0.alloc (.cells #[.bool g, .slice (some ⟨w.heap.size + 2 + 1, 0, none⟩) 0 (n + 3)] 24)).alloc (.cells (zs n) 62)).heap.size = w.heap.size + 2 + 1 + 1 := by rw [← s1]; simp
  rw [s1] at e2
  rw [e1, h] at e3
  exact ⟨by omega, by omega, by omega, by show _ < Array.size (World.heap (World.alloc _ _)); rw [s2]; omega, by show _ < Array.size (World.heap (World.alloc _ _)); rw [s2]; omega, Below.drew (Below.up k1 k2), e3, zs n, e2, zs_size n⟩

set_option maxRecDepth 100000 in
theorem own_like (g : Bool) (a : Option Addr) (n c : Nat) (x : Nat → Int) (w : World) (hc : n ≤ c) (hd : Dg x) (hs : Sl w a n x) (hn : n ≤ 1000000) :
    Calls Tryd.prog 5 #[.agg #[.bool g, .slice a n c]] w fun e w' => ∃ b, e = .returned (.agg #[.bool g, .slice (some ⟨b, 0, none⟩) n (n + 3)]) ∧ w.heap.size ≤ b ∧ Row w' b 0 n x ∧ Below w.heap.size w w' ∧ Rm w' b (n + 3) := by
  have HU := Lib.hid (show AI w (.agg #[.bool g, .slice a n c]) n (sg g (V x n)) from ⟨g, a, c, x, rfl, hc, hd, hs, rfl⟩)
  have HS := Lib.hid hs
  clear hs
  go_enter Tryd.func5, Tryd.ntmps5
  go_wp2_with fail
  have HV := Lib.hid ((IV.new HU.out).below ((Below.refl _ _).alloc (Nat.le_refl _) (Obj.cells #[Value.bool false, Value.slice none 0 0] 24)))
  have hS0 : ((w.alloc (Obj.cells #[Value.bool g, Value.slice a n c] 24)).alloc (Obj.cells #[Value.bool false, Value.slice none 0 0] 24)).heap.size = w.heap.size + 2 := by simp
  have HB := Lib.hid (((Below.refl w.heap.size w).alloc (Nat.le_refl _) (Obj.cells #[Value.bool g, Value.slice a n c] 24)).alloc (by simp) (Obj.cells #[Value.bool false, Value.slice none 0 0] 24))
  have hRes0 := Lib.hid (own_block (w := w.alloc (Obj.cells #[Value.bool g, Value.slice a n c] 24)) (Obj.cells #[Value.bool false, Value.slice none 0 0] 24))
  rw [show (w.alloc (Obj.cells #[Value.bool g, Value.slice a n c] 24)).heap.size = w.heap.size + 1 from by simp] at hRes0
  generalize hW0 : ((w.alloc (Obj.cells #[Value.bool g, Value.slice a n c] 24)).alloc (Obj.cells #[Value.bool false, Value.slice none 0 0] 24)) = W0 at *
  clear hW0
  have M := Lib.hid (show ∀ w', Below W0.heap.size W0 w' → w'.cell? ⟨w.heap.size, 0, none⟩ = some (.bool g) ∧ w'.cell? ⟨w.heap.size, 1, none⟩ = some (.slice a n c) from fun w' h => ⟨(HV.out.below h).1, (HV.out.below h).2.1⟩)
  have hmk := make_eq n hn
  have hA := HV.out.1
  have hA1 := HV.out.2.1
  go_cut [3] from 4 (fun s0 W => ∃ (bo b : Nat), s0 = .pointer (some ⟨bo, 0, none⟩) ∧ Hid (OwnMid w W0 g n bo b W))
  case first =>
    rename_i hJ hK
    have B_ := Lib.hid (Below.refl W0.heap.size W0)
    have D_ := Lib.hid (Below.drew B_.out)
    go_region_held3 (fun w' => w'.cell? ⟨w.heap.size, 0, none⟩ = some (.bool g) ∧ w'.cell? ⟨w.heap.size, 1, none⟩ = some (.slice a n c))
      (exact M.out _ (by ((repeat (first | (with_reducible exact B_.out) | (with_reducible exact D_.out) | (with_reducible refine Below.alloc' ?_ _) | (with_reducible refine Below.drew' ?_))))))
      (fail)
    all_goals
      refine hK _ _ (Met.intro (hJ _ _ ?_))
      (repeat apply Exists.intro)
      refine ⟨?_, rfl⟩
    · exact ⟨_, _, rfl, Lib.hid (own_l1 hS0 g n)⟩
    · exact ⟨_, _, rfl, Lib.hid (own_l2 hS0 g n)⟩
  case rest =>
    obtain ⟨bo, b, rfl, hF⟩ := hcut
    generalize wc = w2 at *
    obtain ⟨b1, b2, b3, b4, b5, hB, hO, hR⟩ := hF.out
    clear hF
    obtain ⟨ca, ca1, _, _⟩ := HV.out.below hB
    have HR2 := Lib.hid hR
    clear hR
    have hS2 : Sl w2 a n x := sl_below HS.out (HB.out.trans (hB.mono (by omega)))
    have HS2 := Lib.hid hS2
    clear hS2
    have HB2 := Lib.hid (HB.out.trans (hB.mono (by omega)))
    have hRes := hB.block (w.heap.size + 1) (by omega)
    rw [hRes0.out] at hRes
    have co : w2.cell? ⟨bo, 0, none⟩ = some (.bool g) := by simp [World.cell?, hO]
    have co1 : w2.cell? ⟨bo, 1, none⟩ = some (.slice (some ⟨b, 0, none⟩) 0 (n + 3)) := by simp [World.cell?, hO]
    go_wp2_with (first
      | ((with_reducible refine is_append ?_); refine append32 rfl _ _ _ rfl (by kernel_rfl) b (n + 3) n c a x rfl rfl HS2.out HR2.out (by omega) (w.heap.size + 2) b2 ?_; intro w3 hRow hC hOth hRm; have e3 := (hOth bo b4 (Ne.symm b3)).trans hO; have e4 := (hOth (w.heap.size + 1) (by omega) (by omega)).trans hRes; have c3 : w3.cell? ⟨bo, 0, none⟩ = some (.bool g) := (by simp [World.cell?, e3]); have c31 : w3.cell? ⟨bo, 1, none⟩ = some (.slice (some ⟨b, 0, none⟩) 0 (n + 3)) := (by simp [World.cell?, e3]); have f31 : w3.frozen? ⟨bo, 1, none⟩ = false := (by simp [World.frozen?, e3]); have c4 : w3.cell? ⟨w.heap.size + 1, 0, none⟩ = some (.bool false) := (by simp [World.cell?, e4]); have c41 : w3.cell? ⟨w.heap.size + 1, 1, none⟩ = some (.slice none 0 0) := (by simp [World.cell?, e4]); have f4 : w3.frozen? ⟨w.heap.size + 1, 0, none⟩ = false := (by simp [World.frozen?, e4]); have f41 : w3.frozen? ⟨w.heap.size + 1, 1, none⟩ = false := (by simp [World.frozen?, e4]); have ne1 : bo ≠ w.heap.size + 1 := (by omega); have ne2 : w.heap.size + 1 ≠ bo := (by omega)))
    have h1 := ((hRow.setOther (a := ⟨bo, 1, none⟩) (by show bo ≠ b; omega) (.slice (some ⟨b, 0, none⟩) n (n + 3))).setOther (a := ⟨w.heap.size + 1, 0, none⟩) (by show w.heap.size + 1 ≠ b; omega) (.bool g)).setOther (a := ⟨w.heap.size + 1, 1, none⟩) (by show w.heap.size + 1 ≠ b; omega) (.slice (some ⟨b, 0, none⟩) n (n + 3))
    have h2 := (((HB2.out.trans (hC.mono (by omega))).setCell (p := ⟨bo, 1, none⟩) (by show _ ≤ bo; omega) (.slice (some ⟨b, 0, none⟩) n (n + 3))).setCell (p := ⟨w.heap.size + 1, 0, none⟩) (by show _ ≤ w.heap.size + 1; omega) (.bool g)).setCell (p := ⟨w.heap.size + 1, 1, none⟩) (by show _ ≤ w.heap.size + 1; omega) (.slice (some ⟨b, 0, none⟩) n (n + 3))
    exact bodyPost_ret (v := .agg #[.bool g, .slice (some ⟨b, 0, none⟩) n (n + 3)]) (by simp [results, Tryd.results5, go_sem, c4, c41, ne1, ne2, Ne.symm ne2]) rfl ⟨b, rfl, by omega, h1, h2, ((hRm.setOther (a := ⟨bo, 1, none⟩) (by show bo ≠ b; omega) _).setOther (a := ⟨w.heap.size + 1, 0, none⟩) (by show w.heap.size + 1 ≠ b; omega) _).setOther (a := ⟨w.heap.size + 1, 1, none⟩) (by show w.heap.size + 1 ≠ b; omega) _⟩

theorem own_any (u : Value) (n : Nat) (z : Int) (w : World) (hu : AI w u n z) (hn : n ≤ 1000000) :
    Calls Tryd.prog 5 #[u] w fun e w' => ∃ g b, e = .returned (.agg #[.bool g, .slice (some ⟨b, 0, none⟩) n (n + 3)]) ∧ w.heap.size ≤ b ∧ AI w' (.agg #[.bool g, .slice (some ⟨b, 0, none⟩) n (n + 3)]) n z ∧ Below w.heap.size w w' ∧ Rm w' b (n + 3) := by
  obtain ⟨g, a, c, x, rfl, hc, hd, hs, rfl⟩ := hu
  refine (own_like g a n c x w hc hd hs hn).mono ?_
  rintro e w' ⟨b, rfl, h1, h2, h3, h4⟩
  exact ⟨g, b, rfl, h1, ⟨g, _, _, x, rfl, by omega, hd, fun _ => ⟨_, _, rfl, h2⟩, rfl⟩, h3, h4⟩
end Go.Proofs.YtkhchaoehlefdaaDoor
