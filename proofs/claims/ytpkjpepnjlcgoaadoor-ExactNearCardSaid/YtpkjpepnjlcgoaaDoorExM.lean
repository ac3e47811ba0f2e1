/- The digits of a number. -/
import Derived.Test.YtpkjpepnjlcgoaaDoorExL
namespace Go.Proofs.YtpkjpepnjlcgoaaDoor
open Go.RowKit
attribute [local go_sem] Oper.semAt_some

theorem groups_any (a : Option Addr) (n cap : Nat) (w : World) :
    Calls Tryd.prog 64 #[.slice a n cap] w fun e w' =>
      e = .returned (.func (.func 86) #[] #[.pointer (some ⟨w.heap.size, 0, none⟩)]) ∧ w' = w.alloc (.cells #[.slice a n cap] 60) := by
  go_enter Tryd.func64, Tryd.ntmps64
  go_wp2_with fail
  go_ret
  exact ⟨rfl, rfl⟩

/-- 'make' of n bytes, in a fence. -/
theorem u8_info : (Tryd.prog.info? 5).map (fun i => (i.zero, i.size, i.bytes)) = some (some (.int .u8 0), 1, 1) := by kernel_rfl
def OwnB (w : World) (b N : Nat) (x : Nat → Int) : Prop := ∃ C : Array Value, w.heap[b]? = some (.cells C 5 (0, 0)) ∧ C.size = N ∧ ∀ j, j < N → C[j]? = some (.int .u8 (x j))
theorem make8 {ops : Array Oper} {rest : List Oper} {o : Oper} {a : Act} {Q : Exit → Act → World → Prop} {w : World}
    (hg : o.guard = none) (l c : Operand) (t : TypeId) (hop : o.op = Op.makeSlice t l c) (h1 : Tryd.prog.underlying t = some (.slice 5))
    (n : Nat) (L C : Int) (hl : a.eval l = .int .i64 L) (hc : a.eval c = .int .i64 C) (hL : L = (n : Int)) (hC : C = (n : Int)) (hn : n ≤ 10000000000)
    (hK : ∀ w', OwnB w' w.heap.size n (fun _ => 0) → Below w.heap.size w w' → wpList Tryd.prog ops Q rest (a.put o.dst (.slice (some ⟨w.heap.size, 0, none⟩) n n)) w') :
    wpList Tryd.prog ops Q (o :: rest) a w := by
  obtain ⟨i, hi, hz0, hz1, hz2⟩ := info_parts u8_info
  refine wpList_make_full w hg l c t hop w.heap.size 5 i _ 1 h1 hi hz0 hz1 .i64 .i64 L C n hl hc hL hC (by rw [hz2]; omega) (by unfold maxLen; omega) (Nat.le_refl _) ?_
  intro w' hown hgrow
  refine hK w' ?_ ⟨hgrow.os, hgrow.tape, hgrow.output, hgrow.size, fun k hk => hgrow.block k hk (by simp)⟩
  obtain ⟨h1, h2 | ⟨g, cap, cur, hv, hg, hh, hle, hm, hsz, htk⟩⟩ := hown
  · exact absurd h2.1 (by simp)
  · simp only [Value.slice.injEq, Option.some.injEq, Addr.mk.injEq, and_true] at hv
    obtain ⟨hv1, _, hv2⟩ := hv
    subst hv1
    subst hv2
    refine ⟨cur, hh, by omega, fun j hj => ?_⟩
    have e : cur.toList = (madeCells (Value.int .u8 0).cells (n * 1)).toList := by
      rw [← htk, List.take_of_length_le (by simp; omega)]
    have e2 : cur = madeCells (Value.int .u8 0).cells (n * 1) := Array.toList_inj.1 e
    rw [e2]
    simp [madeCells, Value.cells, hj, Nat.mod_one]

theorem below_put (B : Nat) (w : World) (l : Nat) (o : Obj) (h : B ≤ l) : Below B w (w.putObj l o) :=
  ⟨rfl, rfl, rfl, by simp, fun _ hk => World.putObj_heap_other (by omega)⟩
/-- How a round over groups may be left. -/
def gPost (B : Nat) (z : Int) (i : Nat) (I : Nat → World → Prop) (Ix : Code → World → Prop) (w : World) : Exit → Act → World → Prop
  | .normal, _, w' => Kept B w w' ∧ I (i + 1) w' ∧ 0 < z / G9 (i + 1)
  | .exit id, _, w' => Kept B w w' ∧ Ix (.exit id) w'
  | _, _, _ => False

/-- A range over the groups of a number, whose body writes what lay ahead of the loop alone. -/
theorem range_groups {g : Operand} {ps : Array Tmp} {assign body : Code} {Q : Exit → Act → World → Prop} {act : Act} {w : World} (m pb n cap : Nat) (a : Option Addr) (z : Int)
    (hg : act.eval g = .func (.func 86) #[] #[.pointer (some ⟨pb, 0, none⟩)]) (hps : ps.size = 2)
    (hp : w.cell? ⟨pb, 0, none⟩ = some (.slice a n cap)) (hz : Nr w (.slice a n cap) n z) (hn : n ≤ 100000000) (hpos : 0 < z)
    (I : Nat → World → Prop) (Ix : Code → World → Prop) (hI : ∀ i w1 w2, I i w1 → Below w.heap.size w1 w2 → I i w2) (hIx : ∀ c w1 w2, Ix c w1 → Below w.heap.size w1 w2 → Ix c w2) (h0 : I 0 w)
    (a₁ : Int → Value → Act)
    (hassign : ∀ (l : Nat) (x : Int) (s : Value) (W : World) (K : Act → World → Prop), K (a₁ x s) W →
      assign.wpIn (Fence.wide.inRound l) 3 Tryd.prog (Exit.then K (fun _ _ _ => False)) { tmps := (ps.zip #[.int .u32 x, s]).foldl (fun t (p, v) => t.setIfInBounds p v) act.tmps, defers := [] } W)
    (hbody : ∀ (l i k : Nat) (s : Value) (W : World), I i W → w.heap.size ≤ W.heap.size → Nr W s k (z / G9 (i + 1)) → 0 < z / G9 i →
      body.wpIn (Fence.wide.inRound l) 3 Tryd.prog (gPost w.heap.size z i I Ix W) (a₁ (z / G9 i % 1000000000) s) W)
    (hstop : ∀ (c : Code) (W : World), Ix c W → W.heap[w.heap.size]? = some (.deferred (some [])) → w.heap.size + 2 ≤ W.heap.size →
      c.wpIn Fence.wide (m + 5) Tryd.prog Q { act with defers := { target := .collected w.heap.size, args := #[] } :: act.defers } W) :
    (Code.rangeFunc g ps assign body).wpIn Fence.wide (m + 5) Tryd.prog Q act w := by
  refine wpIn_rangeFunc ?_
  intro fn hfn
  obtain ⟨rec, hrec⟩ : ∃ rec : LoopState → Option Code → Loop, rec = fun st pe => { state := st, pending := pe, fn, tmps := act.tmps, params := ps, assign, body, defers := w.heap.size } := ⟨_, rfl⟩
  obtain ⟨W1, hW1⟩ : ∃ W1, (w.alloc (.deferred (some []))).alloc (.loop (rec .ready none)) = W1 := ⟨_, rfl⟩
  have hs1 : W1.heap.size = w.heap.size + 2 := by rw [← hW1]; simp
  have hL1 : W1.heap[w.heap.size + 1]? = some (.loop (rec .ready none)) := by
    rw [← hW1]; have := World.alloc_heap_new (w.alloc (.deferred (some []))) (.loop (rec .ready none)); rwa [World.size_alloc] at this
  have hK1 : W1.heap[w.heap.size]? = some (.deferred (some [])) := by
    rw [← hW1]; exact (Below.heap_alloc _ _ _ (by simp)).trans (World.alloc_heap_new w _)
  have hB1 : Below w.heap.size w W1 := by rw [← hW1]; exact ((Below.refl _ w).alloc (Nat.le_refl _) _).alloc (by simp) _
  have hp1 : W1.cell? ⟨pb, 0, none⟩ = some (.slice a n cap) := by
    have : pb < w.heap.size := by
      unfold World.cell? at hp
      split at hp
      · rename_i hb; exact (Array.getElem?_eq_some_iff.1 hb).1
      · simp at hp
    rw [← hp]; exact hB1.cell (p := ⟨pb, 0, none⟩) this
  refine ⟨w.heap.size + 1, [{ target := .collected w.heap.size, args := #[] }], W1, { target := .fn (.func 86) #[.pointer (some ⟨pb, 0, none⟩)], args := #[.func (.yield (w.heap.size + 1)) #[] #[]] }, W1, 86,
    #[.func (.yield (w.heap.size + 1)) #[] #[]] ++ #[.pointer (some ⟨pb, 0, none⟩)], W1, ?_, ?_, ?_, ?_, fun h => (by simp [Fence.wide] at h), ?_⟩
  · rw [← hW1, hrec]; exact run_enterLoop_outer _ _ _ _ _
  · simp only [resolve, hg]
    simp [go_sem]
  · intro f' _; trivial
  · simp [invoke, go_sem]
  · refine (callsIn_wide (n := m + 4)).2 (callsIn_wide.1 (groups_in (w.heap.size + 1) pb n cap a z W1 hp1 (hz.below hB1) hn hpos
      (fun i W => I i W ∧ W.heap[w.heap.size + 1]? = some (.loop (rec .ready none)) ∧ W.heap[w.heap.size]? = some (.deferred (some [])) ∧ w.heap.size + 2 ≤ W.heap.size)
      (fun W => ∃ c, Ix c W ∧ W.heap[w.heap.size + 1]? = some (.loop (rec .done (some c))) ∧ W.heap[w.heap.size]? = some (.deferred (some [])) ∧ w.heap.size + 2 ≤ W.heap.size)
      ?_ ?_ ?_ ⟨hI 0 w W1 h0 hB1, hL1, hK1, by omega⟩) |>.mono ?_)
    · rintro i A B ⟨h1, h2, h3, h4⟩ hb
      exact ⟨hI i A B h1 (hb.mono (by omega)), (hb.block _ (by omega)).trans h2, (hb.block _ (by omega)).trans h3, Nat.le_trans h4 hb.size⟩
    · rintro A B ⟨c, h1, h2, h3, h4⟩ hb
      exact ⟨c, hIx c A B h1 (hb.mono (by omega)), (hb.block _ (by omega)).trans h2, (hb.block _ (by omega)).trans h3, Nat.le_trans h4 hb.size⟩
    · rintro i W s k ⟨hi, hl, hk, hsz⟩ hW hN _ hz0
      have hy := run_yield (P := Tryd.prog) (args := #[.int .u32 (z / G9 i % 1000000000), s]) hl (by rw [hrec]; exact hps.symm)
      rw [hrec] at hy
      refine ⟨fn, _, assign, body, hy, roundIn_of_wpIn hfn (hassign _ _ s W _ ⟨_, run_beginRound hl (by rw [hrec]), ?_⟩)⟩
      have hl2 : (W.putObj (w.heap.size + 1) (.loop { rec .ready none with state := .busy })).heap[w.heap.size + 1]? = some (.loop { rec .ready none with state := .busy }) := World.putObj_heap_same (by omega)
      have hk2 : (W.putObj (w.heap.size + 1) (.loop { rec .ready none with state := .busy })).heap[w.heap.size]? = some (.deferred (some [])) := (World.putObj_heap_other (by omega)).trans hk
      have hbp : Below w.heap.size W (W.putObj (w.heap.size + 1) (.loop { rec .ready none with state := .busy })) := below_put _ _ _ _ (by omega)
      have hs2 : (W.putObj (w.heap.size + 1) (.loop { rec .ready none with state := .busy })).heap.size = W.heap.size := by simp
      have hx2 : ∀ k, k ≠ w.heap.size + 1 → (W.putObj (w.heap.size + 1) (.loop { rec .ready none with state := .busy })).heap[k]? = W.heap[k]? := fun k hk => World.putObj_heap_other hk
      have hN2 : Nr (W.putObj (w.heap.size + 1) (.loop { rec .ready none with state := .busy })) s k (z / G9 (i + 1)) := by
        obtain ⟨sa, sc, sx, e1, e2, e3, e4, e5⟩ := hN
        refine ⟨sa, sc, sx, e1, e2, e3, fun hn0 => ?_, e5⟩
        obtain ⟨b, off, eb, hr⟩ := e4 hn0
        refine ⟨b, off, eb, hr.same fun _ => hx2 b ?_⟩
        rintro rfl
        have := hr 0 hn0
        unfold World.cell? at this
        rw [show W.heap[(⟨w.heap.size + 1, off + 0, none⟩ : Addr).block]? = some (.loop (rec .ready none)) from hl] at this
        simp at this
      have hi2 := hI i _ _ hi hbp
      generalize W.putObj (w.heap.size + 1) (.loop { rec .ready none with state := .busy }) = W2 at *
      refine wpIn_mono (hbody _ i k s W2 hi2 (by omega) hN2 hz0) ?_
      have fin : ∀ (jump : Option Code) (W3 : World), Kept w.heap.size W2 W3 →
          (Instr.endRound (w.heap.size + 1) jump).run Tryd.prog W3 = .ok (.bool jump.isNone) (W3.putObj (w.heap.size + 1) (.loop (rec (if jump.isNone then .ready else .done) jump))) ∧
          (W3.putObj (w.heap.size + 1) (.loop (rec (if jump.isNone then .ready else .done) jump))).heap[w.heap.size + 1]? = some (.loop (rec (if jump.isNone then .ready else .done) jump)) ∧
          (W3.putObj (w.heap.size + 1) (.loop (rec (if jump.isNone then .ready else .done) jump))).heap[w.heap.size]? = some (.deferred (some [])) ∧ w.heap.size + 2 ≤ W3.heap.size := fun jump W3 hk3 => by
        have hl3 : W3.heap[w.heap.size + 1]? = some (.loop { rec .ready none with state := .busy }) := (hk3.2 _ (by omega) (by omega)).trans hl2
        have hk4 : W3.heap[w.heap.size]? = some (.deferred (some [])) := (hk3.2 _ (by omega) (by omega)).trans hk2
        have h5 := hk3.1
        have := run_endRound (P := Tryd.prog) jump hl3
        rw [hrec] at this ⊢
        exact ⟨this, World.putObj_heap_same (by omega), (World.putObj_heap_other (by omega)).trans hk4, by omega⟩
      rintro e a3 W3 hpost
      cases e with
      | normal =>
        obtain ⟨hk3, hi3, hz3⟩ := hpost
        obtain ⟨f1, f2, f3, f4⟩ := fin none W3 hk3
        refine ⟨_, _, f1, .inl ⟨rfl, ⟨hI _ _ _ hi3 (below_put _ _ _ _ (by omega)), f2, f3, by simp; omega⟩, ⟨?_, fun k' h1 h2 => ?_⟩, hz3⟩⟩
        · have := hk3.1; simp; omega
        · rw [World.putObj_heap_other (by omega), hk3.2 k' (by omega) (by omega)]; exact hx2 k' (by omega)
      | exit id =>
        obtain ⟨hk3, hi3⟩ := hpost
        obtain ⟨f1, f2, f3, f4⟩ := fin (some (.exit id)) W3 hk3
        exact ⟨_, _, f1, .inr ⟨rfl, _, hIx _ _ _ hi3 (below_put _ _ _ _ (by omega)), f2, f3, by simp; omega⟩⟩
      | ret => exact hpost.elim
      | goto t => exact hpost.elim
      | panic ch => exact hpost.elim
      | outgrown => exact hpost.elim
    · rintro e W2 ⟨rfl, c, hi, hl, hk, hsz⟩
      exact ⟨some c, _, by have := run_endLoop (P := Tryd.prog) hl (by rw [hrec]; simp); rw [hrec] at this; exact this, hstop c _ (hIx c _ _ hi (below_put _ _ _ _ (by omega))) ((World.putObj_heap_other (by omega)).trans hk) (by simp; omega)⟩

/-! ### The digits -/
def T10 (i : Nat) : Int := 10 ^ i
theorem T10_zero : T10 0 = 1 := rfl
theorem T10_pos (i : Nat) : 0 < T10 i := Int.pow_pos (by decide)
theorem T10_add (i k : Nat) : T10 (i + k) = T10 i * T10 k := Int.pow_add _ _ _
theorem T10_succ (i : Nat) : T10 (i + 1) = T10 i * 10 := Int.pow_succ _ _
theorem G9_T10 (i : Nat) : G9 i = T10 (9 * i) := by
  induction i with
  | zero => rfl
  | succ i ih =>
    have e : G9 (i + 1) = G9 i * 1000000000 := Int.pow_succ _ _
    have e2 : T10 9 = 1000000000 := by decide
    rw [e, ih, Nat.mul_succ, T10_add, e2]
theorem div_T10 (z : Int) (i k : Nat) : z / T10 i / T10 k = z / T10 (i + k) := by
  rw [T10_add, Int.ediv_ediv_of_nonneg (Int.le_of_lt (T10_pos i))]
theorem div_T10_succ (z : Int) (i : Nat) : z / T10 i / 10 = z / T10 (i + 1) := by
  rw [T10_succ, Int.ediv_ediv_of_nonneg (Int.le_of_lt (T10_pos i))]
/-- A digit. -/
def dd (z : Int) (i : Nat) : Int := z / T10 i % 10
theorem dd_range (z : Int) (i : Nat) : 0 ≤ dd z i ∧ dd z i ≤ 9 := by unfold dd; omega
theorem group_split (y : Int) (t : Nat) (ht : t ≤ 9) : y / T10 t = y / 1000000000 * T10 (9 - t) + y % 1000000000 / T10 t := by
  have e : T10 t * T10 (9 - t) = 1000000000 := by rw [← T10_add, show t + (9 - t) = 9 by omega]; decide
  have h := Int.mul_ediv_add_emod y 1000000000
  have hp := T10_pos t
  generalize y / 1000000000 = q at *
  generalize y % 1000000000 = r at *
  subst h
  have e2 : 1000000000 * q + r = r + T10 t * (T10 (9 - t) * q) := by rw [← Int.mul_assoc, e]; omega
  rw [e2, Int.add_mul_ediv_left _ _ (by omega), Int.mul_comm]; omega

/-- The words of a group are the digits. -/
theorem group_digit (z : Int) (i t : Nat) (ht : t < 9) : z / G9 i % 1000000000 / T10 t % 10 = dd z (9 * i + t) := by
  unfold dd
  rw [← div_T10, ← G9_T10]
  have h := group_split (z / G9 i) t (by omega)
  have e : T10 (9 - t) = T10 (8 - t) * 10 := by rw [← T10_succ]; congr 1; omega
  rw [e, ← Int.mul_assoc] at h
  rw [h]
  omega
theorem group_end (z : Int) (hz : 0 ≤ z) (i t : Nat) (ht : t ≤ 9) : z / T10 (9 * i + t) = 0 ↔ (z / G9 i % 1000000000 / T10 t = 0 ∧ z / G9 (i + 1) = 0) := by
  rw [← div_T10, ← G9_T10, ← ediv_pow]
  have h := group_split (z / G9 i) t ht
  rw [h]
  have hy : 0 ≤ z / G9 i := Int.ediv_nonneg hz (Int.le_of_lt (G9_pos i))
  have hq : 0 ≤ z / G9 i / 1000000000 := Int.ediv_nonneg hy (by omega)
  have hr : 0 ≤ z / G9 i % 1000000000 / T10 t := Int.ediv_nonneg (by omega) (Int.le_of_lt (T10_pos t))
  have hp := T10_pos (9 - t)
  have hm := Int.mul_nonneg hq (Int.le_of_lt hp)
  constructor
  · intro e
    refine ⟨by omega, ?_⟩
    have e2 : z / G9 i / 1000000000 * T10 (9 - t) = 0 := by omega
    rcases Int.mul_eq_zero.1 e2 with g | g
    · exact g
    · omega
  · rintro ⟨a, b⟩
    rw [a, b]; simp

theorem P_T10 (n : Nat) : P n ≤ T10 (10 * n) := by
  induction n with
  | zero => decide
  | succ n ih =>
    rw [P_succ, Nat.mul_succ, T10_add]
    have e : T10 10 = 10000000000 := by decide
    have h1 := P_pos n
    rw [e]; omega
theorem digits_room {z : Int} {n m : Nat} (h : z < P n) (hm : 0 < z / T10 m) : m < 10 * n := by
  rcases Nat.lt_or_ge m (10 * n) with g | g
  · exact g
  · have h2 := P_T10 n
    obtain ⟨d, rfl⟩ := Nat.exists_eq_add_of_le g
    have h3 : T10 (10 * n) ≤ T10 (10 * n + d) := by
      rw [T10_add]
      have := Int.mul_le_mul_of_nonneg_left (show 1 ≤ T10 d by have := T10_pos d; omega) (Int.le_of_lt (T10_pos (10 * n)))
      omega
    have : z / T10 (10 * n + d) ≤ 0 := by
      have := Int.ediv_lt_of_lt_mul (T10_pos (10 * n + d)) (show z < 1 * T10 (10 * n + d) by omega)
      omega
    omega

/-- m digits have been written. -/
def DigS (w : World) (bt bs ba N : Nat) (z : Int) (m : Nat) (W : World) : Prop :=
  ∃ x, OwnB W bt N x ∧ (∀ j, j < m → x (N - 1 - j) = 48 + dd z j) ∧ W.cell? ⟨bs, 0, none⟩ = some (.slice (some ⟨bt, 0, none⟩) N N) ∧ W.cell? ⟨ba, 0, none⟩ = some (.int .i64 ((N : Int) - (m : Int))) ∧ W.frozen? ⟨ba, 0, none⟩ = false ∧ Below w.heap.size w W

theorem OwnB.cell {w : World} {b N : Nat} {x : Nat → Int} (h : OwnB w b N x) {j : Nat} (hj : j < N) : w.cell? ⟨b, j, none⟩ = some (.int .u8 (x j)) := by
  obtain ⟨C, h1, h2, h3⟩ := h
  simp [World.cell?, h1, h3 j hj]
theorem OwnB.free {w : World} {b N : Nat} {x : Nat → Int} (h : OwnB w b N x) (j : Nat) : w.frozen? ⟨b, j, none⟩ = false := by
  obtain ⟨C, h1, h2, h3⟩ := h
  simp [World.frozen?, h1]
theorem OwnB.lt {w : World} {b N : Nat} {x : Nat → Int} (h : OwnB w b N x) : b < w.heap.size := by
  obtain ⟨C, h1, _⟩ := h
  exact (Array.getElem?_eq_some_iff.1 h1).1
theorem OwnB.same {w w' : World} {b N : Nat} {x : Nat → Int} (h : OwnB w b N x) (e : w'.heap[b]? = w.heap[b]?) : OwnB w' b N x := by
  obtain ⟨C, h1, h2, h3⟩ := h
  exact ⟨C, by rw [e, h1], h2, h3⟩
theorem OwnB.set {w : World} {b N : Nat} {x : Nat → Int} (h : OwnB w b N x) {j : Nat} (hj : j < N) (v : Int) : OwnB (w.setCell ⟨b, j, none⟩ (.int .u8 v)) b N (upd x j v) := by
  obtain ⟨C, h1, h2, h3⟩ := h
  refine ⟨C.setIfInBounds j (.int .u8 v), ?_, by simpa using h2, ?_⟩
  · simp [World.setCell, Array.getElem?_modify, h1]
  · intro i hi
    rw [Array.getElem?_setIfInBounds]
    by_cases e : j = i
    · subst e; rw [if_pos rfl, if_pos (by omega), upd_same]
    · rw [if_neg e, h3 i hi, upd_other (by omega)]
theorem OwnB.setOther {w : World} {b N : Nat} {x : Nat → Int} (h : OwnB w b N x) {a : Addr} (ha : a.block ≠ b) (v : Value) : OwnB (w.setCell a v) b N x :=
  h.same (Below.heap_setCell _ _ _ _ (Ne.symm ha))
theorem cell_setOther (w : World) {a b : Addr} (h : b.block ≠ a.block) (v : Value) : (w.setCell a v).cell? b = w.cell? b :=
  World.cell?_of_block (w := w) (Below.heap_setCell _ _ _ _ h)
theorem cell_lt {w : World} {b o : Nat} {v : Value} (h : w.cell? ⟨b, o, none⟩ = some v) : b < w.heap.size := by
  unfold World.cell? at h
  split at h
  · rename_i hb; exact (Array.getElem?_eq_some_iff.1 hb).1
  · simp at h

/-- One digit more: the place is moved, and the digit is stored. -/
theorem digS_step {w : World} {bt bs ba N : Nat} {z : Int} {m : Nat} {W : World} (h : DigS w bt bs ba N z m W) (h1 : w.heap.size ≤ bt) (h2 : bt < bs) (h3 : bs < ba) (hm : m < N) :
    DigS w bt bs ba N z (m + 1) ((W.setCell ⟨ba, 0, none⟩ (.int .i64 ((N : Int) - (m : Int) - 1))).setCell ⟨bt, N - m - 1, none⟩ (.int .u8 (48 + dd z m))) := by
  obtain ⟨x, hO, hx, hs, ha, hf, hB⟩ := h
  refine ⟨upd x (N - m - 1) (48 + dd z m), (hO.setOther (a := ⟨ba, 0, none⟩) (by simp; omega) _).set (by omega) _, fun j hj => ?_, ?_, ?_, ?_, ?_⟩
  · by_cases e : j = m
    · subst e; rw [show N - 1 - j = N - j - 1 by omega, upd_same]
    · rw [upd_other (by omega)]; exact hx j (by omega)
  · rw [cell_setOther _ (by simp; omega), cell_setOther _ (by simp; omega)]; exact hs
  · rw [cell_setOther _ (by simp; omega), World.cell?_setCell_same' _ _ _ (by rw [ha]; rfl)]
    congr 2; omega
  · rw [World.frozen?_setCell, World.frozen?_setCell]; exact hf
  · exact (hB.setCell (p := ⟨ba, 0, none⟩) (by simp; omega) _).setCell (p := ⟨bt, N - m - 1, none⟩) h1 _
theorem kept_set {B : Nat} {w w' : World} (h : Kept B w w') {a : Addr} (ha : a.block < B) (v : Value) : Kept B w (w'.setCell a v) :=
  ⟨by simpa [World.setCell] using h.1, fun k h1 h2 => (Below.heap_setCell _ _ _ _ (by omega)).trans (h.2 k h1 h2)⟩
end Go.Proofs.YtpkjpepnjlcgoaaDoor
