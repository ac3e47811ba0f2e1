/- Layer 3: the law of the range over two lines. -/
import Derived.Test.YteoahbpfhfjfmaaGreatDoorDsG
set_option linter.unusedVariables false
set_option linter.unusedSimpArgs false
namespace Go.Proofs.YteoahbpfhfjfmaaGreatDoor
open Go.RowKit
attribute [local go_sem] Oper.semAt_some

/-- Blocks from B on lie as they lay. -/
def Kept (B : Nat) (w w' : World) : Prop := w.heap.size ≤ w'.heap.size ∧ ∀ k, B ≤ k → k < w.heap.size → w'.heap[k]? = w.heap[k]?
/-- A word on a world that no change from block B on takes away. -/
def Stab (B : Nat) (I : World → Prop) : Prop := ∀ W W', I W → Below B W W' → I W'
theorem below_put (B : Nat) (w : World) (l : Nat) (o : Obj) (h : B ≤ l) : Below B w (w.putObj l o) :=
  ⟨rfl, rfl, rfl, by simp, fun _ hk => World.putObj_heap_other (by omega)⟩
def lPost0 (B : Nat) (I : World → Prop) (w : World) : Exit → Act → World → Prop
  | .normal, _, w' => Kept B w w' ∧ I w'
  | _, _, _ => False
def lPost1 (B : Nat) (Ix : Code → World → Prop) (w : World) : Exit → Act → World → Prop
  | .exit id, _, w' => Kept B w w' ∧ Ix (.exit id) w'
  | _, _, _ => False

theorem range_lines {g : Operand} {ps : Array Tmp} {assign body : Code} {Q : Exit → Act → World → Prop} {act : Act} {w : World} (m pb : Nat)
    (hg : act.eval g = .func (.func 104) #[] #[.pointer (some ⟨pb, 0, none⟩)]) (hps : ps.size = 2)
    (hp : w.cell? ⟨pb, 0, none⟩ = some (.string ⟨TXT.toArray⟩)) (hml : ML w)
    (I1 I2 : World → Prop) (Ix : Code → World → Prop) (s1 : Stab w.heap.size I1) (s2 : Stab w.heap.size I2) (sx : ∀ c, Stab w.heap.size (Ix c))
    (hI1 : ∀ W, I1 W → W.cell? ⟨pb, 0, none⟩ = some (.string ⟨TXT.toArray⟩) ∧ W.frozen? ⟨pb, 0, none⟩ = false ∧ ML (W.setCell ⟨pb, 0, none⟩ (.string ⟨LN1.toArray⟩)) ∧ I2 (W.setCell ⟨pb, 0, none⟩ (.string ⟨LN1.toArray⟩)))
    (a₁ : Value → Value → Act)
    (hassign : ∀ (l : Nat) (x y : Value) (W : World) (K : Act → World → Prop), K (a₁ x y) W →
      assign.wpIn (Fence.wide.inRound l) 3 Tryz.prog (Exit.then K (fun _ _ _ => False)) { tmps := (ps.zip #[x, y]).foldl (fun t (p, v) => t.setIfInBounds p v) act.tmps, defers := [] } W)
    (hbody0 : ∀ (l : Nat) (W : World), Below w.heap.size w W → body.wpIn (Fence.wide.inRound l) 3 Tryz.prog (lPost0 w.heap.size I1 W) (a₁ (.string ⟨LN0.toArray⟩) (.bool true)) W)
    (hbody1 : ∀ (l : Nat) (W : World), I2 W → w.heap.size ≤ W.heap.size → body.wpIn (Fence.wide.inRound l) 3 Tryz.prog (lPost1 w.heap.size Ix W) (a₁ (.string ⟨LN1.toArray⟩) (.bool false)) W)
    (hstop : ∀ (c : Code) (W : World), Ix c W → W.heap[w.heap.size]? = some (.deferred (some [])) → w.heap.size + 2 ≤ W.heap.size →
      c.wpIn Fence.wide (m + 5) Tryz.prog Q { act with defers := { target := .collected w.heap.size, args := #[] } :: act.defers } W) :
    (Code.rangeFunc g ps assign body).wpIn Fence.wide (m + 5) Tryz.prog Q act w := by
  refine wpIn_rangeFunc ?_
  intro fn hfn
  obtain ⟨rec, hrec⟩ : ∃ rec : LoopState → Option Code → Loop, rec = fun st pe => { state := st, pending := pe, fn, tmps := act.tmps, params := ps, assign, body, defers := w.heap.size } := ⟨_, rfl⟩
  obtain ⟨W1, hW1⟩ : ∃ W1, (w.alloc (.deferred (some []))).alloc (.loop (rec .ready none)) = W1 := ⟨_, rfl⟩
  have hs1 : W1.heap.size = w.heap.size + 2 := by rw [← hW1]; simp
  have hL1 : W1.heap[w.heap.size + 1]? = some (.loop (rec .ready none)) := by
    rw [← hW1]; have := World.alloc_heap_new (w.alloc (.deferred (some []))) (.loop (rec .ready none)); rwa [World.size_alloc] at this
  have hK1 : W1.heap[w.heap.size]? = some (.deferred (some [])) := by
    rw [← hW1]; exact (Below.heap_alloc _ _ _ (by simp)).trans (World.alloc_heap_new w _)
  have hB1 : Below w.heap.size w W1 := by rw [← hW1]; exact ((Below.refl _ w).alloc (Nat.le_refl _) _).alloc (by simp) _
  have hpb := cell_lt hp
  have hp1 : W1.cell? ⟨pb, 0, none⟩ = some (.string ⟨TXT.toArray⟩) := bc hB1 hp
  have hml1 := hml.below hB1
  have fin : ∀ (jump : Option Code) (W W2 W3 : World), W.heap[w.heap.size + 1]? = some (.loop (rec .ready none)) → W.heap[w.heap.size]? = some (.deferred (some [])) → w.heap.size + 2 ≤ W.heap.size → W2 = W.putObj (w.heap.size + 1) (.loop { rec .ready none with state := .busy }) → Kept w.heap.size W2 W3 →
      (Instr.endRound (w.heap.size + 1) jump).run Tryz.prog W3 = .ok (.bool jump.isNone) (W3.putObj (w.heap.size + 1) (.loop (rec (if jump.isNone then .ready else .done) jump))) ∧
      (W3.putObj (w.heap.size + 1) (.loop (rec (if jump.isNone then .ready else .done) jump))).heap[w.heap.size + 1]? = some (.loop (rec (if jump.isNone then .ready else .done) jump)) ∧
      (W3.putObj (w.heap.size + 1) (.loop (rec (if jump.isNone then .ready else .done) jump))).heap[w.heap.size]? = some (.deferred (some [])) ∧ w.heap.size + 2 ≤ W3.heap.size := fun jump W W2 W3 hl hk hsz e2 hk3 => by
    have hl2 : W2.heap[w.heap.size + 1]? = some (.loop { rec .ready none with state := .busy }) := by rw [e2]; exact World.putObj_heap_same (by omega)
    have hk2 : W2.heap[w.heap.size]? = some (.deferred (some [])) := by rw [e2]; exact (World.putObj_heap_other (by omega)).trans hk
    have hs2 : W2.heap.size = W.heap.size := by rw [e2]; simp
    have hl3 : W3.heap[w.heap.size + 1]? = some (.loop { rec .ready none with state := .busy }) := (hk3.2 _ (by omega) (by omega)).trans hl2
    have hk4 : W3.heap[w.heap.size]? = some (.deferred (some [])) := (hk3.2 _ (by omega) (by omega)).trans hk2
    have h5 := hk3.1
    have := run_endRound (P := Tryz.prog) jump hl3
    rw [hrec] at this ⊢
    exact ⟨this, World.putObj_heap_same (by omega), (World.putObj_heap_other (by omega)).trans hk4, by omega⟩
  refine ⟨w.heap.size + 1, [{ target := .collected w.heap.size, args := #[] }], W1, { target := .fn (.func 104) #[.pointer (some ⟨pb, 0, none⟩)], args := #[.func (.yield (w.heap.size + 1)) #[] #[]] }, W1, 104,
    #[.func (.yield (w.heap.size + 1)) #[] #[]] ++ #[.pointer (some ⟨pb, 0, none⟩)], W1, ?_, ?_, ?_, ?_, fun h => (by simp [Fence.wide] at h), ?_⟩
  · rw [← hW1, hrec]; exact run_enterLoop_outer _ _ _ _ _
  · simp only [resolve, hg]
    simp [go_sem]
  · intro f' _; trivial
  · simp [invoke, go_sem]
  · refine (callsIn_wide (n := m + 4)).2 (callsIn_wide.1 (lines_in (w.heap.size + 1) pb W1
      (fun W => Below w.heap.size w W ∧ W.heap[w.heap.size + 1]? = some (.loop (rec .ready none)) ∧ W.heap[w.heap.size]? = some (.deferred (some [])) ∧ w.heap.size + 2 ≤ W.heap.size)
      (fun W => I1 W ∧ W.heap[w.heap.size + 1]? = some (.loop (rec .ready none)) ∧ W.heap[w.heap.size]? = some (.deferred (some [])) ∧ w.heap.size + 2 ≤ W.heap.size)
      (fun W => I2 W ∧ W.heap[w.heap.size + 1]? = some (.loop (rec .ready none)) ∧ W.heap[w.heap.size]? = some (.deferred (some [])) ∧ w.heap.size + 2 ≤ W.heap.size)
      (fun W => ∃ c, Ix c W ∧ W.heap[w.heap.size + 1]? = some (.loop (rec .done (some c))) ∧ W.heap[w.heap.size]? = some (.deferred (some [])) ∧ w.heap.size + 2 ≤ W.heap.size)
      hp1 hml1 (fun n => ⟨Below.drewN hB1 n, hL1, hK1, by show _ ≤ W1.heap.size; omega⟩) ?_ ?_ ?_) |>.mono ?_)
    · rintro W ⟨hi, hl, hk, hsz⟩
      have hy := run_yield (P := Tryz.prog) (args := #[.string ⟨LN0.toArray⟩, .bool true]) hl (by rw [hrec]; exact hps.symm)
      rw [hrec] at hy
      refine ⟨fn, _, assign, body, hy, roundIn_of_wpIn hfn (hassign _ _ _ W _ ⟨_, run_beginRound hl (by rw [hrec]), ?_⟩)⟩
      have hbp : Below w.heap.size W (W.putObj (w.heap.size + 1) (.loop { rec .ready none with state := .busy })) := below_put _ _ _ _ (by omega)
      refine wpIn_mono (hbody0 _ (W.putObj (w.heap.size + 1) (.loop { rec .ready none with state := .busy })) (hi.trans hbp)) ?_
      rintro e a3 W3 hpost
      cases e with
      | normal =>
        obtain ⟨hk3, hi3⟩ := hpost
        obtain ⟨f1, f2, f3, f4⟩ := fin none W _ W3 hl hk hsz rfl hk3
        exact ⟨_, _, f1, rfl, s1 _ _ hi3 (below_put _ _ _ _ (by omega)), f2, f3, by simp; omega⟩
      | exit id => exact hpost.elim
      | ret => exact hpost.elim
      | goto t => exact hpost.elim
      | panic ch => exact hpost.elim
      | outgrown => exact hpost.elim
    · rintro W ⟨hi, hl, hk, hsz⟩
      obtain ⟨q1, q2, q3, q4⟩ := hI1 W hi
      refine ⟨q1, q2, q3, fun n => ⟨s2 _ _ q4 (Below.drewN (Below.refl _ _) n), ?_, ?_, ?_⟩⟩
      · exact (Below.heap_setCell _ _ _ _ (by show w.heap.size + 1 ≠ pb; omega)).trans hl
      · exact (Below.heap_setCell _ _ _ _ (by show w.heap.size ≠ pb; omega)).trans hk
      · show _ ≤ (W.setCell _ _).heap.size
        simpa using hsz
    · rintro W ⟨hi, hl, hk, hsz⟩
      have hy := run_yield (P := Tryz.prog) (args := #[.string ⟨LN1.toArray⟩, .bool false]) hl (by rw [hrec]; exact hps.symm)
      rw [hrec] at hy
      refine ⟨fn, _, assign, body, hy, roundIn_of_wpIn hfn (hassign _ _ _ W _ ⟨_, run_beginRound hl (by rw [hrec]), ?_⟩)⟩
      have hbp : Below w.heap.size W (W.putObj (w.heap.size + 1) (.loop { rec .ready none with state := .busy })) := below_put _ _ _ _ (by omega)
      refine wpIn_mono (hbody1 _ (W.putObj (w.heap.size + 1) (.loop { rec .ready none with state := .busy })) (s2 _ _ hi hbp) (by simp; omega)) ?_
      rintro e a3 W3 hpost
      cases e with
      | exit id =>
        obtain ⟨hk3, hi3⟩ := hpost
        obtain ⟨f1, f2, f3, f4⟩ := fin (some (.exit id)) W _ W3 hl hk hsz rfl hk3
        exact ⟨_, _, f1, rfl, _, sx _ _ _ hi3 (below_put _ _ _ _ (by omega)), f2, f3, by simp; omega⟩
      | normal => exact hpost.elim
      | ret => exact hpost.elim
      | goto t => exact hpost.elim
      | panic ch => exact hpost.elim
      | outgrown => exact hpost.elim
    · rintro e W2 ⟨rfl, c, hi, hl, hk, hsz⟩
      exact ⟨some c, _, by have := run_endLoop (P := Tryz.prog) hl (by rw [hrec]; simp); rw [hrec] at this; exact this, hstop c _ (sx c _ _ hi (below_put _ _ _ _ (by omega))) ((World.putObj_heap_other (by omega)).trans hk) (by simp; omega)⟩
end Go.Proofs.YteoahbpfhfjfmaaGreatDoor
