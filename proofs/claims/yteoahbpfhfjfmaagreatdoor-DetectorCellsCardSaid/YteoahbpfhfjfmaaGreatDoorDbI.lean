/- Layer 3: a range over a chain. -/
import Derived.RangeFuncFrom
import Derived.RangeFuncNested
import Derived.Shelf.Abstract
import Derived.Test.YteoahbpfhfjfmaaGreatDoorDbH
set_option linter.unusedVariables false
set_option linter.unusedSimpArgs false
namespace Go.Proofs.YteoahbpfhfjfmaaGreatDoor
open Go.RowKit
attribute [local go_sem] Oper.semAt_some

/-- How a round over a chain may be left. -/
def rPost (B : Nat) (h : Prop) (Jx : World → Prop) (W : World) : Exit → Act → World → Prop
  | .normal, _, W' => KeepsOthers W W' ∧ Below B W W' ∧ ¬ h
  | .ret, _, W' => KeepsOthers W W' ∧ h ∧ Jx W'
  | _, _, _ => False

/-- The iterator's function is entered by a call. -/
theorem of1_enters (args : Array Value) (w : World) : (callFunc 102 args).run Tryz.prog w = .ok (.enter 102 args) w :=
  Go.Proofs.enters_of Tryz.func102 (by kernel_rfl) rfl args w

theorem range_chain {g : Operand} {ps : Array Tmp} {assign body : Code} {Q : Exit → Act → World → Prop} {act : Act} {w : World} (m : Nat) {bs bk x y k n κ : Nat} {L B : Nat → Int} {G : Nat → Prop} (ch : List {j : Nat // G j})
    (hg : act.eval g = .func (.func 102) #[] #[.pointer (some ⟨bs, 0, none⟩), .pointer (some ⟨bk, 0, none⟩)]) (hps : ps.size = 1)
    (hs0 : w.cell? ⟨bs, 0, none⟩ = some (.slice (some ⟨x, 0, none⟩) k k)) (hs1 : w.cell? ⟨bs, 1, none⟩ = some (.slice (some ⟨y, 0, none⟩) n n)) (hk0 : w.cell? ⟨bk, 0, none⟩ = some (.int .i64 κ))
    (hκ : κ < k) (hk : k ≤ 1000000) (hn' : n ≤ 1000000) (hx : Oi w x k L) (hy : Oi w y n B) (hch : Walks B n (L κ) (ch.map (·.1)))
    (hit : {j : Nat // G j} → Prop) (Jx : World → Prop) (hJx : OwnFrom w.heap.size (fun (_ : List {j : Nat // G j}) => Jx)) (a₁ : {j : Nat // G j} → Act)
    (hassign : ∀ (l : Nat) (j : {j : Nat // G j}) (W : World) (K : Act → World → Prop), K (a₁ j) W →
      assign.wpIn (Fence.wide.inRound l) m Tryz.prog (Exit.then K (fun _ _ _ => False)) { tmps := (ps.zip #[.int .i64 j.1]).foldl (fun t (p, v) => t.setIfInBounds p v) act.tmps, defers := [] } W)
    (hbody : ∀ (l : Nat) (j : {j : Nat // G j}) (W : World), Below w.heap.size w W → body.wpIn (Fence.wide.inRound l) m Tryz.prog (rPost w.heap.size (hit j) Jx W) (a₁ j) W)
    (hdone : ∀ (D : Nat) (W : World), w.heap.size ≤ D → (∀ j ∈ ch, ¬ hit j) → Below w.heap.size w W → W.heap[D]? = some (.deferred (some [])) → Q .normal { act with defers := mark D :: act.defers } W)
    (hstop : ∀ (D : Nat) (j : {j : Nat // G j}) (W : World), w.heap.size ≤ D → j ∈ ch → hit j → Jx W → W.heap[D]? = some (.deferred (some [])) → Code.ret.wpIn Fence.wide (m + 2) Tryz.prog Q { act with defers := mark D :: act.defers } W) :
    (Code.rangeFunc g ps assign body).wpIn Fence.wide (m + 2) Tryz.prog Q act w := by
  refine wpIn_rangeFunc_ownF (F := Fence.wide) (n := m + 2) rfl (by omega) (gf := 102) (lb := #[.pointer (some ⟨bs, 0, none⟩), .pointer (some ⟨bk, 0, none⟩)]) hg trivial of1_enters
    (of1_stops Fence.wide (m + 1) trivial rfl (by omega) bs bk x y k n κ L B ch w hs0 hs1 hk0 hκ hk hn' hx hy hch) belowK_t (belowK_b (Nat.le_refl _)) (Below.refl _ _) (fun _ => by simpa using hps.symm)
    (fun pre W => (∀ j ∈ pre, ¬ hit j) ∧ Below w.heap.size w W) (fun c pre W => (c = .ret ∧ ∃ j ∈ pre, hit j) ∧ Jx W)
    (OwnFrom.and (ownFrom_pure _ _) (ownFrom_below (Nat.le_refl _) (Nat.le_refl _)))
    (fun c => OwnFrom.and (ownFrom_pure _ _) hJx) ⟨fun j hj => absurd hj (by simp), Below.refl _ _⟩ a₁ hassign ?body ?done ?stop
  case body =>
    rintro l pre j W ⟨hp, hB⟩ _
    refine wpIn_mono (hbody l j W hB) ?_
    intro e a' W' h
    cases e with
    | normal =>
      obtain ⟨h1, h2, h3⟩ := h
      refine ⟨h1, h2, fun i hi => ?_, hB.trans h2⟩
      rcases List.mem_append.1 hi with hi | hi
      · exact hp i hi
      · rw [List.mem_singleton.1 hi]; exact h3
    | ret =>
      obtain ⟨h1, h2, h3⟩ := h
      exact ⟨h1, ⟨rfl, j, by simp, h2⟩, h3⟩
    | exit id => exact h.elim
    | goto t => exact h.elim
    | panic ch => exact h.elim
    | outgrown => exact h.elim
  case done =>
    rintro D xs W hD rfl ⟨h1, h2⟩ hK
    exact hdone D W hD h1 h2 hK
  case stop =>
    rintro D c pre W hD ⟨r, rfl⟩ ⟨⟨rfl, j, hj, h1⟩, h2⟩ hK
    exact hstop D j W hD (List.mem_append_left _ hj) h1 h2 hK
end Go.Proofs.YteoahbpfhfjfmaaGreatDoor
