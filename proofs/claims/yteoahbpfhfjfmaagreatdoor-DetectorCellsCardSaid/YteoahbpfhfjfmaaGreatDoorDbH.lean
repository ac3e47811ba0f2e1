/- Layer 3: leaving a function in which ranges over functions have run. -/
import Derived.RangeFuncRecord
import Derived.RangeFuncLeaves
import Derived.Test.YteoahbpfhfjfmaaGreatDoorDbG
set_option linter.unusedVariables false
set_option linter.unusedSimpArgs false
namespace Go.Proofs.YteoahbpfhfjfmaaGreatDoor
open Go.RowKit

/-- A mark that a range over a function left. -/
abbrev mark (r : Nat) : Deferred := { target := .collected r, args := #[] }
/-- All marks lie as they were laid, from block B on. -/
def Marks (B : Nat) (rs : List Nat) (w : World) : Prop := rs.Nodup ∧ ∀ r ∈ rs, B ≤ r ∧ w.heap[r]? = some (.deferred (some []))
theorem Marks.same {B : Nat} {rs : List Nat} {w w' : World} (h : Marks B rs w) (k : ∀ r ∈ rs, w'.heap[r]? = w.heap[r]?) : Marks B rs w' :=
  ⟨h.1, fun r hr => ⟨(h.2 r hr).1, (k r hr).trans (h.2 r hr).2⟩⟩
theorem Marks.below {B : Nat} {rs : List Nat} {w w' : World} (h : Marks B rs w) (k : Below w.heap.size w w') : Marks B rs w' :=
  h.same fun r hr => k.block r (Array.getElem?_eq_some_iff.1 (h.2 r hr).2).1
theorem Marks.cons {B r : Nat} {rs : List Nat} {w : World} (h : Marks B rs w) (hB : B ≤ r) (hr : w.heap[r]? = some (.deferred (some []))) (hn : r ∉ rs) : Marks B (r :: rs) w :=
  ⟨List.nodup_cons.2 ⟨hn, h.1⟩, fun q hq => by
    rcases List.mem_cons.1 hq with rfl | hq
    · exact ⟨hB, hr⟩
    · exact h.2 q hq⟩
theorem Marks.nil {B : Nat} {w : World} : Marks B [] w := ⟨List.nodup_nil, fun _ h => by cases h⟩

/-- What leaving turns: marks from B on. -/
def Left (B : Nat) (w w' : World) : Prop := (∀ a, w'.cell? a = w.cell? a) ∧ Below B w w'
theorem leaves_marks {F : Fence} {n : Nat} {P : Program} {fn : Func} {tmps : Array Value} {R : Ending → World → Prop} {B : Nat} : ∀ (rs : List Nat) (w : World), Marks B rs w →
    (∀ w', Left B w w' → ∃ v, (results fn tmps).run P w' = .ok v w' ∧ R (.returned v) w') → LeavesInM F n P fn tmps R (rs.map mark) .returning w := by
  intro rs
  induction rs with
  | nil =>
    intro w _ h
    exact h w ⟨fun _ => rfl, Below.refl _ _⟩
  | cons r rs ih =>
    intro w hM h
    have hr := hM.2 r (List.mem_cons_self ..)
    have hnr : r ∉ rs := (List.nodup_cons.1 hM.1).1
    refine ⟨by simp, .inl ⟨r, _, rfl, run_takeDeferred hr.2, ?_⟩⟩
    have hlt := (Array.getElem?_eq_some_iff.1 hr.2).1
    have L0 : Left B w (w.putObj r (.deferred none)) := by
      refine ⟨fun a => ?_, ⟨rfl, rfl, rfl, by simp, fun _ hk => World.putObj_heap_other (by omega)⟩⟩
      unfold World.cell?
      by_cases ha : a.block = r
      · rw [ha, World.putObj_heap_same hlt, hr.2]
      · rw [World.putObj_heap_other ha]
    refine ih _ ⟨(List.nodup_cons.1 hM.1).2, fun q hq => ⟨(hM.2 q (List.mem_cons_of_mem _ hq)).1, ?_⟩⟩ fun w' hw' => h w' ⟨fun a => (hw'.1 a).trans (L0.1 a), L0.2.trans hw'.2⟩
    rw [World.putObj_heap_other (by intro e; subst e; exact hnr hq)]
    exact (hM.2 q (List.mem_cons_of_mem _ hq)).2
end Go.Proofs.YteoahbpfhfjfmaaGreatDoor
