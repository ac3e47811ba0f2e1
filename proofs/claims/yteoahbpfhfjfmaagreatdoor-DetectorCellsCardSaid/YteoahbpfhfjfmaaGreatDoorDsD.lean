/- Layer 3: contracts: the fields of a plane, a slab, a cable. -/
import Derived.Test.YteoahbpfhfjfmaaGreatDoorDsC
import Derived.StillTailTactics
import Derived.RangeFuncRecord
set_option linter.unusedVariables false
set_option linter.unusedSimpArgs false
namespace Go.Proofs.YteoahbpfhfjfmaaGreatDoor
open Go.RowKit

/-- So many pointers to the places of a block. -/
def ptrs (pb : Nat) (m : Nat) : Array Value := ((List.range m).map fun k => Value.pointer (some ⟨pb, k, none⟩)).toArray

set_option maxRecDepth 20000 in
theorem slabFields_any (pb : Nat) (w : World) :
    Calls Tryz.prog 74 #[.pointer (some ⟨pb, 0, none⟩)] w fun e w' => e = .returned (.slice (some ⟨w.heap.size, 0, none⟩) 4 4) ∧ w'.heap[w.heap.size]? = some (.cells (ptrs pb 4) 146 (0, 0)) ∧ Below w.heap.size w w' := by
  go_enter Tryz.func74, Tryz.ntmps74
  go_wp2_with fail
  go_still_tail 12, (by kernel_rfl)
  go_wp2_with fail
  go_ret
  refine ⟨rfl, ?_, by repeat (first | exact Below.refl _ _ | exact Nat.le_refl _ | (apply Below.alloc) | (apply Below.drew) | (simp <;> omega))⟩
  exact World.alloc_heap_new w.drew (.cells #[.pointer (some ⟨pb, 0, none⟩), .pointer (some ⟨pb, 1, none⟩), .pointer (some ⟨pb, 2, none⟩), .pointer (some ⟨pb, 3, none⟩)] 146)

set_option maxRecDepth 20000 in
theorem planeFields_any (pb : Nat) (w : World) :
    Calls Tryz.prog 73 #[.pointer (some ⟨pb, 0, none⟩)] w fun e w' => e = .returned (.slice (some ⟨w.heap.size, 0, none⟩) 7 7) ∧ w'.heap[w.heap.size]? = some (.cells (ptrs pb 7) 146 (0, 0)) ∧ Below w.heap.size w w' := by
  go_enter Tryz.func73, Tryz.ntmps73
  go_wp2_with fail
  go_still_tail 21, (by kernel_rfl)
  go_wp2_with fail
  go_ret
  refine ⟨rfl, ?_, by repeat (first | exact Below.refl _ _ | exact Nat.le_refl _ | (apply Below.alloc) | (apply Below.drew) | (simp <;> omega))⟩
  exact World.alloc_heap_new w.drew (.cells #[.pointer (some ⟨pb, 0, none⟩), .pointer (some ⟨pb, 1, none⟩), .pointer (some ⟨pb, 2, none⟩), .pointer (some ⟨pb, 3, none⟩), .pointer (some ⟨pb, 4, none⟩), .pointer (some ⟨pb, 5, none⟩), .pointer (some ⟨pb, 6, none⟩)] 146)

set_option maxRecDepth 20000 in
theorem cableFields_any (pb : Nat) (w : World) :
    Calls Tryz.prog 75 #[.pointer (some ⟨pb, 0, none⟩)] w fun e w' => e = .returned (.slice (some ⟨w.heap.size, 0, none⟩) 9 9) ∧ w'.heap[w.heap.size]? = some (.cells (ptrs pb 9) 146 (0, 0)) ∧ Below w.heap.size w w' := by
  go_enter Tryz.func75, Tryz.ntmps75
  go_wp2_with fail
  go_still_tail 27, (by kernel_rfl)
  go_wp2_with fail
  go_ret
  refine ⟨rfl, ?_, by repeat (first | exact Below.refl _ _ | exact Nat.le_refl _ | (apply Below.alloc) | (apply Below.drew) | (simp <;> omega))⟩
  exact World.alloc_heap_new w.drew (.cells #[.pointer (some ⟨pb, 0, none⟩), .pointer (some ⟨pb, 1, none⟩), .pointer (some ⟨pb, 2, none⟩), .pointer (some ⟨pb, 3, none⟩), .pointer (some ⟨pb, 4, none⟩), .pointer (some ⟨pb, 5, none⟩), .pointer (some ⟨pb, 6, none⟩), .pointer (some ⟨pb, 7, none⟩), .pointer (some ⟨pb, 8, none⟩)] 146)
end Go.Proofs.YteoahbpfhfjfmaaGreatDoor
