/- Layer 3: the laws' example. -/
import Derived.Test.YteoahbpfhfjfmaaGreatDoorDcA
set_option linter.unusedVariables false
set_option linter.unusedSimpArgs false
namespace Go.Proofs.YteoahbpfhfjfmaaGreatDoor
open Go.RowKit
attribute [local go_sem] Oper.semAt_some

set_option maxRecDepth 100000 in
theorem example_any (w : World) : Calls Tryz.prog 34 #[] w fun e w' => (∃ b1 b2 b3, e = .returned (exV b1 b2 b3) ∧ Ex w' b1 b2 b3) ∧ Below w.heap.size w w' := by
  go_enter Tryz.func34, Tryz.ntmps34
  go_wp2_with fail
  refine bodyPost_ret (v := exV (w.heap.size + 1) (w.heap.size + 1 + 1) (w.heap.size + 1 + 1 + 1)) ?_ rfl ⟨⟨_, _, _, rfl, ?_⟩, ?_⟩
  · simp [results, Tryz.results34, go_sem]
  · unfold Ex
    simp [go_sem]
  · repeat (first | exact Below.refl _ _ | exact Nat.le_refl _ | (apply Below.alloc) | (simp <;> omega))
end Go.Proofs.YteoahbpfhfjfmaaGreatDoor
