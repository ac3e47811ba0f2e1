/- Layer 5: the law ReadoutSuppresses. -/
import Derived.Test.YtanillahofohgaaRaV
set_option linter.unusedVariables false
set_option linter.unusedSimpArgs false
set_option maxRecDepth 100000
namespace Go.Proofs.Ytanillahofohgaa
open Go.RowKit

theorem box_cells (w : World) (a b : Value) (t : TypeId) : (w.alloc (.cells #[a, b] t)).cell? ⟨w.heap.size, 0, none⟩ = some a ∧ (w.alloc (.cells #[a, b] t)).cell? ⟨w.heap.size, 1, none⟩ = some b := by
  unfold World.cell?
  rw [show (w.alloc (.cells #[a, b] t)).heap[w.heap.size]? = some (.cells #[a, b] t) from _root_.Go.heap_alloc_new w _]
  exact ⟨rfl, rfl⟩
theorem supH_len (l : List Int) (p q : Int) (d : List Int) : (supH l p q d).length ≤ l.length := by
  unfold supH
  split
  · exact supL_len l p q d _
  · exact Nat.zero_le _
end Go.Proofs.Ytanillahofohgaa
