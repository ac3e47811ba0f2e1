/- Layer 5: the law ReadoutSuppresses. -/
import Derived.Test.YtlnllpmjolppbaaRaV
set_option linter.unusedVariables false
set_option linter.unusedSimpArgs false
set_option maxRecDepth 100000
namespace Go.Proofs.Ytlnllpmjolppbaa
open Go.RowKit

theorem box_cells (w : World) (a b : Value) (t : TypeId) : (w.alloc (.cells #[a, b] t)).cell? ⟨w.heap.size, 0, none⟩ = some a ∧ (w.alloc (.cells #[a, b] t)).cell? ⟨w.heap.size, 1, none⟩ = some b := by
  unfold World.cell?
  rw [show (w.alloc (.cells #[a, b] t)).heap[w.heap.size]? = some (.cells #[a, b] t) from _root_.Go.heap_alloc_new w _]
  exact ⟨rfl, rfl⟩
theorem supH_len (l : List Int) (p q : Int) (d : List Int) : (supH l p q d).length ≤ l.length := by
  unfold supH
  split
  · exact supL_len l p q d _
  · exact Nat.zero_le _
set_option maxHeartbeats 3200000 in
theorem suppresses_any (va vd : Value) (l d : List Int) (p q : Int) (w : World) (ha : InS w va l) (hd : InS w vd d) (hp : I64 p) (hq : I64 q) :
    Calls Try.prog 3 #[va, .agg #[.int .i64 p, .int .i64 q], vd] w fun e w' => e = .returned (.bool true) ∧ Below w.heap.size w w' := by
  obtain ⟨W1, hW1⟩ : ∃ W, W = w.alloc (.cells #[.int .i64 p, .int .i64 q] 23) := ⟨_, rfl⟩
  have k1 : Below w.heap.size w W1 := by rw [hW1]; exact (Below.refl _ _).alloc (Nat.le_refl _) _
  have C1 : W1.cell? ⟨w.heap.size, 0, none⟩ = some (.int .i64 p) ∧ W1.cell? ⟨w.heap.size, 1, none⟩ = some (.int .i64 q) := by rw [hW1]; exact box_cells _ _ _ _
  obtain ⟨c0, c1⟩ := C1
  have HA := Lib.hid (ha.below k1)
  have HD := Lib.hid (hd.below k1)
  have B1 := Lib.hid k1
  have AW := Lib.hid (awake_any W1)
  obtain ⟨a, ca, rfl, _⟩ := ha.form
  obtain ⟨dd, cd, rfl, _⟩ := hd.form
  clear ha hd k1
  have hns : (5000 : Int) < (l.length : Int) ∨ ¬ (5000 : Int) < (l.length : Int) ∧ (100 : Int) < (d.length : Int) ∨ (¬ (5000 : Int) < (l.length : Int) ∧ ¬ (100 : Int) < (d.length : Int)) := by omega
  rcases hns with i1 | ⟨i1, i2⟩ | ⟨i1, i2⟩
  iterate 2
    · go_enter Try.func3, Try.ntmps3
      go_wp2_with fail
      rw [← hW1]
      clear hW1
      go_wp2_with (refine AW.out.mono ?_; rintro e w2 ⟨rfl, b2⟩)
      go_ret
      exact ⟨rfl, Below.up B1.out b2⟩
  have HS := Lib.hid (Suppress_any _ _ l d p q W1 HA.out HD.out (by omega) (by omega) hp hq)
  go_enter Try.func3, Try.ntmps3
  go_wp2_with fail
  rw [← hW1]
  clear hW1 AW
  go_wp2_with fail
  refine HS.out.mono ?_
  rintro e w2 ⟨v2, rfl, h2, b2⟩
  have L2 := Lib.hid h2.hi
  obtain ⟨a2, k2, e2, _⟩ := h2.hi.form
  subst e2
  have HR := Lib.hid (refSuppress_any _ _ l d p q w2 (HA.out.below b2) (HD.out.below b2) (by omega) (by omega) hp hq)
  have B2 := Lib.hid (Below.up B1.out b2)
  replace c0 := bc b2 c0
  replace c1 := bc b2 c1
  clear h2 b2 HS HA HD B1
  go_wp2_with fail
  refine HR.out.mono ?_
  rintro e w3 ⟨v3, rfl, h3, b3⟩
  have L3 := Lib.hid h3.hi
  obtain ⟨a3, k3, e3, _⟩ := h3.hi.form
  subst e3
  have HH := Lib.hid (SameHits_any _ _ _ _ w3 (L2.out.below b3) L3.out (by have := supH_len l p q d; omega))
  have B3 := Lib.hid (Below.up B2.out b3)
  clear h3 b3 HR c0 c1 L2 L3 B2
  generalize (supH l p q d) = hits at *
  go_wp2_with fail
  refine HH.out.mono ?_
  rintro e w4 ⟨rfl, b4⟩
  rw [show decide True = true from rfl]
  have B4 := Lib.hid (Below.up B3.out b4)
  clear b4 HH B3
  go_wp2_with fail
  refine (awake_any w4).mono ?_
  rintro e w5 ⟨rfl, b5⟩
  go_wp2_with fail
  go_ret
  exact ⟨rfl, Below.up B4.out b5⟩
end Go.Proofs.Ytlnllpmjolppbaa
