/- The rows' arguments opened: integers; the table of the library that the row lists. -/
import Derived.Test.YtkhchaoehlefdaaDoorExR
import Derived.Test.YtkhchaoehlefdaaDoorRows
import Derived.Test.YtkhchaoehlefdaaDoorTie
import Derived.ProofKit
import Derived.LaidMore
import Derived.OpenShut
import Derived.Lib.SmallJoins
import Derived.Lib.LaidTab
import Derived.Stop.Joined
set_option linter.unusedVariables false
set_option linter.unusedSimpArgs false
namespace Go.Proofs.YtkhchaoehlefdaaDoor
open Go.ChangeShapes Go.WideShapes Go.ChangeAt Go.RowKit

theorem exOwn : ownKnob Tryd.prog.godebug = none := by kernel_rfl
theorem exLaidOut : laidOutB Tryd.prog = true := by kernel_rfl
theorem exInt2 : Tryd.prog.cellsOf 24 = 2 := by kernel_rfl
theorem exWord1 : Tryd.prog.cellsOf 62 = 1 := by kernel_rfl
theorem exByte1 : Tryd.prog.cellsOf 5 = 1 := by kernel_rfl
theorem exReadInt : Tryd.prog.readableRec 24 = true := by kernel_rfl
theorem exRowInt : (24 : TypeId) < Tryd.prog.types.size := of_decide_eq_true (by kernel_rfl)
theorem exTabName : Tryd.prog.globalNamed "math/bits.deBruijn64tab" = some 0 := by kernel_rfl
theorem exTabType : (Tryd.prog.globals[0]?).map (·.type) = some 118 := by kernel_rfl
theorem exTab64 : Tryd.prog.cellsOf 118 = 64 := by kernel_rfl

section
variable {H : Type} {enc : TypeId × Value → H}

set_option maxRecDepth 100000 in
/-- An argument that is an integer. -/
theorem openInt {W : World} {base : Nat} {v : Value} {d : DataW H} {p : List MemPlace} (hv : Value.okWide Tryd.prog W .any base 24 v)
    (h : DataW.Trod enc Tryd.prog W 0 (fun _ => true) true 24 v d p) : ∃ n z, AI W v n z := by
  obtain ⟨v0, v1, y0, y1, n, rfl, rfl, rfl, t0, t1⟩ := Go.Joins.open_agg2 Tryd.underlying24 (by kernel_rfl) exInt2 hv h
  obtain ⟨ng, e0, _⟩ := DataW.trod_bool Tryd.underlying4 t0
  simp only [List.cons.injEq, and_true] at e0
  subst e0
  rcases open_ints Tryd.underlying22 Tryd.underlying62 exWord1 t1 with ⟨e1, _⟩ | ⟨a, len, cap, zs, e1, _, hlc, _, hzl, _, hcell, hwf⟩
  · simp only [List.cons.injEq, and_true] at e1
    subst e1
    exact ⟨0, _, ng, none, 0, fun _ => 0, rfl, Nat.le_refl _, Dg_zero, fun h => absurd h (by omega), rfl⟩
  · simp only [List.cons.injEq, and_true] at e1
    subst e1
    rw [if_pos rfl] at hzl
    refine ⟨len, _, ng, some a, cap, fun j => zs.getD j 0, rfl, hlc, ?_, ?_, rfl⟩
    · intro j
      by_cases hj : j < zs.length
      · have hm := hwf (zs.getD j 0) (by rw [List.getD_eq_getElem?_getD, List.getElem?_eq_getElem hj]; exact List.getElem_mem hj)
        have := bounds_u32 hm
        exact ⟨this.1, this.2⟩
      · show 0 ≤ zs.getD j 0 ∧ zs.getD j 0 ≤ 4294967295
        rw [List.getD_eq_getElem?_getD, List.getElem?_eq_none (by omega)]
        decide
    · intro hp
      have h0 := hcell 0 (by omega)
      have hs : a.spot = none := World.cell?_spot (a := a) (by simpa [Addr.add] using h0)
      obtain ⟨b, off, spot⟩ := a
      simp only at hs
      subst hs
      refine ⟨b, off, rfl, fun j hj => ?_⟩
      exact add_plain b off j ▸ hcell j (by omega)
end

/-- What the row's list gives. -/
theorem tab_of_laid {W : World} (h : laidMetH Tryd.prog [("math/bits.deBruijn64tab", Rows.laid_math_bits_deBruijn64tab)] W) : Tab W := by
  rw [MakeChecks.laidMetH_plain _ _ _ (by kernel_rfl)] at h
  have e : (Rows.laid_math_bits_deBruijn64tab : DataW Unit) = Lib.tabData .u8 (Lib.deBruijn64tab.map fun (z : Nat) => (z : Int)) := by rfl
  rw [e] at h
  have ht := Lib.tabIs_of_head exTabName exTabType Tryd.underlying118 Tryd.underlying5 exByte1 exTab64 h
  intro j hj
  have := ht.cell exTabName j (by simpa using hj)
  rw [this]
  simp [List.getD_eq_getElem?_getD, List.getElem?_map]
  rw [List.getElem?_eq_getElem hj]
  rfl
theorem exDoor (os : Os) (args : Array Value) : laidMetH Tryd.prog [("math/bits.deBruijn64tab", Rows.laid_math_bits_deBruijn64tab)] ((World.doorLaid Tryd.prog 400 os).forCall (fun _ _ => 0) ⟨#[], args, []⟩).memory :=
  laidMetH_of_parts3 (fuel := 8) (laidMet_of_run' 8 (by kernel_rfl) (by kernel_rfl)) (by kernel_rfl) (by kernel_rfl)
end Go.Proofs.YtkhchaoehlefdaaDoor
