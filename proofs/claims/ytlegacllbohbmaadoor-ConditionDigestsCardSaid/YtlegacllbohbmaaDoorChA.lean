/- Layer 4: what the rows' list gives. -/
import Derived.Test.YtlegacllbohbmaaDoorCbT
import Derived.Test.YtlegacllbohbmaaDoorRows
import Derived.Test.YtlegacllbohbmaaDoorTie
import Derived.Test.YtlegacllbohbmaaDoorCards
import Derived.ProofKit
import Derived.LaidMore
import Derived.OpenShut
import Derived.Lib.SmallJoins
import Derived.Lib.LaidTab
import Derived.Lib.LaidU8
import Derived.Stop.Joined
import Derived.SevenTiedAt
import Derived.Deep.DeepHandedRow
import Derived.Shelf.Vars
set_option linter.unusedVariables false
set_option linter.unusedSimpArgs false
namespace Go.Proofs.YtlegacllbohbmaaDoor
open Go Go.ChangeShapes Go.WideShapes Go.ChangeAt Go.RowKit

theorem cnOwn : ownKnob Tryd.prog.godebug = none := by kernel_rfl
theorem cnLaidOut : laidOutB Tryd.prog = true := by kernel_rfl
theorem cnInt1 : Tryd.prog.cellsOf 3 = 1 := by kernel_rfl
theorem cnByte1 : Tryd.prog.cellsOf 5 = 1 := by kernel_rfl
theorem cnTab64 : Tryd.prog.cellsOf 133 = 64 := by kernel_rfl
abbrev Laid4 : List (String × DataW Unit) := [("math/bits.deBruijn32tab", Rows.laid_math_bits_deBruijn32tab), ("math/bits.deBruijn64tab", Rows.laid_math_bits_deBruijn64tab), ("internal/strconv.uint64pow10", Rows.laid_internal_strconv_uint64pow10)]

/-- The table of powers. -/
theorem pow_of_laid {W : World} (h : laidMetH Tryd.prog Laid4 W) : Lib.TabIs Tryd.prog W "internal/strconv.uint64pow10" .u64 Lib.pow10Tab := by
  rw [MakeChecks.laidMetH_plain _ _ _ (by kernel_rfl)] at h
  obtain ⟨g, t, cs, fuel, p, hg, ht, hv, hd⟩ := Lib.laidMet.reads h (n := "internal/strconv.uint64pow10") (d := Rows.laid_internal_strconv_uint64pow10) (.tail _ (.tail _ (.head _)))
  have hg' : Tryd.prog.globalNamed "internal/strconv.uint64pow10" = some 0 := by kernel_rfl
  have ht' : (Tryd.prog.globals[0]?).map (·.type) = some 125 := by kernel_rfl
  obtain rfl := Option.some.inj (hg'.symm.trans hg)
  obtain rfl := Option.some.inj (ht'.symm.trans ht)
  have e : (Rows.laid_internal_strconv_uint64pow10 : DataW Unit) = Lib.tabData .u64 Lib.pow10Tab := by rfl
  rw [e] at hd
  unfold Lib.TabIs
  rw [hv, ← Lib.cells_of_tab Tryd.underlying125 Tryd.underlying22 (by kernel_rfl) (by kernel_rfl) hd]
/-- The table of trailing zeros, at the one place that is read. -/
theorem tz_of_laid {W : World} (h : laidMetH Tryd.prog Laid4 W) : Tz16 W := by
  rw [MakeChecks.laidMetH_plain _ _ _ (by kernel_rfl)] at h
  obtain ⟨g, t, cs, fuel, p, hg, ht, hv, hd⟩ := Lib.laidMet.reads h (n := "math/bits.deBruijn64tab") (d := Rows.laid_math_bits_deBruijn64tab) (.tail _ (.head _))
  have hg' : Tryd.prog.globalNamed "math/bits.deBruijn64tab" = some 3 := by kernel_rfl
  have ht' : (Tryd.prog.globals[3]?).map (·.type) = some 133 := by kernel_rfl
  obtain rfl := Option.some.inj (hg'.symm.trans hg)
  obtain rfl := Option.some.inj (ht'.symm.trans ht)
  have e : (Rows.laid_math_bits_deBruijn64tab : DataW Unit) = Lib.tabData .u8 (Lib.deBruijn64tab.map fun (z : Nat) => (z : Int)) := by rfl
  rw [e] at hd
  have hc := Lib.cells_of_tab Tryd.underlying133 Tryd.underlying5 (by kernel_rfl) (by kernel_rfl) hd
  unfold Tz16
  rw [World.var?_cell hg hv, ← Array.getElem?_toList, hc]
  rfl
theorem cnDoor (os : Os) (args : Array Value) : laidMetH Tryd.prog Laid4 ((World.doorLaid Tryd.prog 400 os).forCall (fun _ _ => 0) ⟨#[], args, []⟩).memory :=
  laidMetH_of_parts3 (fuel := 8) (laidMet_of_run' 8 (by kernel_rfl) (by kernel_rfl)) (by kernel_rfl) (by kernel_rfl)
end Go.Proofs.YtlegacllbohbmaaDoor
