/-
  DERIVED. GIVEN WITH THE SEED: THE CARDS: each row of YtidpjgkjeocgaaaDoorRows.lean that lists a variable, with what it lists TIED to the program's text (the seventh form; the later family's looks); each row that meets fmt, with fmt's text TOLD by the authors' own Lean function (tested against real Go, not proved from fmt's source: count such statements apart). THE CARD IS WHAT COUNTS. Prove the row's statement (the work); the ties are given (YtidpjgkjeocgaaaDoorTie.lean); close each card by the builder's one call (the guide's Derived/Test/ToyasCard.lean, 'card_holds'). Laid BY PROGRAM, IN A SANDBOX (cutbox-door.mjs). By AI agents, Wed Nov 11 2026. No macro, syntax, notation, axiom, sorry.
-/
import Derived.Test.YtidpjgkjeocgaaaDoorRows
import GoSem.ClaimSeven
namespace Go.Proofs.YtidpjgkjeocgaaaDoor
namespace Rows

/-- THE TIED CARD OF 'hodoscopelaw04.ConditionValues'. -/
def conditionValuesCard : Claim7 := { stood := { row := conditionValuesRow, standIns := [], harness := (true, "d467edfc15e53c67ebf4116f2b846b91799719a45c2373883caad64099f6ec3d"), looks := false }, kinds := [], alts := [], laidByText := true, laidKinds := [.data, .data, .data], laidTests := true, laidLooks := .later }
def ConditionValuesCardSaid : Prop := Claim7.holds Tryd.pinned (.plain (OpenSpec.ofChange conditionValuesSpec)) conditionValuesCard

/-- THE TIED CARD OF 'hodoscopelaw04.ConditionDigests'. -/
def conditionDigestsCard : Claim7 := { stood := { row := conditionDigestsRow, standIns := [], harness := (true, "d467edfc15e53c67ebf4116f2b846b91799719a45c2373883caad64099f6ec3d"), looks := false }, kinds := [], alts := [], laidByText := true, laidKinds := [.data, .data, .data], laidTests := true, laidLooks := .later }
def ConditionDigestsCardSaid : Prop := Claim7.holds Tryd.pinned (.plain (OpenSpec.ofChange conditionDigestsSpec)) conditionDigestsCard

/-- THE SECOND FORM's CARD OF 'hodoscopelaw04.ConditionValues'. -/
def conditionValuesUptoCard : Claim7 := { stood := { row := conditionValuesUptoRow, standIns := [], harness := (true, "d467edfc15e53c67ebf4116f2b846b91799719a45c2373883caad64099f6ec3d"), looks := false }, kinds := [], alts := [], laidByText := true, laidKinds := [.data, .data, .data], laidTests := true, laidLooks := .later }
def ConditionValuesUptoCardSaid : Prop := Claim7.holds Tryd.pinned (.plain (OpenSpec.upto conditionValuesSpec)) conditionValuesUptoCard

/-- THE SECOND FORM's CARD OF 'hodoscopelaw04.ConditionDigests'. -/
def conditionDigestsUptoCard : Claim7 := { stood := { row := conditionDigestsUptoRow, standIns := [], harness := (true, "d467edfc15e53c67ebf4116f2b846b91799719a45c2373883caad64099f6ec3d"), looks := false }, kinds := [], alts := [], laidByText := true, laidKinds := [.data, .data, .data], laidTests := true, laidLooks := .later }
def ConditionDigestsUptoCardSaid : Prop := Claim7.holds Tryd.pinned (.plain (OpenSpec.upto conditionDigestsSpec)) conditionDigestsUptoCard
end Rows
end Go.Proofs.YtidpjgkjeocgaaaDoor
