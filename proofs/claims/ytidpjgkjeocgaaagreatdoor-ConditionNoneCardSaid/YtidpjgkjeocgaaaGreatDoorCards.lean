/-
  DERIVED. GIVEN WITH THE SEED: THE CARDS: each row of YtidpjgkjeocgaaaGreatDoorRows.lean that lists a variable, with what it lists TIED to the program's text (the seventh form; the later family's looks); each row that meets fmt, with fmt's text TOLD by the authors' own Lean function (tested against real Go, not proved from fmt's source: count such statements apart). THE CARD IS WHAT COUNTS. Prove the row's statement (the work); the ties are given (YtidpjgkjeocgaaaGreatDoorTie.lean); close each card by the builder's one call (the guide's Derived/Test/ToyasCard.lean, 'card_holds'). Laid BY PROGRAM, IN A SANDBOX (cutbox-door.mjs). By AI agents, Wed Nov 11 2026. No macro, syntax, notation, axiom, sorry.
-/
import Derived.Test.YtidpjgkjeocgaaaGreatDoorRows
import GoSem.ClaimSeven
namespace Go.Proofs.YtidpjgkjeocgaaaGreatDoor
namespace Rows

/-- THE TIED CARD OF 'hodoscopelaw04.ConditionNone'. -/
def conditionNoneCard : Claim7 := { stood := { row := conditionNoneRow, standIns := [], harness := (true, "0c053f3e1872137f99a92e16b41ff919be254720505dd5a2fe0dfad668902e98"), looks := false }, kinds := [], alts := [], laidByText := true, laidKinds := [.data, .data, .data], laidTests := true, laidLooks := .later }
def ConditionNoneCardSaid : Prop := Claim7.holds Tryz.pinned (.plain (OpenSpec.ofChange conditionNoneSpec)) conditionNoneCard

/-- THE SECOND FORM's CARD OF 'hodoscopelaw04.ConditionNone'. -/
def conditionNoneUptoCard : Claim7 := { stood := { row := conditionNoneUptoRow, standIns := [], harness := (true, "0c053f3e1872137f99a92e16b41ff919be254720505dd5a2fe0dfad668902e98"), looks := false }, kinds := [], alts := [], laidByText := true, laidKinds := [.data, .data, .data], laidTests := true, laidLooks := .later }
def ConditionNoneUptoCardSaid : Prop := Claim7.holds Tryz.pinned (.plain (OpenSpec.upto conditionNoneSpec)) conditionNoneUptoCard
end Rows
end Go.Proofs.YtidpjgkjeocgaaaGreatDoor
