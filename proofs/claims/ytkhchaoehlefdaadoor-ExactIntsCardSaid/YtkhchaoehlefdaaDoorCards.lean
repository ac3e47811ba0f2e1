/-
  DERIVED. GIVEN WITH THE SEED: THE CARDS: each row of YtkhchaoehlefdaaDoorRows.lean that lists a variable, with what it lists TIED to the program's text (the seventh form; the later family's looks); each row that meets fmt, with fmt's text TOLD by the authors' own Lean function (tested against real Go, not proved from fmt's source: count such statements apart). THE CARD IS WHAT COUNTS. Prove the row's statement (the work); the ties are given (YtkhchaoehlefdaaDoorTie.lean); close each card by the builder's one call (the guide's Derived/Test/ToyasCard.lean, 'card_holds'). Laid BY PROGRAM, IN A SANDBOX (cutbox-door.mjs). By AI agents, Wed Nov 11 2026. No macro, syntax, notation, axiom, sorry.
-/
import Derived.Test.YtkhchaoehlefdaaDoorRows
import GoSem.ClaimSeven
namespace Go.Proofs.YtkhchaoehlefdaaDoor
namespace Rows

/-- THE TIED CARD OF 'hodoscopelaw01.ExactInts'. -/
def exactIntsCard : Claim7 := { stood := { row := exactIntsRow, standIns := [], harness := (true, "2ca6dbbb9b56698bceff26f632e7afefac626548cd0bb52629287e87d562eda5"), looks := false }, kinds := [], alts := [], laidByText := true, laidKinds := [.data], laidTests := true, laidLooks := .later }
def ExactIntsCardSaid : Prop := Claim7.holds Tryd.pinned (.plain (OpenSpec.ofChange exactIntsSpec)) exactIntsCard

/-- THE TIED CARD OF 'hodoscopelaw01.ExactSmall'. -/
def exactSmallCard : Claim7 := { stood := { row := exactSmallRow, standIns := [], harness := (true, "2ca6dbbb9b56698bceff26f632e7afefac626548cd0bb52629287e87d562eda5"), looks := false }, kinds := [], alts := [], laidByText := true, laidKinds := [.data], laidTests := true, laidLooks := .later }
def ExactSmallCardSaid : Prop := Claim7.holds Tryd.pinned (.plain (OpenSpec.ofChange exactSmallSpec)) exactSmallCard

/-- THE SECOND FORM's CARD OF 'hodoscopelaw01.ExactInts'. -/
def exactIntsUptoCard : Claim7 := { stood := { row := exactIntsUptoRow, standIns := [], harness := (true, "2ca6dbbb9b56698bceff26f632e7afefac626548cd0bb52629287e87d562eda5"), looks := false }, kinds := [], alts := [], laidByText := true, laidKinds := [.data], laidTests := true, laidLooks := .later }
def ExactIntsUptoCardSaid : Prop := Claim7.holds Tryd.pinned (.plain (OpenSpec.upto exactIntsSpec)) exactIntsUptoCard

/-- THE SECOND FORM's CARD OF 'hodoscopelaw01.ExactSmall'. -/
def exactSmallUptoCard : Claim7 := { stood := { row := exactSmallUptoRow, standIns := [], harness := (true, "2ca6dbbb9b56698bceff26f632e7afefac626548cd0bb52629287e87d562eda5"), looks := false }, kinds := [], alts := [], laidByText := true, laidKinds := [.data], laidTests := true, laidLooks := .later }
def ExactSmallUptoCardSaid : Prop := Claim7.holds Tryd.pinned (.plain (OpenSpec.upto exactSmallSpec)) exactSmallUptoCard
end Rows
end Go.Proofs.YtkhchaoehlefdaaDoor
