/-
  DERIVED. GIVEN WITH THE SEED: THE CARDS: each row of YtpmidkhdcabieaaDoorRows.lean that lists a variable, with what it lists TIED to the program's text (the seventh form; the later family's looks); each row that meets fmt, with fmt's text TOLD by the authors' own Lean function (tested against real Go, not proved from fmt's source: count such statements apart). THE CARD IS WHAT COUNTS. Prove the row's statement (the work); the ties are given (YtpmidkhdcabieaaDoorTie.lean); close each card by the builder's one call (the guide's Derived/Test/ToyasCard.lean, 'card_holds'). Laid BY PROGRAM, IN A SANDBOX (cutbox-door.mjs). By AI agents, Wed Nov 11 2026. No macro, syntax, notation, axiom, sorry.
-/
import Derived.Test.YtpmidkhdcabieaaDoorRows
import GoSem.ClaimSeven
namespace Go.Proofs.YtpmidkhdcabieaaDoor
namespace Rows

/-- THE TIED CARD OF 'hodoscopelaw01.ExactDivision'. -/
def exactDivisionCard : Claim7 := { stood := { row := exactDivisionRow, standIns := [], harness := (true, "88a58771cff07f998c30d3c8d311647bc5815cc5cdce5e5935d1dde808f890d6"), looks := false }, kinds := [], alts := [], laidByText := true, laidKinds := [.data], laidTests := true, laidLooks := .later }
def ExactDivisionCardSaid : Prop := Claim7.holds Tryd.pinned (.plain (OpenSpec.ofChange exactDivisionSpec)) exactDivisionCard

/-- THE TIED CARD OF 'hodoscopelaw01.ExactField'. -/
def exactFieldCard : Claim7 := { stood := { row := exactFieldRow, standIns := [], harness := (true, "88a58771cff07f998c30d3c8d311647bc5815cc5cdce5e5935d1dde808f890d6"), looks := false }, kinds := [], alts := [], laidByText := true, laidKinds := [.data], laidTests := true, laidLooks := .later }
def ExactFieldCardSaid : Prop := Claim7.holds Tryd.pinned (.plain (OpenSpec.ofChange exactFieldSpec)) exactFieldCard

/-- THE TIED CARD OF 'hodoscopelaw01.ExactForms'. -/
def exactFormsCard : Claim7 := { stood := { row := exactFormsRow, standIns := [], harness := (true, "88a58771cff07f998c30d3c8d311647bc5815cc5cdce5e5935d1dde808f890d6"), looks := false }, kinds := [], alts := [], laidByText := true, laidKinds := [.data], laidTests := true, laidLooks := .later }
def ExactFormsCardSaid : Prop := Claim7.holds Tryd.pinned (.plain (OpenSpec.ofChange exactFormsSpec)) exactFormsCard

/-- THE SECOND FORM's CARD OF 'hodoscopelaw01.ExactDivision'. -/
def exactDivisionUptoCard : Claim7 := { stood := { row := exactDivisionUptoRow, standIns := [], harness := (true, "88a58771cff07f998c30d3c8d311647bc5815cc5cdce5e5935d1dde808f890d6"), looks := false }, kinds := [], alts := [], laidByText := true, laidKinds := [.data], laidTests := true, laidLooks := .later }
def ExactDivisionUptoCardSaid : Prop := Claim7.holds Tryd.pinned (.plain (OpenSpec.upto exactDivisionSpec)) exactDivisionUptoCard

/-- THE SECOND FORM's CARD OF 'hodoscopelaw01.ExactField'. -/
def exactFieldUptoCard : Claim7 := { stood := { row := exactFieldUptoRow, standIns := [], harness := (true, "88a58771cff07f998c30d3c8d311647bc5815cc5cdce5e5935d1dde808f890d6"), looks := false }, kinds := [], alts := [], laidByText := true, laidKinds := [.data], laidTests := true, laidLooks := .later }
def ExactFieldUptoCardSaid : Prop := Claim7.holds Tryd.pinned (.plain (OpenSpec.upto exactFieldSpec)) exactFieldUptoCard

/-- THE SECOND FORM's CARD OF 'hodoscopelaw01.ExactForms'. -/
def exactFormsUptoCard : Claim7 := { stood := { row := exactFormsUptoRow, standIns := [], harness := (true, "88a58771cff07f998c30d3c8d311647bc5815cc5cdce5e5935d1dde808f890d6"), looks := false }, kinds := [], alts := [], laidByText := true, laidKinds := [.data], laidTests := true, laidLooks := .later }
def ExactFormsUptoCardSaid : Prop := Claim7.holds Tryd.pinned (.plain (OpenSpec.upto exactFormsSpec)) exactFormsUptoCard
end Rows
end Go.Proofs.YtpmidkhdcabieaaDoor
