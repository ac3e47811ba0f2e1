/-
  DERIVED. GIVEN WITH THE SEED: THE CARDS: each row of YtdeiblgdigdbgaaDoorRows.lean that lists a variable, with what it lists TIED to the program's text (the seventh form; the later family's looks); each row that meets fmt, with fmt's text TOLD by the authors' own Lean function (tested against real Go, not proved from fmt's source: count such statements apart). THE CARD IS WHAT COUNTS. Prove the row's statement (the work); the ties are given (YtdeiblgdigdbgaaDoorTie.lean); close each card by the builder's one call (the guide's Derived/Test/ToyasCard.lean, 'card_holds'). Laid BY PROGRAM, IN A SANDBOX (cutbox-door.mjs). By AI agents, Wed Nov 11 2026. No macro, syntax, notation, axiom, sorry.
-/
import Derived.Test.YtdeiblgdigdbgaaDoorRows
import GoSem.ClaimSeven
namespace Go.Proofs.YtdeiblgdigdbgaaDoor
namespace Rows

/-- THE TIED CARD OF 'hodoscopelaw01.ExactField'. -/
def exactFieldCard : Claim7 := { stood := { row := exactFieldRow, standIns := [], harness := (true, "799a07bd773b4c7884bd7be6dd1e62af48b9fea63d5e068dfb11d94229b478b2"), looks := false }, kinds := [], alts := [], laidByText := true, laidKinds := [.data], laidTests := true, laidLooks := .later }
def ExactFieldCardSaid : Prop := Claim7.holds Tryd.pinned (.plain (OpenSpec.ofChange exactFieldSpec)) exactFieldCard

/-- THE TIED CARD OF 'hodoscopelaw01.ExactForms'. -/
def exactFormsCard : Claim7 := { stood := { row := exactFormsRow, standIns := [], harness := (true, "799a07bd773b4c7884bd7be6dd1e62af48b9fea63d5e068dfb11d94229b478b2"), looks := false }, kinds := [], alts := [], laidByText := true, laidKinds := [.data], laidTests := true, laidLooks := .later }
def ExactFormsCardSaid : Prop := Claim7.holds Tryd.pinned (.plain (OpenSpec.ofChange exactFormsSpec)) exactFormsCard

/-- THE TIED CARD OF 'hodoscopelaw01.ExactNear'. -/
def exactNearCard : Claim7 := { stood := { row := exactNearRow, standIns := [], harness := (true, "799a07bd773b4c7884bd7be6dd1e62af48b9fea63d5e068dfb11d94229b478b2"), looks := false }, kinds := [], alts := [], laidByText := true, laidKinds := [.data], laidTests := true, laidLooks := .later }
def ExactNearCardSaid : Prop := Claim7.holds Tryd.pinned (.plain (OpenSpec.ofChange exactNearSpec)) exactNearCard

/-- THE TIED CARD OF 'hodoscopelaw01.ExactSimplest'. -/
def exactSimplestCard : Claim7 := { stood := { row := exactSimplestRow, standIns := [], harness := (true, "799a07bd773b4c7884bd7be6dd1e62af48b9fea63d5e068dfb11d94229b478b2"), looks := false }, kinds := [], alts := [], laidByText := true, laidKinds := [.data], laidTests := true, laidLooks := .later }
def ExactSimplestCardSaid : Prop := Claim7.holds Tryd.pinned (.plain (OpenSpec.ofChange exactSimplestSpec)) exactSimplestCard

/-- THE SECOND FORM's CARD OF 'hodoscopelaw01.ExactField'. -/
def exactFieldUptoCard : Claim7 := { stood := { row := exactFieldUptoRow, standIns := [], harness := (true, "799a07bd773b4c7884bd7be6dd1e62af48b9fea63d5e068dfb11d94229b478b2"), looks := false }, kinds := [], alts := [], laidByText := true, laidKinds := [.data], laidTests := true, laidLooks := .later }
def ExactFieldUptoCardSaid : Prop := Claim7.holds Tryd.pinned (.plain (OpenSpec.upto exactFieldSpec)) exactFieldUptoCard

/-- THE SECOND FORM's CARD OF 'hodoscopelaw01.ExactForms'. -/
def exactFormsUptoCard : Claim7 := { stood := { row := exactFormsUptoRow, standIns := [], harness := (true, "799a07bd773b4c7884bd7be6dd1e62af48b9fea63d5e068dfb11d94229b478b2"), looks := false }, kinds := [], alts := [], laidByText := true, laidKinds := [.data], laidTests := true, laidLooks := .later }
def ExactFormsUptoCardSaid : Prop := Claim7.holds Tryd.pinned (.plain (OpenSpec.upto exactFormsSpec)) exactFormsUptoCard

/-- THE SECOND FORM's CARD OF 'hodoscopelaw01.ExactNear'. -/
def exactNearUptoCard : Claim7 := { stood := { row := exactNearUptoRow, standIns := [], harness := (true, "799a07bd773b4c7884bd7be6dd1e62af48b9fea63d5e068dfb11d94229b478b2"), looks := false }, kinds := [], alts := [], laidByText := true, laidKinds := [.data], laidTests := true, laidLooks := .later }
def ExactNearUptoCardSaid : Prop := Claim7.holds Tryd.pinned (.plain (OpenSpec.upto exactNearSpec)) exactNearUptoCard

/-- THE SECOND FORM's CARD OF 'hodoscopelaw01.ExactSimplest'. -/
def exactSimplestUptoCard : Claim7 := { stood := { row := exactSimplestUptoRow, standIns := [], harness := (true, "799a07bd773b4c7884bd7be6dd1e62af48b9fea63d5e068dfb11d94229b478b2"), looks := false }, kinds := [], alts := [], laidByText := true, laidKinds := [.data], laidTests := true, laidLooks := .later }
def ExactSimplestUptoCardSaid : Prop := Claim7.holds Tryd.pinned (.plain (OpenSpec.upto exactSimplestSpec)) exactSimplestUptoCard
end Rows
end Go.Proofs.YtdeiblgdigdbgaaDoor
