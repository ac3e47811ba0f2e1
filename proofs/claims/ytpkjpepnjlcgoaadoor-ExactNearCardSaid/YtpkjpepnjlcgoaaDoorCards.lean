/-
  DERIVED. GIVEN WITH THE SEED: THE CARDS: each row of YtpkjpepnjlcgoaaDoorRows.lean that lists a variable, with what it lists TIED to the program's text (the seventh form; the later family's looks); each row that meets fmt, with fmt's text TOLD by the authors' own Lean function (tested against real Go, not proved from fmt's source: count such statements apart). THE CARD IS WHAT COUNTS. Prove the row's statement (the work); the ties are given (YtpkjpepnjlcgoaaDoorTie.lean); close each card by the builder's one call (the guide's Derived/Test/ToyasCard.lean, 'card_holds'). Laid BY PROGRAM, IN A SANDBOX (cutbox-door.mjs). By AI agents, Wed Nov 11 2026. No macro, syntax, notation, axiom, sorry.
-/
import Derived.Test.YtpkjpepnjlcgoaaDoorRows
import GoSem.ClaimSeven
namespace Go.Proofs.YtpkjpepnjlcgoaaDoor
namespace Rows

/-- THE TIED CARD OF 'hodoscopelaw01.ExactForms'. -/
def exactFormsCard : Claim7 := { stood := { row := exactFormsRow, standIns := [], harness := (true, "cb8e3fc5a080009d25e3968a2ba0c274a7a3bc6f5316cc1f3da473a1df04e0bf"), looks := false }, kinds := [], alts := [], laidByText := true, laidKinds := [.data], laidTests := true, laidLooks := .later }
def ExactFormsCardSaid : Prop := Claim7.holds Tryd.pinned (.plain (OpenSpec.ofChange exactFormsSpec)) exactFormsCard

/-- THE TIED CARD OF 'hodoscopelaw01.ExactNear'. -/
def exactNearCard : Claim7 := { stood := { row := exactNearRow, standIns := [], harness := (true, "cb8e3fc5a080009d25e3968a2ba0c274a7a3bc6f5316cc1f3da473a1df04e0bf"), looks := false }, kinds := [], alts := [], laidByText := true, laidKinds := [.data], laidTests := true, laidLooks := .later }
def ExactNearCardSaid : Prop := Claim7.holds Tryd.pinned (.plain (OpenSpec.ofChange exactNearSpec)) exactNearCard

/-- THE TIED CARD OF 'hodoscopelaw01.ExactSimplest'. -/
def exactSimplestCard : Claim7 := { stood := { row := exactSimplestRow, standIns := [], harness := (true, "cb8e3fc5a080009d25e3968a2ba0c274a7a3bc6f5316cc1f3da473a1df04e0bf"), looks := false }, kinds := [], alts := [], laidByText := true, laidKinds := [.data], laidTests := true, laidLooks := .later }
def ExactSimplestCardSaid : Prop := Claim7.holds Tryd.pinned (.plain (OpenSpec.ofChange exactSimplestSpec)) exactSimplestCard

/-- THE SECOND FORM's CARD OF 'hodoscopelaw01.ExactForms'. -/
def exactFormsUptoCard : Claim7 := { stood := { row := exactFormsUptoRow, standIns := [], harness := (true, "cb8e3fc5a080009d25e3968a2ba0c274a7a3bc6f5316cc1f3da473a1df04e0bf"), looks := false }, kinds := [], alts := [], laidByText := true, laidKinds := [.data], laidTests := true, laidLooks := .later }
def ExactFormsUptoCardSaid : Prop := Claim7.holds Tryd.pinned (.plain (OpenSpec.upto exactFormsSpec)) exactFormsUptoCard

/-- THE SECOND FORM's CARD OF 'hodoscopelaw01.ExactNear'. -/
def exactNearUptoCard : Claim7 := { stood := { row := exactNearUptoRow, standIns := [], harness := (true, "cb8e3fc5a080009d25e3968a2ba0c274a7a3bc6f5316cc1f3da473a1df04e0bf"), looks := false }, kinds := [], alts := [], laidByText := true, laidKinds := [.data], laidTests := true, laidLooks := .later }
def ExactNearUptoCardSaid : Prop := Claim7.holds Tryd.pinned (.plain (OpenSpec.upto exactNearSpec)) exactNearUptoCard

/-- THE SECOND FORM's CARD OF 'hodoscopelaw01.ExactSimplest'. -/
def exactSimplestUptoCard : Claim7 := { stood := { row := exactSimplestUptoRow, standIns := [], harness := (true, "cb8e3fc5a080009d25e3968a2ba0c274a7a3bc6f5316cc1f3da473a1df04e0bf"), looks := false }, kinds := [], alts := [], laidByText := true, laidKinds := [.data], laidTests := true, laidLooks := .later }
def ExactSimplestUptoCardSaid : Prop := Claim7.holds Tryd.pinned (.plain (OpenSpec.upto exactSimplestSpec)) exactSimplestUptoCard
end Rows
end Go.Proofs.YtpkjpepnjlcgoaaDoor
