/-
  DERIVED. GIVEN WITH THE SEED: THE CARDS: each row of YtbhkalhiogjlkaaDoorRows.lean that lists a variable, with what it lists TIED to the program's text (the seventh form; the later family's looks); each row that meets fmt, with fmt's text TOLD by the authors' own Lean function (tested against real Go, not proved from fmt's source: count such statements apart). THE CARD IS WHAT COUNTS. Prove the row's statement (the work); the ties are given (YtbhkalhiogjlkaaDoorTie.lean); close each card by the builder's one call (the guide's Derived/Test/ToyasCard.lean, 'card_holds'). Laid BY PROGRAM, IN A SANDBOX (cutbox-door.mjs). By AI agents, Wed Nov 11 2026. No macro, syntax, notation, axiom, sorry.
-/
import Derived.Test.YtbhkalhiogjlkaaDoorRows
import GoSem.ClaimSeven
namespace Go.Proofs.YtbhkalhiogjlkaaDoor
namespace Rows

/-- THE TIED CARD OF 'hodoscopelaw01.ExactInts'. -/
def exactIntsCard : Claim7 := { stood := { row := exactIntsRow, standIns := [], harness := (true, "1e102c9dd60aaa80b524101949af03f934e511d1ee583152e939be1ebb619ebc"), looks := false }, kinds := [], alts := [], laidByText := true, laidKinds := [.data], laidTests := true, laidLooks := .later }
def ExactIntsCardSaid : Prop := Claim7.holds Tryd.pinned (.plain (OpenSpec.ofChange exactIntsSpec)) exactIntsCard

/-- THE TIED CARD OF 'hodoscopelaw01.ExactSmall'. -/
def exactSmallCard : Claim7 := { stood := { row := exactSmallRow, standIns := [], harness := (true, "1e102c9dd60aaa80b524101949af03f934e511d1ee583152e939be1ebb619ebc"), looks := false }, kinds := [], alts := [], laidByText := true, laidKinds := [.data], laidTests := true, laidLooks := .later }
def ExactSmallCardSaid : Prop := Claim7.holds Tryd.pinned (.plain (OpenSpec.ofChange exactSmallSpec)) exactSmallCard

/-- THE TIED CARD OF 'hodoscopelaw01.ExactRing'. -/
def exactRingCard : Claim7 := { stood := { row := exactRingRow, standIns := [], harness := (true, "1e102c9dd60aaa80b524101949af03f934e511d1ee583152e939be1ebb619ebc"), looks := false }, kinds := [], alts := [], laidByText := true, laidKinds := [.data], laidTests := true, laidLooks := .later }
def ExactRingCardSaid : Prop := Claim7.holds Tryd.pinned (.plain (OpenSpec.ofChange exactRingSpec)) exactRingCard

/-- THE TIED CARD OF 'hodoscopelaw01.ExactDivision'. -/
def exactDivisionCard : Claim7 := { stood := { row := exactDivisionRow, standIns := [], harness := (true, "1e102c9dd60aaa80b524101949af03f934e511d1ee583152e939be1ebb619ebc"), looks := false }, kinds := [], alts := [], laidByText := true, laidKinds := [.data], laidTests := true, laidLooks := .later }
def ExactDivisionCardSaid : Prop := Claim7.holds Tryd.pinned (.plain (OpenSpec.ofChange exactDivisionSpec)) exactDivisionCard

/-- THE TIED CARD OF 'hodoscopelaw01.ExactField'. -/
def exactFieldCard : Claim7 := { stood := { row := exactFieldRow, standIns := [], harness := (true, "1e102c9dd60aaa80b524101949af03f934e511d1ee583152e939be1ebb619ebc"), looks := false }, kinds := [], alts := [], laidByText := true, laidKinds := [.data], laidTests := true, laidLooks := .later }
def ExactFieldCardSaid : Prop := Claim7.holds Tryd.pinned (.plain (OpenSpec.ofChange exactFieldSpec)) exactFieldCard

/-- THE TIED CARD OF 'hodoscopelaw01.ExactForms'. -/
def exactFormsCard : Claim7 := { stood := { row := exactFormsRow, standIns := [], harness := (true, "1e102c9dd60aaa80b524101949af03f934e511d1ee583152e939be1ebb619ebc"), looks := false }, kinds := [], alts := [], laidByText := true, laidKinds := [.data], laidTests := true, laidLooks := .later }
def ExactFormsCardSaid : Prop := Claim7.holds Tryd.pinned (.plain (OpenSpec.ofChange exactFormsSpec)) exactFormsCard

/-- THE TIED CARD OF 'hodoscopelaw01.ExactNear'. -/
def exactNearCard : Claim7 := { stood := { row := exactNearRow, standIns := [], harness := (true, "1e102c9dd60aaa80b524101949af03f934e511d1ee583152e939be1ebb619ebc"), looks := false }, kinds := [], alts := [], laidByText := true, laidKinds := [.data], laidTests := true, laidLooks := .later }
def ExactNearCardSaid : Prop := Claim7.holds Tryd.pinned (.plain (OpenSpec.ofChange exactNearSpec)) exactNearCard

/-- THE TIED CARD OF 'hodoscopelaw01.ExactSimplest'. -/
def exactSimplestCard : Claim7 := { stood := { row := exactSimplestRow, standIns := [], harness := (true, "1e102c9dd60aaa80b524101949af03f934e511d1ee583152e939be1ebb619ebc"), looks := false }, kinds := [], alts := [], laidByText := true, laidKinds := [.data], laidTests := true, laidLooks := .later }
def ExactSimplestCardSaid : Prop := Claim7.holds Tryd.pinned (.plain (OpenSpec.ofChange exactSimplestSpec)) exactSimplestCard

/-- THE SECOND FORM's CARD OF 'hodoscopelaw01.ExactInts'. -/
def exactIntsUptoCard : Claim7 := { stood := { row := exactIntsUptoRow, standIns := [], harness := (true, "1e102c9dd60aaa80b524101949af03f934e511d1ee583152e939be1ebb619ebc"), looks := false }, kinds := [], alts := [], laidByText := true, laidKinds := [.data], laidTests := true, laidLooks := .later }
def ExactIntsUptoCardSaid : Prop := Claim7.holds Tryd.pinned (.plain (OpenSpec.upto exactIntsSpec)) exactIntsUptoCard

/-- THE SECOND FORM's CARD OF 'hodoscopelaw01.ExactSmall'. -/
def exactSmallUptoCard : Claim7 := { stood := { row := exactSmallUptoRow, standIns := [], harness := (true, "1e102c9dd60aaa80b524101949af03f934e511d1ee583152e939be1ebb619ebc"), looks := false }, kinds := [], alts := [], laidByText := true, laidKinds := [.data], laidTests := true, laidLooks := .later }
def ExactSmallUptoCardSaid : Prop := Claim7.holds Tryd.pinned (.plain (OpenSpec.upto exactSmallSpec)) exactSmallUptoCard

/-- THE SECOND FORM's CARD OF 'hodoscopelaw01.ExactRing'. -/
def exactRingUptoCard : Claim7 := { stood := { row := exactRingUptoRow, standIns := [], harness := (true, "1e102c9dd60aaa80b524101949af03f934e511d1ee583152e939be1ebb619ebc"), looks := false }, kinds := [], alts := [], laidByText := true, laidKinds := [.data], laidTests := true, laidLooks := .later }
def ExactRingUptoCardSaid : Prop := Claim7.holds Tryd.pinned (.plain (OpenSpec.upto exactRingSpec)) exactRingUptoCard

/-- THE SECOND FORM's CARD OF 'hodoscopelaw01.ExactDivision'. -/
def exactDivisionUptoCard : Claim7 := { stood := { row := exactDivisionUptoRow, standIns := [], harness := (true, "1e102c9dd60aaa80b524101949af03f934e511d1ee583152e939be1ebb619ebc"), looks := false }, kinds := [], alts := [], laidByText := true, laidKinds := [.data], laidTests := true, laidLooks := .later }
def ExactDivisionUptoCardSaid : Prop := Claim7.holds Tryd.pinned (.plain (OpenSpec.upto exactDivisionSpec)) exactDivisionUptoCard

/-- THE SECOND FORM's CARD OF 'hodoscopelaw01.ExactField'. -/
def exactFieldUptoCard : Claim7 := { stood := { row := exactFieldUptoRow, standIns := [], harness := (true, "1e102c9dd60aaa80b524101949af03f934e511d1ee583152e939be1ebb619ebc"), looks := false }, kinds := [], alts := [], laidByText := true, laidKinds := [.data], laidTests := true, laidLooks := .later }
def ExactFieldUptoCardSaid : Prop := Claim7.holds Tryd.pinned (.plain (OpenSpec.upto exactFieldSpec)) exactFieldUptoCard

/-- THE SECOND FORM's CARD OF 'hodoscopelaw01.ExactForms'. -/
def exactFormsUptoCard : Claim7 := { stood := { row := exactFormsUptoRow, standIns := [], harness := (true, "1e102c9dd60aaa80b524101949af03f934e511d1ee583152e939be1ebb619ebc"), looks := false }, kinds := [], alts := [], laidByText := true, laidKinds := [.data], laidTests := true, laidLooks := .later }
def ExactFormsUptoCardSaid : Prop := Claim7.holds Tryd.pinned (.plain (OpenSpec.upto exactFormsSpec)) exactFormsUptoCard

/-- THE SECOND FORM's CARD OF 'hodoscopelaw01.ExactNear'. -/
def exactNearUptoCard : Claim7 := { stood := { row := exactNearUptoRow, standIns := [], harness := (true, "1e102c9dd60aaa80b524101949af03f934e511d1ee583152e939be1ebb619ebc"), looks := false }, kinds := [], alts := [], laidByText := true, laidKinds := [.data], laidTests := true, laidLooks := .later }
def ExactNearUptoCardSaid : Prop := Claim7.holds Tryd.pinned (.plain (OpenSpec.upto exactNearSpec)) exactNearUptoCard

/-- THE SECOND FORM's CARD OF 'hodoscopelaw01.ExactSimplest'. -/
def exactSimplestUptoCard : Claim7 := { stood := { row := exactSimplestUptoRow, standIns := [], harness := (true, "1e102c9dd60aaa80b524101949af03f934e511d1ee583152e939be1ebb619ebc"), looks := false }, kinds := [], alts := [], laidByText := true, laidKinds := [.data], laidTests := true, laidLooks := .later }
def ExactSimplestUptoCardSaid : Prop := Claim7.holds Tryd.pinned (.plain (OpenSpec.upto exactSimplestSpec)) exactSimplestUptoCard
end Rows
end Go.Proofs.YtbhkalhiogjlkaaDoor
