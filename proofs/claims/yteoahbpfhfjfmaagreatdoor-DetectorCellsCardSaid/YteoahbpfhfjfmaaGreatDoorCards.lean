/-
  DERIVED. GIVEN WITH THE SEED: THE CARDS: each row of YteoahbpfhfjfmaaGreatDoorRows.lean that lists a variable, with what it lists TIED to the program's text (the seventh form; the later family's looks); each row that meets fmt, with fmt's text TOLD by the authors' own Lean function (tested against real Go, not proved from fmt's source: count such statements apart). THE CARD IS WHAT COUNTS. Prove the row's statement (the work); the ties are given (YteoahbpfhfjfmaaGreatDoorTie.lean); close each card by the builder's one call (the guide's Derived/Test/ToyasCard.lean, 'card_holds'). Laid BY PROGRAM, IN A SANDBOX (cutbox-door.mjs). By AI agents, Wed Nov 11 2026. No macro, syntax, notation, axiom, sorry.
-/
import Derived.Test.YteoahbpfhfjfmaaGreatDoorRows
import GoSem.ClaimSeven
namespace Go.Proofs.YteoahbpfhfjfmaaGreatDoor
namespace Rows

/-- THE TIED CARD OF 'hodoscopelaw03.DetectorChecks'. -/
def detectorChecksCard : Claim7 := { stood := { row := detectorChecksRow, standIns := [], harness := (true, "64f89276a0ff3a13702af10bb7406f92d972294f3b32e3dd7b816149fea92553"), looks := true }, kinds := [], alts := [], laidByText := true, laidKinds := [.data, .data, .data, .sentinel, .sentinel, .data], laidTests := true, laidLooks := .later }
def DetectorChecksCardSaid : Prop := Claim7.holds Tryz.pinned (.plain (OpenSpec.ofChange detectorChecksSpec)) detectorChecksCard

/-- THE TIED CARD OF 'hodoscopelaw03.DetectorFrames'. -/
def detectorFramesCard : Claim7 := { stood := { row := detectorFramesRow, standIns := [], harness := (true, "64f89276a0ff3a13702af10bb7406f92d972294f3b32e3dd7b816149fea92553"), looks := true }, kinds := [], alts := [], laidByText := true, laidKinds := [.data, .data, .data, .sentinel, .sentinel, .data], laidTests := true, laidLooks := .later }
def DetectorFramesCardSaid : Prop := Claim7.holds Tryz.pinned (.plain (OpenSpec.ofChange detectorFramesSpec)) detectorFramesCard

/-- THE TIED CARD OF 'hodoscopelaw03.DetectorCells'. -/
def detectorCellsCard : Claim7 := { stood := { row := detectorCellsRow, standIns := [], harness := (true, "64f89276a0ff3a13702af10bb7406f92d972294f3b32e3dd7b816149fea92553"), looks := true }, kinds := [], alts := [], laidByText := true, laidKinds := [.data, .data, .data, .sentinel, .sentinel, .data], laidTests := true, laidLooks := .later }
def DetectorCellsCardSaid : Prop := Claim7.holds Tryz.pinned (.plain (OpenSpec.ofChange detectorCellsSpec)) detectorCellsCard

/-- THE TIED CARD OF 'hodoscopelaw03.DetectorKeys'. -/
def detectorKeysCard : Claim7 := { stood := { row := detectorKeysRow, standIns := [], harness := (true, "64f89276a0ff3a13702af10bb7406f92d972294f3b32e3dd7b816149fea92553"), looks := true }, kinds := [], alts := [], laidByText := true, laidKinds := [.data, .data, .data, .sentinel, .sentinel, .data], laidTests := true, laidLooks := .later }
def DetectorKeysCardSaid : Prop := Claim7.holds Tryz.pinned (.plain (OpenSpec.ofChange detectorKeysSpec)) detectorKeysCard

/-- THE TIED CARD OF 'hodoscopelaw03.DetectorBends'. -/
def detectorBendsCard : Claim7 := { stood := { row := detectorBendsRow, standIns := [], harness := (true, "64f89276a0ff3a13702af10bb7406f92d972294f3b32e3dd7b816149fea92553"), looks := true }, kinds := [], alts := [], laidByText := true, laidKinds := [.data, .data, .data, .sentinel, .sentinel, .data], laidTests := true, laidLooks := .later }
def DetectorBendsCardSaid : Prop := Claim7.holds Tryz.pinned (.plain (OpenSpec.ofChange detectorBendsSpec)) detectorBendsCard

/-- THE TIED CARD OF 'hodoscopelaw03.DetectorGrows'. -/
def detectorGrowsCard : Claim7 := { stood := { row := detectorGrowsRow, standIns := [], harness := (true, "64f89276a0ff3a13702af10bb7406f92d972294f3b32e3dd7b816149fea92553"), looks := true }, kinds := [], alts := [], laidByText := true, laidKinds := [.data, .data, .data, .sentinel, .sentinel, .data], laidTests := true, laidLooks := .later }
def DetectorGrowsCardSaid : Prop := Claim7.holds Tryz.pinned (.plain (OpenSpec.ofChange detectorGrowsSpec)) detectorGrowsCard

/-- THE SECOND FORM's CARD OF 'hodoscopelaw03.DetectorChecks'. -/
def detectorChecksUptoCard : Claim7 := { stood := { row := detectorChecksUptoRow, standIns := [], harness := (true, "64f89276a0ff3a13702af10bb7406f92d972294f3b32e3dd7b816149fea92553"), looks := true }, kinds := [], alts := [], laidByText := true, laidKinds := [.data, .data, .data, .sentinel, .sentinel, .data], laidTests := true, laidLooks := .later }
def DetectorChecksUptoCardSaid : Prop := Claim7.holds Tryz.pinned (.plain (OpenSpec.upto detectorChecksSpec)) detectorChecksUptoCard

/-- THE SECOND FORM's CARD OF 'hodoscopelaw03.DetectorFrames'. -/
def detectorFramesUptoCard : Claim7 := { stood := { row := detectorFramesUptoRow, standIns := [], harness := (true, "64f89276a0ff3a13702af10bb7406f92d972294f3b32e3dd7b816149fea92553"), looks := true }, kinds := [], alts := [], laidByText := true, laidKinds := [.data, .data, .data, .sentinel, .sentinel, .data], laidTests := true, laidLooks := .later }
def DetectorFramesUptoCardSaid : Prop := Claim7.holds Tryz.pinned (.plain (OpenSpec.upto detectorFramesSpec)) detectorFramesUptoCard

/-- THE SECOND FORM's CARD OF 'hodoscopelaw03.DetectorCells'. -/
def detectorCellsUptoCard : Claim7 := { stood := { row := detectorCellsUptoRow, standIns := [], harness := (true, "64f89276a0ff3a13702af10bb7406f92d972294f3b32e3dd7b816149fea92553"), looks := true }, kinds := [], alts := [], laidByText := true, laidKinds := [.data, .data, .data, .sentinel, .sentinel, .data], laidTests := true, laidLooks := .later }
def DetectorCellsUptoCardSaid : Prop := Claim7.holds Tryz.pinned (.plain (OpenSpec.upto detectorCellsSpec)) detectorCellsUptoCard

/-- THE SECOND FORM's CARD OF 'hodoscopelaw03.DetectorKeys'. -/
def detectorKeysUptoCard : Claim7 := { stood := { row := detectorKeysUptoRow, standIns := [], harness := (true, "64f89276a0ff3a13702af10bb7406f92d972294f3b32e3dd7b816149fea92553"), looks := true }, kinds := [], alts := [], laidByText := true, laidKinds := [.data, .data, .data, .sentinel, .sentinel, .data], laidTests := true, laidLooks := .later }
def DetectorKeysUptoCardSaid : Prop := Claim7.holds Tryz.pinned (.plain (OpenSpec.upto detectorKeysSpec)) detectorKeysUptoCard

/-- THE SECOND FORM's CARD OF 'hodoscopelaw03.DetectorBends'. -/
def detectorBendsUptoCard : Claim7 := { stood := { row := detectorBendsUptoRow, standIns := [], harness := (true, "64f89276a0ff3a13702af10bb7406f92d972294f3b32e3dd7b816149fea92553"), looks := true }, kinds := [], alts := [], laidByText := true, laidKinds := [.data, .data, .data, .sentinel, .sentinel, .data], laidTests := true, laidLooks := .later }
def DetectorBendsUptoCardSaid : Prop := Claim7.holds Tryz.pinned (.plain (OpenSpec.upto detectorBendsSpec)) detectorBendsUptoCard

/-- THE SECOND FORM's CARD OF 'hodoscopelaw03.DetectorGrows'. -/
def detectorGrowsUptoCard : Claim7 := { stood := { row := detectorGrowsUptoRow, standIns := [], harness := (true, "64f89276a0ff3a13702af10bb7406f92d972294f3b32e3dd7b816149fea92553"), looks := true }, kinds := [], alts := [], laidByText := true, laidKinds := [.data, .data, .data, .sentinel, .sentinel, .data], laidTests := true, laidLooks := .later }
def DetectorGrowsUptoCardSaid : Prop := Claim7.holds Tryz.pinned (.plain (OpenSpec.upto detectorGrowsSpec)) detectorGrowsUptoCard
end Rows
end Go.Proofs.YteoahbpfhfjfmaaGreatDoor
