/-
  DERIVED. GIVEN WITH THE SEED: THE CARDS: each row of YtlegacllbohbmaaDoorRows.lean that lists a variable, with what it lists TIED to the program's text (the seventh form; the later family's looks); each row that meets fmt, with fmt's text TOLD by the authors' own Lean function (tested against real Go, not proved from fmt's source: count such statements apart). THE CARD IS WHAT COUNTS. Prove the row's statement (the work); the ties are given (YtlegacllbohbmaaDoorTie.lean); close each card by the builder's one call (the guide's Derived/Test/ToyasCard.lean, 'card_holds'). Laid BY PROGRAM, IN A SANDBOX (cutbox-door.mjs). By AI agents, Wed Nov 11 2026. No macro, syntax, notation, axiom, sorry.
-/
import Derived.Test.YtlegacllbohbmaaDoorRows
import GoSem.ClaimSeven
namespace Go.Proofs.YtlegacllbohbmaaDoor
namespace Rows

/-- THE TIED CARD OF 'hodoscopelaw04.ConditionDigests'. -/
def conditionDigestsCard : Claim7 := { stood := { row := conditionDigestsRow, standIns := [], harness := (true, "1361a530bda80b464f6146233c947d8536fa7dfb5165f9362ea4d4e05d4191f7"), looks := false }, kinds := [], alts := [], laidByText := true, laidKinds := [.data, .data, .data], laidTests := true, laidLooks := .later }
def ConditionDigestsCardSaid : Prop := Claim7.holds Tryd.pinned (.plain (OpenSpec.ofChange conditionDigestsSpec)) conditionDigestsCard

/-- THE SECOND FORM's CARD OF 'hodoscopelaw04.ConditionDigests'. -/
def conditionDigestsUptoCard : Claim7 := { stood := { row := conditionDigestsUptoRow, standIns := [], harness := (true, "1361a530bda80b464f6146233c947d8536fa7dfb5165f9362ea4d4e05d4191f7"), looks := false }, kinds := [], alts := [], laidByText := true, laidKinds := [.data, .data, .data], laidTests := true, laidLooks := .later }
def ConditionDigestsUptoCardSaid : Prop := Claim7.holds Tryd.pinned (.plain (OpenSpec.upto conditionDigestsSpec)) conditionDigestsUptoCard
end Rows
end Go.Proofs.YtlegacllbohbmaaDoor
