/-
  No cell of these rows narrows 'for every input' (looked for: loops, veiled, ifaces, maps, wideKeys, modest, calm, conditions, laid).
  DERIVED. THE GIVEN ROWS OF THIS SEAT. 8 by the template 'for every input the law returns true; each argument reads behind the call as it read before'; 0 by the template 'total and deterministic' (their statements: YtanillahofohgaaTotals.lean).
  GIVEN WITH THE SEED: the statements are not yours to turn. If you find one false, say at which input.
  Laid BY PROGRAM, IN A SANDBOX (cutbox-rows.mjs): the forced cells as the released guide's own fill.sh prints them over the translation 5dca336bdaa236f6… (all of the seat's roots in one cut). By AI agents, Wed Nov 11 2026. No macro, syntax, notation, axiom, sorry.
-/
import Derived.Test.YtanillahofohgaaChecked
import GoSem.Claim
import GoSem.ClaimJoined
import GoSem.ClaimMapViews
import Derived.JoinedTies
import Derived.KernelRfl
namespace Go.Proofs.Ytanillahofohgaa
/- THE CELL 'sum', in the pinned program and in every row, IS THE sha256 OF THE DUMP (.gsa) THAT YtanillahofohgaaProg.lean LOADS. Nothing in Lean hashes anything: it is a label: what it is worth is what the hold of that sum in a sandbox is worth. -/
noncomputable def Try.pinned : Pinned := { name := "ytanillahofohgaa", sum := "5dca336bdaa236f639eb06f001be9f9e076a37e47a10153b6f222a59175e3e06", checked := Try.checked }
namespace Rows
def none {H : Type} : Left H := { results := [], args := [] }

/-- 'hodoscopelaw05.ReadoutSuppresses': WHATEVER THE INPUT: true; the input reads as it did. -/
def readoutSuppressesSpec : ChangeSpec := { name := "readoutSuppresses", fn := fun _ => fun
  | [d1, d2, d3] => { results := [.lit (.bool true)], args := [d1, d2, d3] }
  | _ => none }
def readoutSuppressesRow : OpenClaim := { program := "ytanillahofohgaa", sum := "5dca336bdaa236f639eb06f001be9f9e076a37e47a10153b6f222a59175e3e06", func := "hodoscope/hodoscopelaw05.ReadoutSuppresses", spec := "readoutSuppresses", unfollowed := true, recurses := true, apart := false }
def ReadoutSuppressesSaid : Prop := readoutSuppressesRow.holds Try.pinned (OpenSpec.ofChange readoutSuppressesSpec)

/-- ITS FALSE NEIGHBOUR: 'it returns false'. Refute it at one input. -/
def readoutSuppressesWrong : ChangeSpec := { name := "readoutSuppresses", fn := fun _ => fun
  | [d1, d2, d3] => { results := [.lit (.bool false)], args := [d1, d2, d3] }
  | _ => none }
def ReadoutSuppressesWrongFalsely : Prop := readoutSuppressesRow.holds Try.pinned (OpenSpec.ofChange readoutSuppressesWrong)

/-- 'hodoscopelaw05.ReadoutPiles': WHATEVER THE INPUT: true; the input reads as it did. -/
def readoutPilesSpec : ChangeSpec := { name := "readoutPiles", fn := fun _ => fun
  | [d1, d2, d3] => { results := [.lit (.bool true)], args := [d1, d2, d3] }
  | _ => none }
def readoutPilesRow : OpenClaim := { program := "ytanillahofohgaa", sum := "5dca336bdaa236f639eb06f001be9f9e076a37e47a10153b6f222a59175e3e06", func := "hodoscope/hodoscopelaw05.ReadoutPiles", spec := "readoutPiles", unfollowed := true, recurses := true, apart := false }
def ReadoutPilesSaid : Prop := readoutPilesRow.holds Try.pinned (OpenSpec.ofChange readoutPilesSpec)

/-- ITS FALSE NEIGHBOUR: 'it returns false'. Refute it at one input. -/
def readoutPilesWrong : ChangeSpec := { name := "readoutPiles", fn := fun _ => fun
  | [d1, d2, d3] => { results := [.lit (.bool false)], args := [d1, d2, d3] }
  | _ => none }
def ReadoutPilesWrongFalsely : Prop := readoutPilesRow.holds Try.pinned (OpenSpec.ofChange readoutPilesWrong)

/-- 'hodoscopelaw05.ReadoutPacks': WHATEVER THE INPUT: true; the input reads as it did. -/
def readoutPacksSpec : ChangeSpec := { name := "readoutPacks", fn := fun _ => fun
  | [d1, d2] => { results := [.lit (.bool true)], args := [d1, d2] }
  | _ => none }
def readoutPacksRow : OpenClaim := { program := "ytanillahofohgaa", sum := "5dca336bdaa236f639eb06f001be9f9e076a37e47a10153b6f222a59175e3e06", func := "hodoscope/hodoscopelaw05.ReadoutPacks", spec := "readoutPacks", unfollowed := true, recurses := true, apart := false }
def ReadoutPacksSaid : Prop := readoutPacksRow.holds Try.pinned (OpenSpec.ofChange readoutPacksSpec)

/-- ITS FALSE NEIGHBOUR: 'it returns false'. Refute it at one input. -/
def readoutPacksWrong : ChangeSpec := { name := "readoutPacks", fn := fun _ => fun
  | [d1, d2] => { results := [.lit (.bool false)], args := [d1, d2] }
  | _ => none }
def ReadoutPacksWrongFalsely : Prop := readoutPacksRow.holds Try.pinned (OpenSpec.ofChange readoutPacksWrong)

/-- 'hodoscopelaw05.ReadoutUnpacks': WHATEVER THE INPUT: true; the input reads as it did. -/
def readoutUnpacksSpec : ChangeSpec := { name := "readoutUnpacks", fn := fun _ => fun
  | [d] => { results := [.lit (.bool true)], args := [d] }
  | _ => none }
def readoutUnpacksRow : OpenClaim := { program := "ytanillahofohgaa", sum := "5dca336bdaa236f639eb06f001be9f9e076a37e47a10153b6f222a59175e3e06", func := "hodoscope/hodoscopelaw05.ReadoutUnpacks", spec := "readoutUnpacks", unfollowed := true, recurses := true, apart := false }
def ReadoutUnpacksSaid : Prop := readoutUnpacksRow.holds Try.pinned (OpenSpec.ofChange readoutUnpacksSpec)

/-- ITS FALSE NEIGHBOUR: 'it returns false'. Refute it at one input. -/
def readoutUnpacksWrong : ChangeSpec := { name := "readoutUnpacks", fn := fun _ => fun
  | [d] => { results := [.lit (.bool false)], args := [d] }
  | _ => none }
def ReadoutUnpacksWrongFalsely : Prop := readoutUnpacksRow.holds Try.pinned (OpenSpec.ofChange readoutUnpacksWrong)

/-- 'hodoscopelaw05.ReadoutBursts': WHATEVER THE INPUT: true; the input reads as it did. -/
def readoutBurstsSpec : ChangeSpec := { name := "readoutBursts", fn := fun _ => fun
  | [d1, d2] => { results := [.lit (.bool true)], args := [d1, d2] }
  | _ => none }
def readoutBurstsRow : OpenClaim := { program := "ytanillahofohgaa", sum := "5dca336bdaa236f639eb06f001be9f9e076a37e47a10153b6f222a59175e3e06", func := "hodoscope/hodoscopelaw05.ReadoutBursts", spec := "readoutBursts", unfollowed := true, recurses := true, apart := false }
def ReadoutBurstsSaid : Prop := readoutBurstsRow.holds Try.pinned (OpenSpec.ofChange readoutBurstsSpec)

/-- ITS FALSE NEIGHBOUR: 'it returns false'. Refute it at one input. -/
def readoutBurstsWrong : ChangeSpec := { name := "readoutBursts", fn := fun _ => fun
  | [d1, d2] => { results := [.lit (.bool false)], args := [d1, d2] }
  | _ => none }
def ReadoutBurstsWrongFalsely : Prop := readoutBurstsRow.holds Try.pinned (OpenSpec.ofChange readoutBurstsWrong)

/-- 'hodoscopelaw05.ReadoutScans': WHATEVER THE INPUT: true; the input reads as it did. -/
def readoutScansSpec : ChangeSpec := { name := "readoutScans", fn := fun _ => fun
  | [d] => { results := [.lit (.bool true)], args := [d] }
  | _ => none }
def readoutScansRow : OpenClaim := { program := "ytanillahofohgaa", sum := "5dca336bdaa236f639eb06f001be9f9e076a37e47a10153b6f222a59175e3e06", func := "hodoscope/hodoscopelaw05.ReadoutScans", spec := "readoutScans", unfollowed := true, recurses := true, apart := false }
def ReadoutScansSaid : Prop := readoutScansRow.holds Try.pinned (OpenSpec.ofChange readoutScansSpec)

/-- ITS FALSE NEIGHBOUR: 'it returns false'. Refute it at one input. -/
def readoutScansWrong : ChangeSpec := { name := "readoutScans", fn := fun _ => fun
  | [d] => { results := [.lit (.bool false)], args := [d] }
  | _ => none }
def ReadoutScansWrongFalsely : Prop := readoutScansRow.holds Try.pinned (OpenSpec.ofChange readoutScansWrong)

/-- 'hodoscopelaw05.ReadoutLinks': WHATEVER THE INPUT: true; the input reads as it did. -/
def readoutLinksSpec : ChangeSpec := { name := "readoutLinks", fn := fun _ => fun
  | [d1, d2, d3] => { results := [.lit (.bool true)], args := [d1, d2, d3] }
  | _ => none }
def readoutLinksRow : OpenClaim := { program := "ytanillahofohgaa", sum := "5dca336bdaa236f639eb06f001be9f9e076a37e47a10153b6f222a59175e3e06", func := "hodoscope/hodoscopelaw05.ReadoutLinks", spec := "readoutLinks", unfollowed := true, recurses := true, apart := false }
def ReadoutLinksSaid : Prop := readoutLinksRow.holds Try.pinned (OpenSpec.ofChange readoutLinksSpec)

/-- ITS FALSE NEIGHBOUR: 'it returns false'. Refute it at one input. -/
def readoutLinksWrong : ChangeSpec := { name := "readoutLinks", fn := fun _ => fun
  | [d1, d2, d3] => { results := [.lit (.bool false)], args := [d1, d2, d3] }
  | _ => none }
def ReadoutLinksWrongFalsely : Prop := readoutLinksRow.holds Try.pinned (OpenSpec.ofChange readoutLinksWrong)

/-- 'hodoscopelaw05.ReadoutFlows': WHATEVER THE INPUT: true; the input reads as it did. -/
def readoutFlowsSpec : ChangeSpec := { name := "readoutFlows", fn := fun _ => fun
  | [d1, d2, d3] => { results := [.lit (.bool true)], args := [d1, d2, d3] }
  | _ => none }
def readoutFlowsRow : OpenClaim := { program := "ytanillahofohgaa", sum := "5dca336bdaa236f639eb06f001be9f9e076a37e47a10153b6f222a59175e3e06", func := "hodoscope/hodoscopelaw05.ReadoutFlows", spec := "readoutFlows", unfollowed := true, recurses := true, apart := false }
def ReadoutFlowsSaid : Prop := readoutFlowsRow.holds Try.pinned (OpenSpec.ofChange readoutFlowsSpec)

/-- ITS FALSE NEIGHBOUR: 'it returns false'. Refute it at one input. -/
def readoutFlowsWrong : ChangeSpec := { name := "readoutFlows", fn := fun _ => fun
  | [d1, d2, d3] => { results := [.lit (.bool false)], args := [d1, d2, d3] }
  | _ => none }
def ReadoutFlowsWrongFalsely : Prop := readoutFlowsRow.holds Try.pinned (OpenSpec.ofChange readoutFlowsWrong)

/- THE SECOND FORM. 'bulk': how many values and letters a reading holds, each counted each time it is reached (what is shared counts as often as it is met; a slice's spare places count too). A statement '..UptoSaid' is the law's where the arguments, and the package variables that the reading takes, are together of bulk at most 1048576: NARROWER than '..Said'. Prove '..Said' where nothing that the law and all that it calls make is longer than what came in: it says more and counts as full. Else prove '..UptoSaid'. A law counts once. -/
mutual
def uptoBulk {H : Type} : DataW H → Nat
  | .lit (.string bytes) => bytes.length + 1
  | .lit _ => 1
  | .nil => 1
  | .ptr d => uptoBulk d + 1
  | .slice elems spare => uptoBulkAll elems + uptoBulkAll spare + 1
  | .agg parts => uptoBulkAll parts + 1
  | .iface _ d => uptoBulk d + 1
  | .map entries => uptoBulkEntries entries + 1
  | .held _ => 1
def uptoBulkAll {H : Type} : List (DataW H) → Nat
  | [] => 0
  | d :: r => uptoBulk d + uptoBulkAll r
def uptoBulkEntries {H : Type} : List (Lit × DataW H) → Nat
  | [] => 0
  | x :: r => uptoBulkEntry x + uptoBulkEntries r
def uptoBulkEntry {H : Type} : Lit × DataW H → Nat
  | (.string bytes, d) => bytes.length + uptoBulk d + 1
  | (_, d) => uptoBulk d + 1
 end
def uptoSmall : (H : Type) → List (DataW H) → Bool := fun _ ds => decide (uptoBulkAll ds ≤ 1048576)
def OpenSpec.upto (s : _root_.Go.ChangeSpec) : _root_.Go.OpenSpec := { _root_.Go.OpenSpec.ofChange s with cond := some uptoSmall }

/-- 'hodoscopelaw05.ReadoutSuppresses', WHERE WHAT IT READS IS OF BULK AT MOST 1048576: true; the input reads as it did. -/
def readoutSuppressesUptoRow : OpenClaim := { program := "ytanillahofohgaa", sum := "5dca336bdaa236f639eb06f001be9f9e076a37e47a10153b6f222a59175e3e06", func := "hodoscope/hodoscopelaw05.ReadoutSuppresses", spec := "readoutSuppresses", unfollowed := true, recurses := true, apart := false, narrowed := true }
def ReadoutSuppressesUptoSaid : Prop := readoutSuppressesUptoRow.holds Try.pinned (OpenSpec.upto readoutSuppressesSpec)

/-- 'hodoscopelaw05.ReadoutPiles', WHERE WHAT IT READS IS OF BULK AT MOST 1048576: true; the input reads as it did. -/
def readoutPilesUptoRow : OpenClaim := { program := "ytanillahofohgaa", sum := "5dca336bdaa236f639eb06f001be9f9e076a37e47a10153b6f222a59175e3e06", func := "hodoscope/hodoscopelaw05.ReadoutPiles", spec := "readoutPiles", unfollowed := true, recurses := true, apart := false, narrowed := true }
def ReadoutPilesUptoSaid : Prop := readoutPilesUptoRow.holds Try.pinned (OpenSpec.upto readoutPilesSpec)

/-- 'hodoscopelaw05.ReadoutPacks', WHERE WHAT IT READS IS OF BULK AT MOST 1048576: true; the input reads as it did. -/
def readoutPacksUptoRow : OpenClaim := { program := "ytanillahofohgaa", sum := "5dca336bdaa236f639eb06f001be9f9e076a37e47a10153b6f222a59175e3e06", func := "hodoscope/hodoscopelaw05.ReadoutPacks", spec := "readoutPacks", unfollowed := true, recurses := true, apart := false, narrowed := true }
def ReadoutPacksUptoSaid : Prop := readoutPacksUptoRow.holds Try.pinned (OpenSpec.upto readoutPacksSpec)

/-- 'hodoscopelaw05.ReadoutUnpacks', WHERE WHAT IT READS IS OF BULK AT MOST 1048576: true; the input reads as it did. -/
def readoutUnpacksUptoRow : OpenClaim := { program := "ytanillahofohgaa", sum := "5dca336bdaa236f639eb06f001be9f9e076a37e47a10153b6f222a59175e3e06", func := "hodoscope/hodoscopelaw05.ReadoutUnpacks", spec := "readoutUnpacks", unfollowed := true, recurses := true, apart := false, narrowed := true }
def ReadoutUnpacksUptoSaid : Prop := readoutUnpacksUptoRow.holds Try.pinned (OpenSpec.upto readoutUnpacksSpec)

/-- 'hodoscopelaw05.ReadoutBursts', WHERE WHAT IT READS IS OF BULK AT MOST 1048576: true; the input reads as it did. -/
def readoutBurstsUptoRow : OpenClaim := { program := "ytanillahofohgaa", sum := "5dca336bdaa236f639eb06f001be9f9e076a37e47a10153b6f222a59175e3e06", func := "hodoscope/hodoscopelaw05.ReadoutBursts", spec := "readoutBursts", unfollowed := true, recurses := true, apart := false, narrowed := true }
def ReadoutBurstsUptoSaid : Prop := readoutBurstsUptoRow.holds Try.pinned (OpenSpec.upto readoutBurstsSpec)

/-- 'hodoscopelaw05.ReadoutScans', WHERE WHAT IT READS IS OF BULK AT MOST 1048576: true; the input reads as it did. -/
def readoutScansUptoRow : OpenClaim := { program := "ytanillahofohgaa", sum := "5dca336bdaa236f639eb06f001be9f9e076a37e47a10153b6f222a59175e3e06", func := "hodoscope/hodoscopelaw05.ReadoutScans", spec := "readoutScans", unfollowed := true, recurses := true, apart := false, narrowed := true }
def ReadoutScansUptoSaid : Prop := readoutScansUptoRow.holds Try.pinned (OpenSpec.upto readoutScansSpec)

/-- 'hodoscopelaw05.ReadoutLinks', WHERE WHAT IT READS IS OF BULK AT MOST 1048576: true; the input reads as it did. -/
def readoutLinksUptoRow : OpenClaim := { program := "ytanillahofohgaa", sum := "5dca336bdaa236f639eb06f001be9f9e076a37e47a10153b6f222a59175e3e06", func := "hodoscope/hodoscopelaw05.ReadoutLinks", spec := "readoutLinks", unfollowed := true, recurses := true, apart := false, narrowed := true }
def ReadoutLinksUptoSaid : Prop := readoutLinksUptoRow.holds Try.pinned (OpenSpec.upto readoutLinksSpec)

/-- 'hodoscopelaw05.ReadoutFlows', WHERE WHAT IT READS IS OF BULK AT MOST 1048576: true; the input reads as it did. -/
def readoutFlowsUptoRow : OpenClaim := { program := "ytanillahofohgaa", sum := "5dca336bdaa236f639eb06f001be9f9e076a37e47a10153b6f222a59175e3e06", func := "hodoscope/hodoscopelaw05.ReadoutFlows", spec := "readoutFlows", unfollowed := true, recurses := true, apart := false, narrowed := true }
def ReadoutFlowsUptoSaid : Prop := readoutFlowsUptoRow.holds Try.pinned (OpenSpec.upto readoutFlowsSpec)

end Rows
end Go.Proofs.Ytanillahofohgaa
