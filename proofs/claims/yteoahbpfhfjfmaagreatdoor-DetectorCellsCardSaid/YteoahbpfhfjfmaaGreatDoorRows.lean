/-
  NARROWER THAN 'FOR EVERY INPUT', by the rows' own cells (each row's printed sentence says how): DetectorChecks: laid · DetectorFrames: laid · DetectorCells: laid · DetectorKeys: laid · DetectorBends: laid · DetectorGrows: laid.
  DERIVED. THE GIVEN ROWS OF THIS SEAT. 6 by the template 'for every input the law returns true; each argument reads behind the call as it read before'; 0 by the template 'total and deterministic' (their statements: YteoahbpfhfjfmaaGreatDoorTotals.lean).
  GIVEN WITH THE SEED: the statements are not yours to turn. If you find one false, say at which input.
  Laid BY PROGRAM, IN A SANDBOX (cutbox-rows.mjs): the forced cells as the released guide's own fill.sh prints them over the translation 108f4f5d61f1c668… (all of the seat's roots in one cut). By AI agents, Wed Nov 11 2026. No macro, syntax, notation, axiom, sorry.
-/
import Derived.Test.YteoahbpfhfjfmaaGreatDoorChecked
import GoSem.Claim
import GoSem.ClaimJoined
import GoSem.ClaimMapViews
import Derived.JoinedTies
import Derived.KernelRfl
namespace Go.Proofs.YteoahbpfhfjfmaaGreatDoor
/- THE CELL 'sum', in the pinned program and in every row, IS THE sha256 OF THE DUMP (.gsa) THAT YteoahbpfhfjfmaaGreatDoorProg.lean LOADS. Nothing in Lean hashes anything: it is a label: what it is worth is what the hold of that sum in a sandbox is worth. -/
noncomputable def Tryz.pinned : Pinned := { name := "yteoahbpfhfjfmaagreatdoor", sum := "108f4f5d61f1c668efe22dd4b939107194074f3aafa8ebc5eaa3cdfa4b3edeca", checked := Tryz.checked }
namespace Rows
def none {H : Type} : Left H := { results := [], args := [] }

/- WHAT THE LISTED PACKAGE-LEVEL VARIABLES READ AS WHEN THE CALL BEGINS. Each datum BY PROGRAM (the guide's laid-datum.mjs) off the statement by which the dump's own 'gosem.cut.vars' lays the variable. In a bare row this is a premise. The card (YteoahbpfhfjfmaaGreatDoorCards.lean) ties it to the program's text. -/
def laid_math_bits_deBruijn32tab {H : Type} : DataW H := .agg [.lit (.int .u8 0), .lit (.int .u8 1), .lit (.int .u8 28), .lit (.int .u8 2), .lit (.int .u8 29), .lit (.int .u8 14), .lit (.int .u8 24), .lit (.int .u8 3), .lit (.int .u8 30), .lit (.int .u8 22), .lit (.int .u8 20), .lit (.int .u8 15), .lit (.int .u8 25), .lit (.int .u8 17), .lit (.int .u8 4), .lit (.int .u8 8), .lit (.int .u8 31), .lit (.int .u8 27), .lit (.int .u8 13), .lit (.int .u8 23), .lit (.int .u8 21), .lit (.int .u8 19), .lit (.int .u8 16), .lit (.int .u8 7), .lit (.int .u8 26), .lit (.int .u8 12), .lit (.int .u8 18), .lit (.int .u8 6), .lit (.int .u8 11), .lit (.int .u8 5), .lit (.int .u8 10), .lit (.int .u8 9)]
def laid_math_bits_deBruijn64tab {H : Type} : DataW H := .agg [.lit (.int .u8 0), .lit (.int .u8 1), .lit (.int .u8 56), .lit (.int .u8 2), .lit (.int .u8 57), .lit (.int .u8 49), .lit (.int .u8 28), .lit (.int .u8 3), .lit (.int .u8 61), .lit (.int .u8 58), .lit (.int .u8 42), .lit (.int .u8 50), .lit (.int .u8 38), .lit (.int .u8 29), .lit (.int .u8 17), .lit (.int .u8 4), .lit (.int .u8 62), .lit (.int .u8 47), .lit (.int .u8 59), .lit (.int .u8 36), .lit (.int .u8 45), .lit (.int .u8 43), .lit (.int .u8 51), .lit (.int .u8 22), .lit (.int .u8 53), .lit (.int .u8 39), .lit (.int .u8 33), .lit (.int .u8 30), .lit (.int .u8 24), .lit (.int .u8 18), .lit (.int .u8 12), .lit (.int .u8 5), .lit (.int .u8 63), .lit (.int .u8 55), .lit (.int .u8 48), .lit (.int .u8 27), .lit (.int .u8 60), .lit (.int .u8 41), .lit (.int .u8 37), .lit (.int .u8 16), .lit (.int .u8 46), .lit (.int .u8 35), .lit (.int .u8 44), .lit (.int .u8 21), .lit (.int .u8 52), .lit (.int .u8 32), .lit (.int .u8 23), .lit (.int .u8 11), .lit (.int .u8 54), .lit (.int .u8 26), .lit (.int .u8 40), .lit (.int .u8 15), .lit (.int .u8 34), .lit (.int .u8 20), .lit (.int .u8 31), .lit (.int .u8 10), .lit (.int .u8 25), .lit (.int .u8 14), .lit (.int .u8 19), .lit (.int .u8 9), .lit (.int .u8 13), .lit (.int .u8 8), .lit (.int .u8 7), .lit (.int .u8 6)]
def laid_internal_strconv_uint64pow10 {H : Type} : DataW H := .agg [.lit (.int .u64 1), .lit (.int .u64 10), .lit (.int .u64 100), .lit (.int .u64 1000), .lit (.int .u64 10000), .lit (.int .u64 100000), .lit (.int .u64 1000000), .lit (.int .u64 10000000), .lit (.int .u64 100000000), .lit (.int .u64 1000000000), .lit (.int .u64 10000000000), .lit (.int .u64 100000000000), .lit (.int .u64 1000000000000), .lit (.int .u64 10000000000000), .lit (.int .u64 100000000000000), .lit (.int .u64 1000000000000000), .lit (.int .u64 10000000000000000), .lit (.int .u64 100000000000000000), .lit (.int .u64 1000000000000000000), .lit (.int .u64 10000000000000000000)]
def laid_strconv_ErrRange {H : Type} : DataW H := .iface "*errors.errorString" (.ptr (.agg [.lit (.string [118, 97, 108, 117, 101, 32, 111, 117, 116, 32, 111, 102, 32, 114, 97, 110, 103, 101])]))
def laid_strconv_ErrSyntax {H : Type} : DataW H := .iface "*errors.errorString" (.ptr (.agg [.lit (.string [105, 110, 118, 97, 108, 105, 100, 32, 115, 121, 110, 116, 97, 120])]))
def laid_hodoscope_detector_frames {H : Type} : DataW H := .agg [.agg [.agg [.lit (.int .i64 0), .lit (.int .i64 1), .lit (.int .i64 2)], .agg [.lit (.int .i64 1), .lit (.int .i64 1), .lit (.int .i64 1)]], .agg [.agg [.lit (.int .i64 1), .lit (.int .i64 0), .lit (.int .i64 2)], .agg [.lit (.int .i64 1), .lit (.int .i64 (-1)), .lit (.int .i64 1)]], .agg [.agg [.lit (.int .i64 0), .lit (.int .i64 1), .lit (.int .i64 2)], .agg [.lit (.int .i64 (-1)), .lit (.int .i64 (-1)), .lit (.int .i64 1)]], .agg [.agg [.lit (.int .i64 1), .lit (.int .i64 0), .lit (.int .i64 2)], .agg [.lit (.int .i64 (-1)), .lit (.int .i64 1), .lit (.int .i64 1)]], .agg [.agg [.lit (.int .i64 2), .lit (.int .i64 0), .lit (.int .i64 1)], .agg [.lit (.int .i64 1), .lit (.int .i64 1), .lit (.int .i64 1)]], .agg [.agg [.lit (.int .i64 2), .lit (.int .i64 1), .lit (.int .i64 0)], .agg [.lit (.int .i64 (-1)), .lit (.int .i64 1), .lit (.int .i64 1)]]]

/-- 'hodoscopelaw03.DetectorChecks': WHATEVER THE INPUT: true; the input reads as it did. -/
def detectorChecksSpec : ChangeSpec := { name := "detectorChecks", fn := fun _ => fun
  | [d1, d2] => { results := [.lit (.bool true)], args := [d1, d2] }
  | _ => none }
def detectorChecksRow : OpenClaim := { program := "yteoahbpfhfjfmaagreatdoor", sum := "108f4f5d61f1c668efe22dd4b939107194074f3aafa8ebc5eaa3cdfa4b3edeca", func := "hodoscope/hodoscopelaw03.DetectorChecks", spec := "detectorChecks", inPlace := ["internal/bytealg.IndexByteString", "internal/bytealg.IndexString", "internal/abi.NoEscape"], unfollowed := true, recurses := true, named := ["hodoscope/detector.frames", "internal/bytealg.MaxLen", "strconv.ErrSyntax", "strconv.ErrRange", "internal/strconv.uint64pow10", "math/bits.deBruijn32tab", "math/bits.deBruijn64tab"], apart := false, laid := [("math/bits.deBruijn32tab", laid_math_bits_deBruijn32tab), ("math/bits.deBruijn64tab", laid_math_bits_deBruijn64tab), ("internal/strconv.uint64pow10", laid_internal_strconv_uint64pow10), ("strconv.ErrRange", laid_strconv_ErrRange), ("strconv.ErrSyntax", laid_strconv_ErrSyntax), ("hodoscope/detector.frames", laid_hodoscope_detector_frames)] }
def DetectorChecksSaid : Prop := detectorChecksRow.holds Tryz.pinned (OpenSpec.ofChange detectorChecksSpec)

/-- ITS FALSE NEIGHBOUR: 'it returns false'. Refute it at one input. -/
def detectorChecksWrong : ChangeSpec := { name := "detectorChecks", fn := fun _ => fun
  | [d1, d2] => { results := [.lit (.bool false)], args := [d1, d2] }
  | _ => none }
def DetectorChecksWrongFalsely : Prop := detectorChecksRow.holds Tryz.pinned (OpenSpec.ofChange detectorChecksWrong)

/-- 'hodoscopelaw03.DetectorFrames': WHATEVER THE INPUT: true; the input reads as it did. -/
def detectorFramesSpec : ChangeSpec := { name := "detectorFrames", fn := fun _ => fun
  | [d1, d2] => { results := [.lit (.bool true)], args := [d1, d2] }
  | _ => none }
def detectorFramesRow : OpenClaim := { program := "yteoahbpfhfjfmaagreatdoor", sum := "108f4f5d61f1c668efe22dd4b939107194074f3aafa8ebc5eaa3cdfa4b3edeca", func := "hodoscope/hodoscopelaw03.DetectorFrames", spec := "detectorFrames", inPlace := ["internal/bytealg.IndexByteString", "internal/bytealg.IndexString", "internal/abi.NoEscape"], unfollowed := true, recurses := true, named := ["hodoscope/detector.frames", "internal/bytealg.MaxLen", "strconv.ErrSyntax", "strconv.ErrRange", "internal/strconv.uint64pow10", "math/bits.deBruijn32tab", "math/bits.deBruijn64tab"], apart := false, laid := [("math/bits.deBruijn32tab", laid_math_bits_deBruijn32tab), ("math/bits.deBruijn64tab", laid_math_bits_deBruijn64tab), ("internal/strconv.uint64pow10", laid_internal_strconv_uint64pow10), ("strconv.ErrRange", laid_strconv_ErrRange), ("strconv.ErrSyntax", laid_strconv_ErrSyntax), ("hodoscope/detector.frames", laid_hodoscope_detector_frames)] }
def DetectorFramesSaid : Prop := detectorFramesRow.holds Tryz.pinned (OpenSpec.ofChange detectorFramesSpec)

/-- ITS FALSE NEIGHBOUR: 'it returns false'. Refute it at one input. -/
def detectorFramesWrong : ChangeSpec := { name := "detectorFrames", fn := fun _ => fun
  | [d1, d2] => { results := [.lit (.bool false)], args := [d1, d2] }
  | _ => none }
def DetectorFramesWrongFalsely : Prop := detectorFramesRow.holds Tryz.pinned (OpenSpec.ofChange detectorFramesWrong)

/-- 'hodoscopelaw03.DetectorCells': WHATEVER THE INPUT: true; the input reads as it did. -/
def detectorCellsSpec : ChangeSpec := { name := "detectorCells", fn := fun _ => fun
  | [d1, d2] => { results := [.lit (.bool true)], args := [d1, d2] }
  | _ => none }
def detectorCellsRow : OpenClaim := { program := "yteoahbpfhfjfmaagreatdoor", sum := "108f4f5d61f1c668efe22dd4b939107194074f3aafa8ebc5eaa3cdfa4b3edeca", func := "hodoscope/hodoscopelaw03.DetectorCells", spec := "detectorCells", inPlace := ["internal/bytealg.IndexByteString", "internal/bytealg.IndexString", "internal/abi.NoEscape"], unfollowed := true, recurses := true, named := ["hodoscope/detector.frames", "internal/bytealg.MaxLen", "strconv.ErrSyntax", "strconv.ErrRange", "internal/strconv.uint64pow10", "math/bits.deBruijn32tab", "math/bits.deBruijn64tab"], apart := false, laid := [("math/bits.deBruijn32tab", laid_math_bits_deBruijn32tab), ("math/bits.deBruijn64tab", laid_math_bits_deBruijn64tab), ("internal/strconv.uint64pow10", laid_internal_strconv_uint64pow10), ("strconv.ErrRange", laid_strconv_ErrRange), ("strconv.ErrSyntax", laid_strconv_ErrSyntax), ("hodoscope/detector.frames", laid_hodoscope_detector_frames)] }
def DetectorCellsSaid : Prop := detectorCellsRow.holds Tryz.pinned (OpenSpec.ofChange detectorCellsSpec)

/-- ITS FALSE NEIGHBOUR: 'it returns false'. Refute it at one input. -/
def detectorCellsWrong : ChangeSpec := { name := "detectorCells", fn := fun _ => fun
  | [d1, d2] => { results := [.lit (.bool false)], args := [d1, d2] }
  | _ => none }
def DetectorCellsWrongFalsely : Prop := detectorCellsRow.holds Tryz.pinned (OpenSpec.ofChange detectorCellsWrong)

/-- 'hodoscopelaw03.DetectorKeys': WHATEVER THE INPUT: true; the input reads as it did. -/
def detectorKeysSpec : ChangeSpec := { name := "detectorKeys", fn := fun _ => fun
  | [d1, d2] => { results := [.lit (.bool true)], args := [d1, d2] }
  | _ => none }
def detectorKeysRow : OpenClaim := { program := "yteoahbpfhfjfmaagreatdoor", sum := "108f4f5d61f1c668efe22dd4b939107194074f3aafa8ebc5eaa3cdfa4b3edeca", func := "hodoscope/hodoscopelaw03.DetectorKeys", spec := "detectorKeys", inPlace := ["internal/bytealg.IndexByteString", "internal/bytealg.IndexString", "internal/abi.NoEscape"], unfollowed := true, recurses := true, named := ["hodoscope/detector.frames", "internal/bytealg.MaxLen", "strconv.ErrSyntax", "strconv.ErrRange", "internal/strconv.uint64pow10", "math/bits.deBruijn32tab", "math/bits.deBruijn64tab"], apart := false, laid := [("math/bits.deBruijn32tab", laid_math_bits_deBruijn32tab), ("math/bits.deBruijn64tab", laid_math_bits_deBruijn64tab), ("internal/strconv.uint64pow10", laid_internal_strconv_uint64pow10), ("strconv.ErrRange", laid_strconv_ErrRange), ("strconv.ErrSyntax", laid_strconv_ErrSyntax), ("hodoscope/detector.frames", laid_hodoscope_detector_frames)] }
def DetectorKeysSaid : Prop := detectorKeysRow.holds Tryz.pinned (OpenSpec.ofChange detectorKeysSpec)

/-- ITS FALSE NEIGHBOUR: 'it returns false'. Refute it at one input. -/
def detectorKeysWrong : ChangeSpec := { name := "detectorKeys", fn := fun _ => fun
  | [d1, d2] => { results := [.lit (.bool false)], args := [d1, d2] }
  | _ => none }
def DetectorKeysWrongFalsely : Prop := detectorKeysRow.holds Tryz.pinned (OpenSpec.ofChange detectorKeysWrong)

/-- 'hodoscopelaw03.DetectorBends': WHATEVER THE INPUT: true; the input reads as it did. -/
def detectorBendsSpec : ChangeSpec := { name := "detectorBends", fn := fun _ => fun
  | [d1, d2, d3] => { results := [.lit (.bool true)], args := [d1, d2, d3] }
  | _ => none }
def detectorBendsRow : OpenClaim := { program := "yteoahbpfhfjfmaagreatdoor", sum := "108f4f5d61f1c668efe22dd4b939107194074f3aafa8ebc5eaa3cdfa4b3edeca", func := "hodoscope/hodoscopelaw03.DetectorBends", spec := "detectorBends", inPlace := ["internal/bytealg.IndexByteString", "internal/bytealg.IndexString", "internal/abi.NoEscape"], unfollowed := true, recurses := true, named := ["hodoscope/detector.frames", "internal/bytealg.MaxLen", "strconv.ErrSyntax", "strconv.ErrRange", "internal/strconv.uint64pow10", "math/bits.deBruijn32tab", "math/bits.deBruijn64tab"], apart := false, laid := [("math/bits.deBruijn32tab", laid_math_bits_deBruijn32tab), ("math/bits.deBruijn64tab", laid_math_bits_deBruijn64tab), ("internal/strconv.uint64pow10", laid_internal_strconv_uint64pow10), ("strconv.ErrRange", laid_strconv_ErrRange), ("strconv.ErrSyntax", laid_strconv_ErrSyntax), ("hodoscope/detector.frames", laid_hodoscope_detector_frames)] }
def DetectorBendsSaid : Prop := detectorBendsRow.holds Tryz.pinned (OpenSpec.ofChange detectorBendsSpec)

/-- ITS FALSE NEIGHBOUR: 'it returns false'. Refute it at one input. -/
def detectorBendsWrong : ChangeSpec := { name := "detectorBends", fn := fun _ => fun
  | [d1, d2, d3] => { results := [.lit (.bool false)], args := [d1, d2, d3] }
  | _ => none }
def DetectorBendsWrongFalsely : Prop := detectorBendsRow.holds Tryz.pinned (OpenSpec.ofChange detectorBendsWrong)

/-- 'hodoscopelaw03.DetectorGrows': WHATEVER THE INPUT: true; the input reads as it did. -/
def detectorGrowsSpec : ChangeSpec := { name := "detectorGrows", fn := fun _ => fun
  | [d1, d2, d3] => { results := [.lit (.bool true)], args := [d1, d2, d3] }
  | _ => none }
def detectorGrowsRow : OpenClaim := { program := "yteoahbpfhfjfmaagreatdoor", sum := "108f4f5d61f1c668efe22dd4b939107194074f3aafa8ebc5eaa3cdfa4b3edeca", func := "hodoscope/hodoscopelaw03.DetectorGrows", spec := "detectorGrows", inPlace := ["internal/bytealg.IndexByteString", "internal/bytealg.IndexString", "internal/abi.NoEscape"], unfollowed := true, recurses := true, named := ["hodoscope/detector.frames", "internal/bytealg.MaxLen", "strconv.ErrSyntax", "strconv.ErrRange", "internal/strconv.uint64pow10", "math/bits.deBruijn32tab", "math/bits.deBruijn64tab"], apart := false, laid := [("math/bits.deBruijn32tab", laid_math_bits_deBruijn32tab), ("math/bits.deBruijn64tab", laid_math_bits_deBruijn64tab), ("internal/strconv.uint64pow10", laid_internal_strconv_uint64pow10), ("strconv.ErrRange", laid_strconv_ErrRange), ("strconv.ErrSyntax", laid_strconv_ErrSyntax), ("hodoscope/detector.frames", laid_hodoscope_detector_frames)] }
def DetectorGrowsSaid : Prop := detectorGrowsRow.holds Tryz.pinned (OpenSpec.ofChange detectorGrowsSpec)

/-- ITS FALSE NEIGHBOUR: 'it returns false'. Refute it at one input. -/
def detectorGrowsWrong : ChangeSpec := { name := "detectorGrows", fn := fun _ => fun
  | [d1, d2, d3] => { results := [.lit (.bool false)], args := [d1, d2, d3] }
  | _ => none }
def DetectorGrowsWrongFalsely : Prop := detectorGrowsRow.holds Tryz.pinned (OpenSpec.ofChange detectorGrowsWrong)

/- THE SECOND FORM. 'bulk': how many values and letters a reading holds, each counted each time it is reached (what is shared counts as often as it is met; a slice's spare places count too). A statement '..UptoSaid' is the law's where the arguments, and the package variables that the reading takes, are together of bulk at most 1048576: NARROWER than '..Said'. Prove '..Said' where nothing that the law and all that it calls make is longer than what came in: it says more and counts as full. Else prove '..UptoSaid'. A law counts once. -/
mutual
def uptoBulk {H : Type} : DataW H → Nat
  | .lit (.string bytes) => bytes.length + 1
  | .lit _ => 1
  | .nil => 1
  | .ptr d => uptoBulk d + 1
  | .slice elems spare => uptoBulkAll elems + uptoBulkAll spare + 1
  | .agg parts => uptoBulkAll parts + 1
  | .iface _ d => uptoBulk d + 1
  | .map entries => uptoBulkEntries entries + 1
  | .held _ => 1
def uptoBulkAll {H : Type} : List (DataW H) → Nat
  | [] => 0
  | d :: r => uptoBulk d + uptoBulkAll r
def uptoBulkEntries {H : Type} : List (Lit × DataW H) → Nat
  | [] => 0
  | x :: r => uptoBulkEntry x + uptoBulkEntries r
def uptoBulkEntry {H : Type} : Lit × DataW H → Nat
  | (.string bytes, d) => bytes.length + uptoBulk d + 1
  | (_, d) => uptoBulk d + 1
 end
def uptoSmall : (H : Type) → List (DataW H) → Bool := fun _ ds => decide (uptoBulkAll ds ≤ 1048576)
def OpenSpec.upto (s : _root_.Go.ChangeSpec) : _root_.Go.OpenSpec := { _root_.Go.OpenSpec.ofChange s with cond := some uptoSmall }

/-- 'hodoscopelaw03.DetectorChecks', WHERE WHAT IT READS IS OF BULK AT MOST 1048576: true; the input reads as it did. -/
def detectorChecksUptoRow : OpenClaim := { program := "yteoahbpfhfjfmaagreatdoor", sum := "108f4f5d61f1c668efe22dd4b939107194074f3aafa8ebc5eaa3cdfa4b3edeca", func := "hodoscope/hodoscopelaw03.DetectorChecks", spec := "detectorChecks", inPlace := ["internal/bytealg.IndexByteString", "internal/bytealg.IndexString", "internal/abi.NoEscape"], unfollowed := true, recurses := true, named := ["hodoscope/detector.frames", "internal/bytealg.MaxLen", "strconv.ErrSyntax", "strconv.ErrRange", "internal/strconv.uint64pow10", "math/bits.deBruijn32tab", "math/bits.deBruijn64tab"], apart := false, laid := [("math/bits.deBruijn32tab", laid_math_bits_deBruijn32tab), ("math/bits.deBruijn64tab", laid_math_bits_deBruijn64tab), ("internal/strconv.uint64pow10", laid_internal_strconv_uint64pow10), ("strconv.ErrRange", laid_strconv_ErrRange), ("strconv.ErrSyntax", laid_strconv_ErrSyntax), ("hodoscope/detector.frames", laid_hodoscope_detector_frames)], narrowed := true }
def DetectorChecksUptoSaid : Prop := detectorChecksUptoRow.holds Tryz.pinned (OpenSpec.upto detectorChecksSpec)

/-- 'hodoscopelaw03.DetectorFrames', WHERE WHAT IT READS IS OF BULK AT MOST 1048576: true; the input reads as it did. -/
def detectorFramesUptoRow : OpenClaim := { program := "yteoahbpfhfjfmaagreatdoor", sum := "108f4f5d61f1c668efe22dd4b939107194074f3aafa8ebc5eaa3cdfa4b3edeca", func := "hodoscope/hodoscopelaw03.DetectorFrames", spec := "detectorFrames", inPlace := ["internal/bytealg.IndexByteString", "internal/bytealg.IndexString", "internal/abi.NoEscape"], unfollowed := true, recurses := true, named := ["hodoscope/detector.frames", "internal/bytealg.MaxLen", "strconv.ErrSyntax", "strconv.ErrRange", "internal/strconv.uint64pow10", "math/bits.deBruijn32tab", "math/bits.deBruijn64tab"], apart := false, laid := [("math/bits.deBruijn32tab", laid_math_bits_deBruijn32tab), ("math/bits.deBruijn64tab", laid_math_bits_deBruijn64tab), ("internal/strconv.uint64pow10", laid_internal_strconv_uint64pow10), ("strconv.ErrRange", laid_strconv_ErrRange), ("strconv.ErrSyntax", laid_strconv_ErrSyntax), ("hodoscope/detector.frames", laid_hodoscope_detector_frames)], narrowed := true }
def DetectorFramesUptoSaid : Prop := detectorFramesUptoRow.holds Tryz.pinned (OpenSpec.upto detectorFramesSpec)

/-- 'hodoscopelaw03.DetectorCells', WHERE WHAT IT READS IS OF BULK AT MOST 1048576: true; the input reads as it did. -/
def detectorCellsUptoRow : OpenClaim := { program := "yteoahbpfhfjfmaagreatdoor", sum := "108f4f5d61f1c668efe22dd4b939107194074f3aafa8ebc5eaa3cdfa4b3edeca", func := "hodoscope/hodoscopelaw03.DetectorCells", spec := "detectorCells", inPlace := ["internal/bytealg.IndexByteString", "internal/bytealg.IndexString", "internal/abi.NoEscape"], unfollowed := true, recurses := true, named := ["hodoscope/detector.frames", "internal/bytealg.MaxLen", "strconv.ErrSyntax", "strconv.ErrRange", "internal/strconv.uint64pow10", "math/bits.deBruijn32tab", "math/bits.deBruijn64tab"], apart := false, laid := [("math/bits.deBruijn32tab", laid_math_bits_deBruijn32tab), ("math/bits.deBruijn64tab", laid_math_bits_deBruijn64tab), ("internal/strconv.uint64pow10", laid_internal_strconv_uint64pow10), ("strconv.ErrRange", laid_strconv_ErrRange), ("strconv.ErrSyntax", laid_strconv_ErrSyntax), ("hodoscope/detector.frames", laid_hodoscope_detector_frames)], narrowed := true }
def DetectorCellsUptoSaid : Prop := detectorCellsUptoRow.holds Tryz.pinned (OpenSpec.upto detectorCellsSpec)

/-- 'hodoscopelaw03.DetectorKeys', WHERE WHAT IT READS IS OF BULK AT MOST 1048576: true; the input reads as it did. -/
def detectorKeysUptoRow : OpenClaim := { program := "yteoahbpfhfjfmaagreatdoor", sum := "108f4f5d61f1c668efe22dd4b939107194074f3aafa8ebc5eaa3cdfa4b3edeca", func := "hodoscope/hodoscopelaw03.DetectorKeys", spec := "detectorKeys", inPlace := ["internal/bytealg.IndexByteString", "internal/bytealg.IndexString", "internal/abi.NoEscape"], unfollowed := true, recurses := true, named := ["hodoscope/detector.frames", "internal/bytealg.MaxLen", "strconv.ErrSyntax", "strconv.ErrRange", "internal/strconv.uint64pow10", "math/bits.deBruijn32tab", "math/bits.deBruijn64tab"], apart := false, laid := [("math/bits.deBruijn32tab", laid_math_bits_deBruijn32tab), ("math/bits.deBruijn64tab", laid_math_bits_deBruijn64tab), ("internal/strconv.uint64pow10", laid_internal_strconv_uint64pow10), ("strconv.ErrRange", laid_strconv_ErrRange), ("strconv.ErrSyntax", laid_strconv_ErrSyntax), ("hodoscope/detector.frames", laid_hodoscope_detector_frames)], narrowed := true }
def DetectorKeysUptoSaid : Prop := detectorKeysUptoRow.holds Tryz.pinned (OpenSpec.upto detectorKeysSpec)

/-- 'hodoscopelaw03.DetectorBends', WHERE WHAT IT READS IS OF BULK AT MOST 1048576: true; the input reads as it did. -/
def detectorBendsUptoRow : OpenClaim := { program := "yteoahbpfhfjfmaagreatdoor", sum := "108f4f5d61f1c668efe22dd4b939107194074f3aafa8ebc5eaa3cdfa4b3edeca", func := "hodoscope/hodoscopelaw03.DetectorBends", spec := "detectorBends", inPlace := ["internal/bytealg.IndexByteString", "internal/bytealg.IndexString", "internal/abi.NoEscape"], unfollowed := true, recurses := true, named := ["hodoscope/detector.frames", "internal/bytealg.MaxLen", "strconv.ErrSyntax", "strconv.ErrRange", "internal/strconv.uint64pow10", "math/bits.deBruijn32tab", "math/bits.deBruijn64tab"], apart := false, laid := [("math/bits.deBruijn32tab", laid_math_bits_deBruijn32tab), ("math/bits.deBruijn64tab", laid_math_bits_deBruijn64tab), ("internal/strconv.uint64pow10", laid_internal_strconv_uint64pow10), ("strconv.ErrRange", laid_strconv_ErrRange), ("strconv.ErrSyntax", laid_strconv_ErrSyntax), ("hodoscope/detector.frames", laid_hodoscope_detector_frames)], narrowed := true }
def DetectorBendsUptoSaid : Prop := detectorBendsUptoRow.holds Tryz.pinned (OpenSpec.upto detectorBendsSpec)

/-- 'hodoscopelaw03.DetectorGrows', WHERE WHAT IT READS IS OF BULK AT MOST 1048576: true; the input reads as it did. -/
def detectorGrowsUptoRow : OpenClaim := { program := "yteoahbpfhfjfmaagreatdoor", sum := "108f4f5d61f1c668efe22dd4b939107194074f3aafa8ebc5eaa3cdfa4b3edeca", func := "hodoscope/hodoscopelaw03.DetectorGrows", spec := "detectorGrows", inPlace := ["internal/bytealg.IndexByteString", "internal/bytealg.IndexString", "internal/abi.NoEscape"], unfollowed := true, recurses := true, named := ["hodoscope/detector.frames", "internal/bytealg.MaxLen", "strconv.ErrSyntax", "strconv.ErrRange", "internal/strconv.uint64pow10", "math/bits.deBruijn32tab", "math/bits.deBruijn64tab"], apart := false, laid := [("math/bits.deBruijn32tab", laid_math_bits_deBruijn32tab), ("math/bits.deBruijn64tab", laid_math_bits_deBruijn64tab), ("internal/strconv.uint64pow10", laid_internal_strconv_uint64pow10), ("strconv.ErrRange", laid_strconv_ErrRange), ("strconv.ErrSyntax", laid_strconv_ErrSyntax), ("hodoscope/detector.frames", laid_hodoscope_detector_frames)], narrowed := true }
def DetectorGrowsUptoSaid : Prop := detectorGrowsUptoRow.holds Tryz.pinned (OpenSpec.upto detectorGrowsSpec)

end Rows
end Go.Proofs.YteoahbpfhfjfmaaGreatDoor
