/- Layer 5: the law ReadoutUnpacks. -/
import Derived.Test.YtanillahofohgaaRbF
import Derived.Test.YtanillahofohgaaRbG
import Derived.Test.YtanillahofohgaaRbI
set_option linter.unusedVariables false
set_option linter.unusedSimpArgs false
set_option maxRecDepth 100000
namespace Go.Proofs.Ytanillahofohgaa
open Go.RowKit

def unpG (m : List UInt8) : Fr := if unpOk m then unpF m else ⟨0, 0, 0, 0, []⟩
def unpN (m : List UInt8) : Nat := if unpOk m then 20 + 4 * hdN m else 0
def unpE (m : List UInt8) : Int := if unpOk m then 0 else 5
/-- What both answer, at any bytes. -/
theorem UnpPost.both {w w' : World} {m : List UInt8} {e : Ending} (h : UnpPost w m e w') : ∃ v, e = .returned (.tuple #[(unpG m).val v, .int .i64 (unpN m : Nat), .int .i64 (unpE m)]) ∧ HiS w' v (unpG m).hs ∧ Below w.heap.size w w' := by
  obtain ⟨h1, h2, h3⟩ := h
  unfold unpG unpN unpE
  cases ho : unpOk m with
  | true =>
    obtain ⟨v, e1, e2⟩ := h1 ho
    exact ⟨v, e1, e2.hi, h3⟩
  | false => exact ⟨.slice none 0 0, h2 ho, HiS.nil w', h3⟩
theorem unpG_len (m : List UInt8) : (unpG m).hs.length ≤ 65536 := by
  unfold unpG
  cases ho : unpOk m with
  | true =>
    show (rawL (m.drop 18) (hdN m)).length ≤ 65536
    rw [rawL_len]
    have := beV2_lt (m.drop 14)
    unfold hdN
    omega
  | false => exact Nat.zero_le _

end Go.Proofs.Ytanillahofohgaa
