/- Plain facts: the identities of the law of the field. -/
import Derived.Test.YtdeiblgdigdbgaaDoorEzR
set_option linter.unusedVariables false
set_option linter.unusedSimpArgs false
namespace Go.Proofs.YtdeiblgdigdbgaaDoor
open Go.RowKit

theorem fl_comm (a b c d e f : Int) : (a * d + c * b) * (d * b) = (c * b + a * d) * (b * d) := by grind
theorem fl_assoc (a b c d e f : Int) : ((a * d + c * b) * f + e * (b * d)) * (b * (d * f)) = (a * (d * f) + (c * f + e * d) * b) * (b * d * f) := by grind
theorem fl_dist (a b c d e f : Int) : ((a * d + c * b) * e) * ((b * f) * (d * f)) = ((a * e) * (d * f) + (c * e) * (b * f)) * (b * d * f) := by grind
theorem fl_back (a b c d e f : Int) : ((a * d + c * b) * d - c * (b * d)) * b = a * ((b * d) * d) := by grind
theorem fl_order (a b c d e f : Int) (hd : 0 < d) : ord ((a * c) * (f * d)) ((e * c) * (b * d)) = ord (a * f) (e * b) * ord c 0 := by
  have e1 : (a * c) * (f * d) = (a * f) * (c * d) := by grind
  have e2 : (e * c) * (b * d) = (e * b) * (c * d) := by grind
  have e3 : ord (c * d) 0 = ord c 0 := ord_scale (s := 1) (t := d) (by decide) hd (by simp) (by simp)
  rw [e1, e2, ord_mul, e3]
theorem fl_quot {P Q a b c d : Int} (h : P * (b * (c * ord c 0)) = a * ord c 0 * d * Q) (hc : c ≠ 0) : (P * c) * b = a * (Q * d) := by
  rcases Int.lt_or_lt_of_ne hc with g | g
  · rw [ord_lt g] at h; grind
  · rw [ord_gt g] at h; grind

theorem fl_quotz {P Q a b c d : Int} (hQ : 0 < Q) (h : P * (b * (c * ord c 0)) = a * ord c 0 * d * Q) (hc : c ≠ 0) : (tP P Q * c) * b = a * (tQ Q * d) := by
  rw [tP_of hQ, tQ_of hQ]
  exact fl_quot h hc
theorem tP_ne {p q : Int} (h : tP p q ≠ 0) : p ≠ 0 ∧ q ≠ 0 := by
  unfold tP at h
  constructor
  · intro e
    subst e
    exact h (by split <;> (first | rfl | (split <;> rfl)))
  · intro e
    exact h (by rw [if_pos e])

end Go.Proofs.YtdeiblgdigdbgaaDoor
