/- Layer 3: contracts: lines; the bend that one slab gives. -/
import Derived.Test.YteoahbpfhfjfmaaGreatDoorDbA
import Derived.BigRegion
set_option linter.unusedVariables false
set_option linter.unusedSimpArgs false
namespace Go.Proofs.YteoahbpfhfjfmaaGreatDoor
open Go.RowKit

def lineB (x0 x1 k y0 y1 : Int) : Bool := inB x0 (-1099511627776) 1099511627776 && inB y0 (-1099511627776) 1099511627776 && inB x1 (-1048576) 1048576 && inB y1 (-1048576) 1048576 && inB k (-65536) 65536

set_option maxHeartbeats 1600000 in
theorem isLine_any (x0 x1 k y0 y1 : Int) (w : World) : Calls Tryz.prog 90 #[.agg #[.int .i64 x0, .int .i64 x1, .int .i64 k, .int .i64 y0, .int .i64 y1]] w fun e w' => e = .returned (.bool (lineB x0 x1 k y0 y1)) ∧ w' = w.alloc (.cells #[.int .i64 x0, .int .i64 x1, .int .i64 k, .int .i64 y0, .int .i64 y1] 65) := by
  cases h1 : inB x0 (-1099511627776) 1099511627776
  all_goals cases h2 : inB y0 (-1099511627776) 1099511627776
  all_goals cases h3 : inB x1 (-1048576) 1048576
  all_goals cases h4 : inB y1 (-1048576) 1048576
  all_goals
    go_enter Tryz.func90, Tryz.ntmps90
    go_wp2_with (first | (go_at_call 86; refine (isReach_any _ _).mono ?_; rintro e w' ⟨rfl, rfl⟩) | (go_at_call 103; refine (isSlope_any _ _).mono ?_; rintro e w' ⟨rfl, rfl⟩) | (go_at_call 55; refine (within _ _ _ _).mono ?_; rintro e w' ⟨rfl, rfl⟩))
  all_goals
    go_ret
    exact ⟨ret_bool (by unfold lineB; simp [*]), by first | rfl | grind⟩

/-- The bend that a slab gives, twice. -/
def bgv (s1 s2 s3 d : Int) : Int := if d ≤ s1 then 0 else s3 * ((d - s1) * (d - s1) - (d - min s2 d) * (d - min s2 d))
theorem slab_bd {s0 s1 s2 s3 : Int} (h : slabB s0 s1 s2 s3 = true) : 0 ≤ s0 ∧ s0 ≤ 5 ∧ 0 ≤ s1 ∧ s1 < s2 ∧ s2 ≤ 65536 ∧ -1024 ≤ s3 ∧ s3 ≤ 1024 := by
  unfold slabB inB spanB at h
  grind

theorem mul_bd0 {a b : Int} (A B : Int) (ha : -A ≤ a ∧ a ≤ A) (hb : 0 ≤ b ∧ b ≤ B) : -(A * B) ≤ a * b ∧ a * b ≤ A * B := by
  have hA : 0 ≤ A := by omega
  have h1 : a * b ≤ A * b := Int.mul_le_mul_of_nonneg_right ha.2 (by omega)
  have h2 : A * b ≤ A * B := Int.mul_le_mul_of_nonneg_left hb.2 hA
  have h3 : (-A) * b ≤ a * b := Int.mul_le_mul_of_nonneg_right ha.1 (by omega)
  have h4 : (-A) * b = -(A * b) := Int.neg_mul _ _
  omega
theorem sq_bd {a : Int} (A : Int) (ha : 0 ≤ a ∧ a ≤ A) : 0 ≤ a * a ∧ a * a ≤ A * A :=
  ⟨Int.mul_nonneg ha.1 ha.1, Int.mul_le_mul ha.2 ha.2 ha.1 (by omega)⟩
theorem bgv_bd {s0 s1 s2 s3 d : Int} (h : slabB s0 s1 s2 s3 = true) (hd : 0 ≤ d ∧ d ≤ 65536) : -4398046511104 ≤ bgv s1 s2 s3 d ∧ bgv s1 s2 s3 d ≤ 4398046511104 := by
  obtain ⟨_, _, a1, a2, a3, a4, a5⟩ := slab_bd h
  unfold bgv
  split
  · decide
  · have q1 := sq_bd (a := d - s1) 65536 (by omega)
    have q2 := sq_bd (a := d - min s2 d) 65536 (by omega)
    have q3 : (d - min s2 d) * (d - min s2 d) ≤ (d - s1) * (d - s1) := Int.mul_le_mul (by omega) (by omega) (by omega) (by omega)
    exact mul_bd0 1024 4294967296 (by omega) (by omega)

set_option maxRecDepth 20000 in
set_option maxHeartbeats 800000 in
theorem bend1_any (s0 s1 s2 s3 d : Int) (w : World) (h : slabB s0 s1 s2 s3 = true) (hd : 0 ≤ d ∧ d ≤ 65536) :
    Calls Tryz.prog 88 #[.agg #[.int .i64 s0, .int .i64 s1, .int .i64 s2, .int .i64 s3], .int .i64 d] w fun e w' => e = .returned (.int .i64 (bgv s1 s2 s3 d)) ∧ Below w.heap.size w w' := by
  obtain ⟨_, _, a1, a2, a3, a4, a5⟩ := slab_bd h
  obtain ⟨d0, d1⟩ := hd
  by_cases hc : d ≤ s1
  · go_enter Tryz.func88, Tryz.ntmps88
    go_wp2_with fail
    go_ret
    exact ⟨ret_int (by simp [bgv, hc]), by repeat (first | exact Below.refl _ _ | exact Nat.le_refl _ | (apply Below.alloc) | (apply Below.drew) | (simp <;> omega))⟩
  · obtain ⟨q0, q1⟩ := sq_bd (a := d - s1) 65536 (by omega)
    by_cases hs : d < s2
    · have hE := Lib.hid (show bgv s1 s2 s3 d = s3 * ((d - s1) * (d - s1)) by unfold bgv; rw [if_neg hc, show min s2 d = d by omega]; simp)
      obtain ⟨r0, r1⟩ := mul_bd0 (a := s3) (b := (d - s1) * (d - s1)) 1024 4294967296 (by omega) (by omega)
      go_enter Tryz.func88, Tryz.ntmps88
      go_wp2_with fail
      go_region
      go_wp2_with fail
      go_ret
      exact ⟨ret_int (by rw [hE.out]), by repeat (first | exact Below.refl _ _ | exact Nat.le_refl _ | (apply Below.alloc) | (apply Below.drew) | (simp <;> omega))⟩
    · have hE := Lib.hid (show bgv s1 s2 s3 d = s3 * ((d - s1) * (d - s1) - (d - s2) * (d - s2)) by unfold bgv; rw [if_neg hc, show min s2 d = s2 by omega])
      obtain ⟨p0, p1⟩ := sq_bd (a := d - s2) 65536 (by omega)
      have p2 : (d - s2) * (d - s2) ≤ (d - s1) * (d - s1) := Int.mul_le_mul (by omega) (by omega) (by omega) (by omega)
      obtain ⟨r0, r1⟩ := mul_bd0 (a := s3) (b := (d - s1) * (d - s1) - (d - s2) * (d - s2)) 1024 4294967296 (by omega) (by omega)
      go_enter Tryz.func88, Tryz.ntmps88
      go_wp2_with fail
      go_region
      go_wp2_with fail
      go_ret
      exact ⟨ret_int (by rw [hE.out]), by repeat (first | exact Below.refl _ _ | exact Nat.le_refl _ | (apply Below.alloc) | (apply Below.drew) | (simp <;> omega))⟩
end Go.Proofs.YteoahbpfhfjfmaaGreatDoor
