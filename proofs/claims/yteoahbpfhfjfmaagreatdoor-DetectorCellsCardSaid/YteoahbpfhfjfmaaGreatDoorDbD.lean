/- Layer 3: contracts: two cables. -/
import Derived.Test.YteoahbpfhfjfmaaGreatDoorDbA
set_option linter.unusedVariables false
set_option linter.unusedSimpArgs false
namespace Go.Proofs.YteoahbpfhfjfmaaGreatDoor
open Go.RowKit

def liveB (a b : Nat → Int) : Bool := commB (a 7) (a 8) (b 7) (b 8)
def cellB (a b : Nat → Int) : Bool := commB (a 3) (a 3 + a 5) (b 3) (b 3 + b 5) && commB (a 4) (a 4 + a 6) (b 4) (b 4 + b 6)

set_option maxRecDepth 20000 in
set_option maxHeartbeats 800000 in
theorem areBothLive_any (ba oa bb ob : Nat) (x y : Nat → Int) (w : World) (hx : ∀ k, k < 9 → w.cell? ⟨ba, oa + k, none⟩ = some (.int .i64 (x k))) (hy : ∀ k, k < 9 → w.cell? ⟨bb, ob + k, none⟩ = some (.int .i64 (y k))) :
    Calls Tryz.prog 83 #[.pointer (some ⟨ba, oa, none⟩), .pointer (some ⟨bb, ob, none⟩)] w fun e w' => e = .returned (.bool (liveB x y)) ∧ ∃ n, w' = w.drewN n := by
  have x7 := hx 7 (by omega)
  have x8 := hx 8 (by omega)
  have y7 := hy 7 (by omega)
  have y8 := hy 8 (by omega)
  clear hx hy
  go_enter Tryz.func83, Tryz.ntmps83
  go_wp2_with fail
  go_quiet ((go_at_call 79; exact Calls.quiet_of_same (haveCommon_same _ _ _ _ _)))
  go_wp2_with fail
  go_ret
  exact ⟨rfl, _, rfl⟩

set_option maxRecDepth 20000 in
set_option maxHeartbeats 1600000 in
theorem haveCommonCell_any (ba oa bb ob : Nat) (x y : Nat → Int) (w : World) (hx : ∀ k, k < 9 → w.cell? ⟨ba, oa + k, none⟩ = some (.int .i64 (x k))) (hy : ∀ k, k < 9 → w.cell? ⟨bb, ob + k, none⟩ = some (.int .i64 (y k)))
    (bx : ∀ k, 3 ≤ k → k ≤ 6 → 0 ≤ x k ∧ x k ≤ 100000) (by' : ∀ k, 3 ≤ k → k ≤ 6 → 0 ≤ y k ∧ y k ≤ 100000) :
    Calls Tryz.prog 84 #[.pointer (some ⟨ba, oa, none⟩), .pointer (some ⟨bb, ob, none⟩)] w fun e w' => e = .returned (.bool (cellB x y)) ∧ ∃ n, w' = w.drewN n := by
  have x3 := hx 3 (by omega)
  have x4 := hx 4 (by omega)
  have x5 := hx 5 (by omega)
  have x6 := hx 6 (by omega)
  have y3 := hy 3 (by omega)
  have y4 := hy 4 (by omega)
  have y5 := hy 5 (by omega)
  have y6 := hy 6 (by omega)
  obtain ⟨p3, q3⟩ := bx 3 (by omega) (by omega)
  obtain ⟨p4, q4⟩ := bx 4 (by omega) (by omega)
  obtain ⟨p5, q5⟩ := bx 5 (by omega) (by omega)
  obtain ⟨p6, q6⟩ := bx 6 (by omega) (by omega)
  obtain ⟨r3, s3⟩ := by' 3 (by omega) (by omega)
  obtain ⟨r4, s4⟩ := by' 4 (by omega) (by omega)
  obtain ⟨r5, s5⟩ := by' 5 (by omega) (by omega)
  obtain ⟨r6, s6⟩ := by' 6 (by omega) (by omega)
  clear hx hy bx by'
  have hE := Lib.hid (show cellB x y = (commB (x 3) (x 3 + x 5) (y 3) (y 3 + y 5) && commB (x 4) (x 4 + x 6) (y 4) (y 4 + y 6)) from rfl)
  generalize x 3 = a3 at *
  generalize x 4 = a4 at *
  generalize x 5 = a5 at *
  generalize x 6 = a6 at *
  generalize y 3 = b3 at *
  generalize y 4 = b4 at *
  generalize y 5 = b5 at *
  generalize y 6 = b6 at *
  have u1 : IntKind.i64.wrap (a3 + a5) = a3 + a5 := IntWalk.i64_in _ (by omega)
  have u2 : IntKind.i64.wrap (a4 + a6) = a4 + a6 := IntWalk.i64_in _ (by omega)
  have u3 : IntKind.i64.wrap (b3 + b5) = b3 + b5 := IntWalk.i64_in _ (by omega)
  have u4 : IntKind.i64.wrap (b4 + b6) = b4 + b6 := IntWalk.i64_in _ (by omega)
  have C2 : ∀ w : World, Calls Tryz.prog 79 #[.int .i64 a4, .int .i64 (a4 + a6), .int .i64 b4, .int .i64 (b4 + b6)] w fun e w' => e = .returned (.bool (commB a4 (a4 + a6) b4 (b4 + b6))) ∧ w' = w := fun w => haveCommon_same _ _ _ _ w
  cases h1 : commB a3 (a3 + a5) b3 (b3 + b5)
  · have C1 : ∀ w : World, Calls Tryz.prog 79 #[.int .i64 a3, .int .i64 (a3 + a5), .int .i64 b3, .int .i64 (b3 + b5)] w fun e w' => e = .returned (.bool false) ∧ w' = w := fun w => by
      rw [← h1]; exact haveCommon_same _ _ _ _ w
    have H1 := Lib.hid h1
    have D1 := Lib.hid C1
    have D2 := Lib.hid C2
    clear h1 C1 C2
    go_enter Tryz.func84, Tryz.ntmps84
    go_wp2_with fail
    go_quiet ((go_at_call 79; with_reducible exact Calls.quiet_of_same (D1.out _)))
    go_wp2_with fail
    go_ret
    exact ⟨ret_bool (by rw [hE.out, H1.out]; simp), _, rfl⟩
  · have C1 : ∀ w : World, Calls Tryz.prog 79 #[.int .i64 a3, .int .i64 (a3 + a5), .int .i64 b3, .int .i64 (b3 + b5)] w fun e w' => e = .returned (.bool true) ∧ w' = w := fun w => by
      rw [← h1]; exact haveCommon_same _ _ _ _ w
    have H1 := Lib.hid h1
    have D1 := Lib.hid C1
    have D2 := Lib.hid C2
    clear h1 C1 C2
    go_enter Tryz.func84, Tryz.ntmps84
    go_wp2_with fail
    go_quiet ((go_at_call 79; first | (with_reducible exact Calls.quiet_of_same (D1.out _)) | (with_reducible exact Calls.quiet_of_same (D2.out _))))
    go_wp2_with fail
    go_ret
    exact ⟨ret_bool (by rw [hE.out, H1.out]; simp), _, rfl⟩
end Go.Proofs.YteoahbpfhfjfmaaGreatDoor
