/- Layer 3: contracts: bend, position. -/
import Derived.Test.YteoahbpfhfjfmaaGreatDoorDdB
import Derived.Deep.RegionWith
import Derived.Deep.RegionHeld3
set_option linter.unusedVariables false
set_option linter.unusedSimpArgs false
namespace Go.Proofs.YteoahbpfhfjfmaaGreatDoor
open Go.RowKit

/-- Twice the double integral. -/
def bendN (n : Nat) (s : Nat → Nat → Int) (f d : Int) : Int := tot (onF f bgv s (clampD d)) n
theorem bend_any (v : Value) (n : Nat) (s : Nat → Nat → Int) (f d : Int) (w : World) (hv : Sl 4 w v n s) (hn : n ≤ 1000) (hs : ∀ i, i < n → slabB (s i 0) (s i 1) (s i 2) (s i 3) = true) :
    Calls Tryz.prog 63 #[v, .int .i64 f, .int .i64 d] w fun e w' => e = .returned (.int .i64 (bendN n s f d)) ∧ Below w.heap.size w w' := by
  have C := Lib.hid (total_bend_in v n s f d (clampD d) w hv hn hs rfl)
  obtain ⟨a, cap, rfl⟩ := hv.form
  clear hs hv
  go_enter Tryz.func63, Tryz.ntmps63
  go_wp2_with fail
  refine C.out.mono ?_
  rintro e w1 ⟨rfl, hB⟩
  have B1 := Lib.hid hB
  clear hB
  go_wp2_with fail
  go_ret
  exact ⟨rfl, B1.out⟩

set_option maxRecDepth 20000 in
set_option maxHeartbeats 800000 in
theorem position_any (v : Value) (n : Nat) (s : Nat → Nat → Int) (f d x0 x1 k y0 y1 : Int) (w : World) (hv : Sl 4 w v n s) (hn : n ≤ 1000) (hs : ∀ i, i < n → slabB (s i 0) (s i 1) (s i 2) (s i 3) = true)
    (hx0 : -1099511627776 ≤ x0 ∧ x0 ≤ 1099511627776) (hy0 : -1099511627776 ≤ y0 ∧ y0 ≤ 1099511627776) (hx1 : -1048576 ≤ x1 ∧ x1 ≤ 1048576) (hy1 : -1048576 ≤ y1 ∧ y1 ≤ 1048576) (hd : 0 ≤ d ∧ d ≤ 65536)
    (hb : -1000000000000000000 ≤ k * bendN n s f d ∧ k * bendN n s f d ≤ 1000000000000000000) :
    Calls Tryz.prog 68 #[v, .int .i64 f, .agg #[.int .i64 x0, .int .i64 x1, .int .i64 k, .int .i64 y0, .int .i64 y1], .int .i64 d] w fun e w' =>
      e = .returned (.tuple #[.int .i64 (x0 + (x1 * d + k * bendN n s f d) / 1048576), .int .i64 (y0 + y1 * d / 1048576)]) ∧ Below w.heap.size w w' := by
  have C : Hid (∀ W, Below w.heap.size w W → Calls Tryz.prog 63 #[v, .int .i64 f, .int .i64 d] W fun e w' => e = .returned (.int .i64 (bendN n s f d)) ∧ Below W.heap.size W w') :=
    Lib.hid fun W hW => bend_any v n s f d W (hv.below (by decide) hW) hn hs
  obtain ⟨a, cap, rfl⟩ := hv.form
  have m1 := mul_bd0 (a := x1) (b := d) 1048576 65536 hx1 hd
  have m2 := mul_bd0 (a := y1) (b := d) 1048576 65536 hy1 hd
  obtain ⟨m1a, m1b⟩ := m1
  obtain ⟨m2a, m2b⟩ := m2
  obtain ⟨x0a, x0b⟩ := hx0
  obtain ⟨y0a, y0b⟩ := hy0
  obtain ⟨ba, bb⟩ := hb
  obtain ⟨d0, d1⟩ := hd
  clear hs hv hx1 hy1
  generalize bendN n s f d = T at *
  go_enter Tryz.func68, Tryz.ntmps68
  go_wp2_with fail
  have V : (w.alloc (.cells #[.int .i64 x0, .int .i64 x1, .int .i64 k, .int .i64 y0, .int .i64 y1] 65)).cell? ⟨w.heap.size, 0, none⟩ = some (.int .i64 x0) ∧ (w.alloc (.cells #[.int .i64 x0, .int .i64 x1, .int .i64 k, .int .i64 y0, .int .i64 y1] 65)).cell? ⟨w.heap.size, 1, none⟩ = some (.int .i64 x1) ∧ (w.alloc (.cells #[.int .i64 x0, .int .i64 x1, .int .i64 k, .int .i64 y0, .int .i64 y1] 65)).cell? ⟨w.heap.size, 2, none⟩ = some (.int .i64 k) ∧ (w.alloc (.cells #[.int .i64 x0, .int .i64 x1, .int .i64 k, .int .i64 y0, .int .i64 y1] 65)).cell? ⟨w.heap.size, 3, none⟩ = some (.int .i64 y0) ∧ (w.alloc (.cells #[.int .i64 x0, .int .i64 x1, .int .i64 k, .int .i64 y0, .int .i64 y1] 65)).cell? ⟨w.heap.size, 4, none⟩ = some (.int .i64 y1) := by simp [go_sem]
  have HB : Hid (Below w.heap.size w (w.alloc (.cells #[.int .i64 x0, .int .i64 x1, .int .i64 k, .int .i64 y0, .int .i64 y1] 65))) := Lib.hid ((Below.refl _ _).alloc (Nat.le_refl _) _)
  generalize hW0 : (w.alloc (.cells #[.int .i64 x0, .int .i64 x1, .int .i64 k, .int .i64 y0, .int .i64 y1] 65)) = W0 at *
  clear hW0
  have M := Lib.hid (show ∀ w', Below W0.heap.size W0 w' → w'.cell? ⟨w.heap.size, 0, none⟩ = some (.int .i64 x0) ∧ w'.cell? ⟨w.heap.size, 1, none⟩ = some (.int .i64 x1) ∧ w'.cell? ⟨w.heap.size, 2, none⟩ = some (.int .i64 k) ∧ w'.cell? ⟨w.heap.size, 3, none⟩ = some (.int .i64 y0) ∧ w'.cell? ⟨w.heap.size, 4, none⟩ = some (.int .i64 y1) from fun w' h => ⟨bc h V.1, bc h V.2.1, bc h V.2.2.1, bc h V.2.2.2.1, bc h V.2.2.2.2⟩)
  obtain ⟨v0, v1, v2, v3, v4⟩ := V
  have lz0 := cell_lt v0
  have B_ := Lib.hid (Below.refl W0.heap.size W0)
  have D_ := Lib.hid (Below.drew B_.out)
  go_region_held3 (fun w' => w'.cell? ⟨w.heap.size, 0, none⟩ = some (.int .i64 x0) ∧ w'.cell? ⟨w.heap.size, 1, none⟩ = some (.int .i64 x1) ∧ w'.cell? ⟨w.heap.size, 2, none⟩ = some (.int .i64 k) ∧ w'.cell? ⟨w.heap.size, 3, none⟩ = some (.int .i64 y0) ∧ w'.cell? ⟨w.heap.size, 4, none⟩ = some (.int .i64 y1))
    (first | (with_reducible exact M.out _ B_.out) | (with_reducible exact M.out _ D_.out) | (with_reducible exact M.out _ B1.out))
    (first | ((go_at_call 63; with_reducible refine (C.out _ (by (repeat (first | (with_reducible exact HB.out) | (with_reducible refine Below.drew ?_))))).mono ?_); rintro e w1 ⟨rfl, hB⟩; have B1 := Lib.hid (Below.up (u := W0) (by (repeat (first | (with_reducible exact B_.out) | (with_reducible refine Below.drew ?_)))) hB); clear hB))
  obtain ⟨n0, n1, n2, n3, n4⟩ := M.out _ B1.out
  have lz1 := cell_lt n0
  have BF : Hid (Below w.heap.size w w1) := Lib.hid (Below.up HB.out B1.out)
  clear v0 v1 v2 v3 v4 C
  go_wp2_with fail
  go_ret2
  have e1 : IntKind.i64.wrap (x1 * d) = x1 * d := IntWalk.i64_in _ (by omega)
  have e2 : IntKind.i64.wrap (k * T) = k * T := IntWalk.i64_in _ (by omega)
  have e3 : IntKind.i64.wrap (x1 * d + k * T) = x1 * d + k * T := IntWalk.i64_in _ (by omega)
  have e4 : IntKind.i64.wrap (x0 + (x1 * d + k * T) / 1048576) = x0 + (x1 * d + k * T) / 1048576 := IntWalk.i64_in _ (by omega)
  exact ⟨by rw [e1, e2, e3, e4]; rfl, BF.out⟩
end Go.Proofs.YteoahbpfhfjfmaaGreatDoor
