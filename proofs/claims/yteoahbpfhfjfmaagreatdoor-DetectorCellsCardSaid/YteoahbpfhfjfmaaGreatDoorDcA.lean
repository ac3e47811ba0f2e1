/- Layer 3: the example of the laws: its name, its whole. -/
import Derived.Test.YteoahbpfhfjfmaaGreatDoorDbB
import Derived.Test.YteoahbpfhfjfmaaGreatDoorDbC
import Derived.Test.YteoahbpfhfjfmaaGreatDoorDbE
import Derived.Lib.AtoiErrMem
import Derived.LoopN
set_option linter.unusedVariables false
set_option linter.unusedSimpArgs false
namespace Go.Proofs.YteoahbpfhfjfmaaGreatDoor
open Go.RowKit

theorem in_a : inB 97 97 122 = true := by decide

set_option maxRecDepth 20000 in
theorem isName_a (w : World) : Calls Tryz.prog 77 #[.string ⟨#[97]⟩] w fun e w' => e = .returned (.bool true) ∧ Below w.heap.size w w' := by
  have ha := in_a
  obtain ⟨cap, hcap⟩ : ∃ cap, grownCap w 1 0 5 = cap := ⟨_, rfl⟩
  have hcv : (convert 9 110 (.string ⟨#[97]⟩)).run Tryz.prog w = .ok (.slice (some ⟨w.heap.size, 0, none⟩) 1 cap) (Lib.bytesWorld w 5 ⟨#[97]⟩) := hcap ▸ Lib.run_convert_string_bytes (P := Tryz.prog) w 9 110 5 ⟨#[97]⟩ Tryz.underlying9 Tryz.underlying110 Tryz.underlying5
  have c0 : (Lib.bytesWorld w 5 ⟨#[97]⟩).cell? ⟨w.heap.size, 0, none⟩ = some (.int .u8 97) := Lib.bytesWorld_cell w 5 ⟨#[97]⟩ 0 (by decide)
  have hB := Lib.hid (Lib.bytesWorld_below w 5 ⟨#[97]⟩)
  generalize Lib.bytesWorld w 5 ⟨#[97]⟩ = w1 at *
  go_enter Tryz.func77, Tryz.ntmps77
  go_wp2_with (go_at_call 99; refine (isLetter_any _ (by decide) _).mono ?_; rintro e w' ⟨rfl, rfl⟩)
  refine wp_loop_rounds 2 ?_
  rw [rounds_succ]
  go_wp2_with (go_at_call 99; refine (isLetter_any _ (by decide) _).mono ?_; rintro e w' ⟨rfl, rfl⟩)
  rw [rounds_succ]
  go_wp2_with fail
  go_ret
  exact ⟨rfl, hB.out⟩

/-- The detector of the laws' example, in memory. -/
def Ex (w : World) (b1 b2 b3 : Nat) : Prop :=
  w.cell? ⟨b1, 0, none⟩ = some (.int .i64 0) ∧ w.cell? ⟨b1, 1, none⟩ = some (.int .i64 100) ∧ w.cell? ⟨b1, 2, none⟩ = some (.int .i64 4) ∧ w.cell? ⟨b1, 3, none⟩ = some (.int .i64 2) ∧ w.cell? ⟨b1, 4, none⟩ = some (.int .i64 5) ∧ w.cell? ⟨b1, 5, none⟩ = some (.int .i64 7) ∧ w.cell? ⟨b1, 6, none⟩ = some (.int .i64 1) ∧
  w.cell? ⟨b2, 0, none⟩ = some (.int .i64 0) ∧ w.cell? ⟨b2, 1, none⟩ = some (.int .i64 10) ∧ w.cell? ⟨b2, 2, none⟩ = some (.int .i64 20) ∧ w.cell? ⟨b2, 3, none⟩ = some (.int .i64 3) ∧
  w.cell? ⟨b3, 0, none⟩ = some (.int .i64 2) ∧ w.cell? ⟨b3, 1, none⟩ = some (.int .i64 5) ∧ w.cell? ⟨b3, 2, none⟩ = some (.int .i64 0) ∧ w.cell? ⟨b3, 3, none⟩ = some (.int .i64 1) ∧ w.cell? ⟨b3, 4, none⟩ = some (.int .i64 0) ∧ w.cell? ⟨b3, 5, none⟩ = some (.int .i64 3) ∧ w.cell? ⟨b3, 6, none⟩ = some (.int .i64 2) ∧ w.cell? ⟨b3, 7, none⟩ = some (.int .i64 100) ∧ w.cell? ⟨b3, 8, none⟩ = some (.int .i64 200)
abbrev exV (b1 b2 b3 : Nat) : Value := .agg #[.string ⟨#[97]⟩, .slice (some ⟨b1, 0, none⟩) 1 1, .slice (some ⟨b2, 0, none⟩) 1 1, .slice (some ⟨b3, 0, none⟩) 1 1]
theorem Ex.lt {w : World} {b1 b2 b3 : Nat} (h : Ex w b1 b2 b3) : b1 < w.heap.size ∧ b2 < w.heap.size ∧ b3 < w.heap.size := by
  obtain ⟨h1, _, _, _, _, _, _, h2, _, _, _, h3, _⟩ := h
  exact ⟨cell_lt h1, cell_lt h2, cell_lt h3⟩
theorem Ex.below {w w' : World} {b1 b2 b3 : Nat} (h : Ex w b1 b2 b3) (hB : Below w.heap.size w w') : Ex w' b1 b2 b3 := by
  obtain ⟨h1, h2, h3⟩ := h.lt
  unfold Ex at h ⊢
  simp only [(bcell hB).1 b1 _ h1, (bcell hB).1 b2 _ h2, (bcell hB).1 b3 _ h3]
  exact h
def exP : Nat → Nat → Int := fun i k => if i = 0 then [0, 100, 4, 2, 5, 7, 1].getD k 0 else 0
def exF : Nat → Nat → Int := fun i k => if i = 0 then [0, 10, 20, 3].getD k 0 else 0
def exC : Nat → Nat → Int := fun i k => if i = 0 then [2, 5, 0, 1, 0, 3, 2, 100, 200].getD k 0 else 0
theorem exP_bd (i k : Nat) : -9223372036854775808 ≤ exP i k ∧ exP i k ≤ 9223372036854775807 := by
  unfold exP
  split
  · match k with
    | 0 | 1 | 2 | 3 | 4 | 5 | 6 => decide
    | k + 7 => simp
  · decide
theorem exF_bd (i k : Nat) : -9223372036854775808 ≤ exF i k ∧ exF i k ≤ 9223372036854775807 := by
  unfold exF
  split
  · match k with
    | 0 | 1 | 2 | 3 => decide
    | k + 4 => simp
  · decide
theorem exC_bd (i k : Nat) : -9223372036854775808 ≤ exC i k ∧ exC i k ≤ 9223372036854775807 := by
  unfold exC
  split
  · match k with
    | 0 | 1 | 2 | 3 | 4 | 5 | 6 | 7 | 8 => decide
    | k + 9 => simp
  · decide
theorem Ex.planes {w : World} {b1 b2 b3 : Nat} (h : Ex w b1 b2 b3) : Sl 7 w (.slice (some ⟨b1, 0, none⟩) 1 1) 1 exP := by
  obtain ⟨h0, h1, h2, h3, h4, h5, h6, _⟩ := h
  refine ⟨_, _, rfl, Nat.le_refl _, exP_bd, fun _ => ⟨b1, 0, rfl, fun i k hi hk => ?_⟩⟩
  obtain rfl : i = 0 := by omega
  match k, hk with
  | 0, _ | 1, _ | 2, _ | 3, _ | 4, _ | 5, _ | 6, _ => assumption
theorem Ex.slabs {w : World} {b1 b2 b3 : Nat} (h : Ex w b1 b2 b3) : Sl 4 w (.slice (some ⟨b2, 0, none⟩) 1 1) 1 exF := by
  obtain ⟨_, _, _, _, _, _, _, h0, h1, h2, h3, _⟩ := h
  refine ⟨_, _, rfl, Nat.le_refl _, exF_bd, fun _ => ⟨b2, 0, rfl, fun i k hi hk => ?_⟩⟩
  obtain rfl : i = 0 := by omega
  match k, hk with
  | 0, _ | 1, _ | 2, _ | 3, _ => assumption
theorem exP_ok (i : Nat) (hi : i < 1) : 0 ≤ exP i 2 ∧ exP i 2 ≤ 1024 ∧ 0 ≤ exP i 3 ∧ exP i 3 ≤ 1024 := by
  have h : i = 0 := by omega
  subst h
  decide
theorem exPl : ff (plF exP) 0 1 = (0, 0) := by
  have e : plF exP 0 = 0 := by
    unfold plF
    rw [if_neg (by decide), if_neg (fun ⟨k, hk, _⟩ => absurd hk (by omega))]
  unfold ff
  rw [if_pos e]; rfl
theorem exSl : ff (slF exF) 0 1 = (0, 0) := by
  have e : slF exF 0 = 0 := by
    unfold slF
    rw [if_neg (by decide), if_neg (fun ⟨k, hk, _⟩ => absurd hk (by omega))]
  unfold ff
  rw [if_pos e]; rfl
theorem exCa : cabE 1 exP (exC 0) = 0 := by decide
theorem checkPlanes_ex (b1 b2 b3 : Nat) (w : World) (h : Ex w b1 b2 b3) : Calls Tryz.prog 40 #[.slice (some ⟨b1, 0, none⟩) 1 1] w fun e w' => e = .returned (.tuple #[.int .i64 0, .int .i64 0]) ∧ Below w.heap.size w w' := by
  have := checkPlanes_any _ 1 exP w h.planes (by omega)
  rw [exPl] at this
  exact this
theorem checkSlabs_ex (b1 b2 b3 : Nat) (w : World) (h : Ex w b1 b2 b3) : Calls Tryz.prog 41 #[.slice (some ⟨b2, 0, none⟩) 1 1] w fun e w' => e = .returned (.tuple #[.int .i64 0, .int .i64 0]) ∧ Below w.heap.size w w' := by
  have := checkSlabs_any _ 1 exF w h.slabs (by omega)
  rw [exSl] at this
  exact this
theorem checkCable_ex (b1 b2 b3 : Nat) (w : World) (h : Ex w b1 b2 b3) : Calls Tryz.prog 81 #[.agg #[.int .i64 2, .int .i64 5, .int .i64 0, .int .i64 1, .int .i64 0, .int .i64 3, .int .i64 2, .int .i64 100, .int .i64 200], .slice (some ⟨b1, 0, none⟩) 1 1] w fun e w' => e = .returned (.int .i64 0) ∧ Below w.heap.size w w' := by
  have := checkCable_any _ 1 exP (exC 0) w h.planes (by omega) exP_ok (exC_bd 0)
  rw [exCa] at this
  exact this
theorem checkWhole_ex (b1 b2 b3 : Nat) (w : World) : Calls Tryz.prog 39 #[exV b1 b2 b3] w fun e w' => e = .returned (.int .i64 0) ∧ Below w.heap.size w w' := by
  go_enter Tryz.func39, Tryz.ntmps39
  go_wp2_with fail
  refine (isName_a _).mono ?_
  rintro e w1 ⟨rfl, hB⟩
  obtain ⟨hc, hf⟩ := bcell hB
  have B0 := Lib.hid (Below.up (u := w) (by repeat (first | exact Below.refl _ _ | exact Nat.le_refl _ | (apply Below.alloc) | (simp <;> omega))) hB)
  have hz := hB.size
  simp at hz
  have hz0 : w.heap.size < w1.heap.size := by omega
  clear hB hz
  go_wp2_with fail
  go_ret
  exact ⟨rfl, B0.out⟩
end Go.Proofs.YteoahbpfhfjfmaaGreatDoor
