/- Layer 3: lists in memory; the first fault of a list. -/
import Derived.Test.YteoahbpfhfjfmaaGreatDoorDaB
set_option linter.unusedVariables false
set_option linter.unusedSimpArgs false
namespace Go.Proofs.YteoahbpfhfjfmaaGreatDoor
open Go.RowKit

/-- A slice of n structs of s integers each, whose numbers are p. -/
def Sl (s : Nat) (w : World) (v : Value) (n : Nat) (p : Nat → Nat → Int) : Prop :=
  ∃ a cap, v = .slice a n cap ∧ n ≤ cap ∧ (∀ i k, -9223372036854775808 ≤ p i k ∧ p i k ≤ 9223372036854775807) ∧
    (0 < n → ∃ b off, a = some ⟨b, off, none⟩ ∧ ∀ i k, i < n → k < s → w.cell? ⟨b, off + i * s + k, none⟩ = some (.int .i64 (p i k)))
theorem Sl.below {s : Nat} {w w' : World} {v : Value} {n : Nat} {p : Nat → Nat → Int} (h : Sl s w v n p) (hs : 0 < s) (hB : Below w.heap.size w w') : Sl s w' v n p := by
  obtain ⟨a, cap, rfl, hc, hp, hr⟩ := h
  refine ⟨a, cap, rfl, hc, hp, fun hn => ?_⟩
  obtain ⟨b, off, rfl, hcell⟩ := hr hn
  refine ⟨b, off, rfl, fun i k hi hk => ?_⟩
  have := hcell i k hi hk
  rw [(bcell hB).1 b _ (cell_lt this)]
  exact this
theorem Sl.form {s : Nat} {w : World} {v : Value} {n : Nat} {p : Nat → Nat → Int} (h : Sl s w v n p) : ∃ a cap, v = .slice a n cap := by
  obtain ⟨a, cap, rfl, _⟩ := h
  exact ⟨a, cap, rfl⟩

theorem old_cell {wo w1 wr : World} {B : Nat} (h1 : Below wo.heap.size wo w1) (h2 : Below B w1 wr) (hB : wo.heap.size ≤ B) {b o : Nat} {v : Value} (h : wo.cell? ⟨b, o, none⟩ = some v) : wr.cell? ⟨b, o, none⟩ = some v := by
  have hb := cell_lt h
  rw [h2.cell (p := ⟨b, o, none⟩) (by show b < B; omega), (bcell h1).1 b o hb]
  exact h

theorem bc {W W' : World} (hB : Below W.heap.size W W') {b o : Nat} {v : Value} (h : W.cell? ⟨b, o, none⟩ = some v) : W'.cell? ⟨b, o, none⟩ = some v := by
  rw [(bcell hB).1 b o (cell_lt h)]; exact h
theorem bf {W W' : World} (hB : Below W.heap.size W W') {b o : Nat} {v : Value} {f : Bool} (h : W.cell? ⟨b, o, none⟩ = some v) (hf : W.frozen? ⟨b, o, none⟩ = f) : W'.frozen? ⟨b, o, none⟩ = f := by
  rw [(bcell hB).2 b o (cell_lt h)]; exact hf

theorem bc' {w W' : World} (hB : Below w.heap.size w W') {b o : Nat} {v : Value} (h : w.cell? ⟨b, o, none⟩ = some v) : W'.cell? ⟨b, o, none⟩ = some v := bc hB h

/-- The first index from i on, of m, with a fault, and the fault. -/
def ff (f : Nat → Int) : Nat → Nat → Int × Int
  | _, 0 => (0, 0)
  | i, m + 1 => if f i = 0 then ff f (i + 1) m else (i, f i)
theorem ff_go {f : Nat → Int} {i n : Nat} (h : f i = 0) (hi : i < n) : ff f i (n - i) = ff f (i + 1) (n - (i + 1)) := by
  obtain ⟨m, hm⟩ : ∃ m, n - i = m + 1 := ⟨n - i - 1, by omega⟩
  rw [hm, show n - (i + 1) = m by omega, ff, if_pos h]
theorem ff_stop {f : Nat → Int} {i n : Nat} (h : f i ≠ 0) (hi : i < n) : ff f i (n - i) = ((i : Int), f i) := by
  obtain ⟨m, hm⟩ : ∃ m, n - i = m + 1 := ⟨n - i - 1, by omega⟩
  rw [hm, ff, if_neg h]
theorem ff_end {f : Nat → Int} {n : Nat} : ff f n (n - n) = (0, 0) := by rw [Nat.sub_self]; rfl
theorem ff_zero {f : Nat → Int} : ∀ {m i : Nat}, (ff f i m).2 = 0 → ff f i m = (0, 0) ∧ ∀ k, i ≤ k → k < i + m → f k = 0 := by
  intro m
  induction m with
  | zero => intro i _; exact ⟨rfl, fun k h1 h2 => by omega⟩
  | succ m ih =>
    intro i h
    unfold ff at h ⊢
    by_cases h0 : f i = 0
    · rw [if_pos h0] at h ⊢
      obtain ⟨e, g⟩ := ih h
      refine ⟨e, fun k h1 h2 => ?_⟩
      by_cases hk : k = i
      · rw [hk]; exact h0
      · exact g k (by omega) (by omega)
    · rw [if_neg h0] at h
      exact absurd h h0
theorem ff_congr {f g : Nat → Int} : ∀ {m i : Nat}, (∀ k, i ≤ k → k < i + m → f k = g k) → ff f i m = ff g i m := by
  intro m
  induction m with
  | zero => intro i _; rfl
  | succ m ih =>
    intro i h
    unfold ff
    rw [h i (by omega) (by omega), ih (fun k h1 h2 => h k (by omega) (by omega))]

/-- A plane's fault. -/
def plF (p : Nat → Nat → Int) (i : Nat) : Int :=
  if planeB (p i 0) (p i 1) (p i 2) (p i 3) (p i 4) (p i 5) (p i 6) = false then 4
  else if ∃ k, k < i ∧ p k 0 = p i 0 ∧ p k 1 = p i 1 then 8 else 0
/-- A slab's fault. -/
def slF (s : Nat → Nat → Int) (i : Nat) : Int :=
  if slabB (s i 0) (s i 1) (s i 2) (s i 3) = false then 4
  else if ∃ k, k < i ∧ s k 0 = s i 0 ∧ commB (s k 1) (s k 2) (s i 1) (s i 2) = true then 8 else 0
theorem ret_ff {a b : Int} {x : Int × Int} (h : x = (a, b)) : Ending.returned (.tuple #[.int .i64 a, .int .i64 b]) = .returned (.tuple #[.int .i64 x.1, .int .i64 x.2]) := by rw [h]
end Go.Proofs.YteoahbpfhfjfmaaGreatDoor
