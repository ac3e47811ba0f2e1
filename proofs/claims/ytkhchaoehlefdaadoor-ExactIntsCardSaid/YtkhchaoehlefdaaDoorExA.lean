/- Plain facts: numbers by words of 32 bits, as functions from places to words; rows of words in memory. -/
import Derived.WalkKit
import Derived.Lib.Hide
namespace Go.Proofs.YtkhchaoehlefdaaDoor
open Go.RowKit

/-- The power of the base. -/
def P (n : Nat) : Int := 4294967296 ^ n
theorem P_zero : P 0 = 1 := rfl
theorem P_succ (n : Nat) : P (n + 1) = 4294967296 * P n := by unfold P; rw [Int.pow_succ, Int.mul_comm]
theorem P_pos (n : Nat) : 0 < P n := Int.pow_pos (by decide)
theorem P_add (n m : Nat) : P (n + m) = P n * P m := Int.pow_add _ _ _
theorem P_mono {n m : Nat} (h : n ≤ m) : P n ≤ P m := by
  obtain ⟨k, rfl⟩ := Nat.exists_eq_add_of_le h
  rw [P_add]
  have h1 := P_pos n
  have h2 := P_pos k
  have := Int.mul_le_mul_of_nonneg_left (show 1 ≤ P k by omega) (Int.le_of_lt h1)
  omega
theorem P_lt {n m : Nat} (h : P n < P m) : n < m := by
  rcases Nat.lt_or_ge n m with g | g
  · exact g
  · have := P_mono g; omega

/-- All words are in range. -/
def Dg (x : Nat → Int) : Prop := ∀ j, 0 ≤ x j ∧ x j ≤ 4294967295
/-- The value of the first n words. -/
def V (x : Nat → Int) : Nat → Int
  | 0 => 0
  | n + 1 => V x n + x n * P n
theorem V_zero (x : Nat → Int) : V x 0 = 0 := rfl
theorem V_succ (x : Nat → Int) (n : Nat) : V x (n + 1) = V x n + x n * P n := rfl
/-- From place k on. -/
def sh (x : Nat → Int) (k : Nat) : Nat → Int := fun j => x (k + j)
theorem sh_zero (x : Nat → Int) : sh x 0 = x := by funext j; simp [sh]
theorem sh_sh (x : Nat → Int) (i k : Nat) : sh (sh x i) k = sh x (i + k) := by funext j; simp [sh, Nat.add_assoc]
/-- One word written. -/
def upd (x : Nat → Int) (i : Nat) (v : Int) : Nat → Int := fun j => if j = i then v else x j
theorem upd_same (x : Nat → Int) (i : Nat) (v : Int) : upd x i v i = v := by simp [upd]
theorem upd_other {x : Nat → Int} {i j : Nat} {v : Int} (h : j ≠ i) : upd x i v j = x j := by simp [upd, h]
theorem Dg.upd {x : Nat → Int} (h : Dg x) (i : Nat) {v : Int} (h0 : 0 ≤ v) (h1 : v ≤ 4294967295) : Dg (upd x i v) := by
  intro j
  unfold Go.Proofs.YtkhchaoehlefdaaDoor.upd
  split
  · exact ⟨h0, h1⟩
  · exact h j
theorem Dg.sh {x : Nat → Int} (h : Dg x) (k : Nat) : Dg (sh x k) := fun j => h (k + j)
theorem V_congr {x y : Nat → Int} {n : Nat} (h : ∀ j, j < n → x j = y j) : V x n = V y n := by
  induction n with
  | zero => rfl
  | succ n ih => rw [V_succ, V_succ, ih (fun j hj => h j (by omega)), h n (by omega)]
theorem V_nonneg {x : Nat → Int} (h : Dg x) (n : Nat) : 0 ≤ V x n := by
  induction n with
  | zero => exact Int.le_refl 0
  | succ n ih =>
    rw [V_succ]
    have := Int.mul_nonneg (h n).1 (Int.le_of_lt (P_pos n))
    omega
theorem V_lt {x : Nat → Int} (h : Dg x) (n : Nat) : V x n < P n := by
  induction n with
  | zero => exact Int.zero_lt_one
  | succ n ih =>
    rw [V_succ, P_succ]
    have := Int.mul_le_mul_of_nonneg_right (h n).2 (Int.le_of_lt (P_pos n))
    omega
theorem V_add (x : Nat → Int) (m n : Nat) : V x (m + n) = V x m + P m * V (sh x m) n := by
  induction n with
  | zero => simp [V_zero]
  | succ n ih =>
    rw [← Nat.add_assoc, V_succ, ih, V_succ, P_add]
    simp only [sh]
    grind
theorem V_low (x : Nat → Int) (n : Nat) : V x (n + 1) = x 0 + 4294967296 * V (sh x 1) n := by
  rw [Nat.add_comm, V_add, V_succ, V_zero, P_zero, P_succ, P_zero]; grind
theorem V_zeros {x : Nat → Int} {n : Nat} (h : ∀ j, j < n → x j = 0) : V x n = 0 := by
  induction n with
  | zero => rfl
  | succ n ih => rw [V_succ, ih (fun j hj => h j (by omega)), h n (by omega)]; simp
theorem V_top {x : Nat → Int} (h : Dg x) {n : Nat} (hn : 0 < n) (ht : x (n - 1) ≠ 0) : P (n - 1) ≤ V x n := by
  obtain ⟨m, rfl⟩ : ∃ m, n = m + 1 := ⟨n - 1, by omega⟩
  simp only [Nat.add_sub_cancel] at *
  rw [V_succ]
  have h1 := h m
  have h2 := V_nonneg h m
  have h3 := P_pos m
  have := Int.mul_le_mul_of_nonneg_right (show 1 ≤ x m by omega) (Int.le_of_lt h3)
  omega
theorem V_pos {x : Nat → Int} (h : Dg x) {n : Nat} (hn : 0 < n) (ht : x (n - 1) ≠ 0) : 0 < V x n := by
  have := V_top h hn ht
  have := P_pos (n - 1)
  omega

/-- The length without zeros behind. -/
def tl (x : Nat → Int) : Nat → Nat
  | 0 => 0
  | n + 1 => if x n = 0 then tl x n else n + 1
theorem tl_zero (x : Nat → Int) : tl x 0 = 0 := rfl
theorem tl_le (x : Nat → Int) (n : Nat) : tl x n ≤ n := by
  induction n with
  | zero => exact Nat.le_refl 0
  | succ n ih => unfold tl; split <;> omega
theorem tl_stop {x : Nat → Int} {n : Nat} (h : x n ≠ 0) : tl x (n + 1) = n + 1 := by simp [tl, h]
theorem tl_go {x : Nat → Int} {n : Nat} (h : x n = 0) : tl x (n + 1) = tl x n := by simp [tl, h]
theorem tl_top (x : Nat → Int) (n : Nat) : 0 < tl x n → x (tl x n - 1) ≠ 0 := by
  induction n with
  | zero => intro h; exact absurd h (by simp [tl])
  | succ n ih =>
    unfold tl
    split
    · exact ih
    · intro _; simpa using ‹¬ x n = 0›
theorem V_tl (x : Nat → Int) (n : Nat) : V x (tl x n) = V x n := by
  induction n with
  | zero => rfl
  | succ n ih =>
    unfold tl
    split
    · rename_i h; rw [ih, V_succ, h]; simp
    · rfl
theorem tl_self {x : Nat → Int} {n : Nat} (h : 0 < n → x (n - 1) ≠ 0) : tl x n = n := by
  cases n with
  | zero => rfl
  | succ n => exact tl_stop (by simpa using h (by omega))
/-- A number in normal form has as many words as its value asks. -/
theorem len_le {x : Nat → Int} (h : Dg x) {n k : Nat} (ht : 0 < n → x (n - 1) ≠ 0) (hv : V x n < P k) : n ≤ k := by
  rcases Nat.eq_zero_or_pos n with g | g
  · omega
  · have := V_top h g (ht g)
    have := P_lt (n := n - 1) (m := k) (by omega)
    omega
theorem V_inj {x y : Nat → Int} (hx : Dg x) (hy : Dg y) {n : Nat} (h : V x n = V y n) : ∀ j, j < n → x j = y j := by
  induction n with
  | zero => intro j hj; omega
  | succ n ih =>
    rw [V_succ, V_succ] at h
    have a1 := V_nonneg hx n
    have a2 := V_lt hx n
    have b1 := V_nonneg hy n
    have b2 := V_lt hy n
    have hp := P_pos n
    have e : x n = y n := by
      rcases Int.lt_trichotomy (x n) (y n) with g | g | g
      · have := Int.mul_le_mul_of_nonneg_right (show x n + 1 ≤ y n by omega) (Int.le_of_lt hp)
        rw [Int.add_mul] at this; omega
      · exact g
      · have := Int.mul_le_mul_of_nonneg_right (show y n + 1 ≤ x n by omega) (Int.le_of_lt hp)
        rw [Int.add_mul] at this; omega
    rw [e] at h
    have := ih (by omega)
    intro j hj
    rcases Nat.lt_or_ge j n with g | g
    · exact this j g
    · obtain rfl : j = n := by omega
      exact e

/-! ### Rows of words in memory -/
/-- n words from place off on. -/
def Row (w : World) (b off n : Nat) (x : Nat → Int) : Prop := ∀ j, j < n → w.cell? ⟨b, off + j, none⟩ = some (.int .u32 (x j))
/-- A block of N words, which may be written. -/
def Own (w : World) (b N : Nat) (x : Nat → Int) : Prop := ∃ C : Array Value, w.heap[b]? = some (.cells C 62 (0, 0)) ∧ C.size = N ∧ ∀ j, j < N → C[j]? = some (.int .u32 (x j))
/-- The words that a slice shows. -/
def Sl (w : World) (a : Option Addr) (n : Nat) (x : Nat → Int) : Prop := 0 < n → ∃ b off, a = some ⟨b, off, none⟩ ∧ Row w b off n x
/-- A slice at the head of a block that lies behind base and may be written. -/
def Fr (w : World) (base : Nat) (v : Value) (n : Nat) (x : Nat → Int) : Prop :=
  ∃ a cap, v = .slice a n cap ∧ n ≤ cap ∧ Dg x ∧ (0 < n → ∃ b N, a = some ⟨b, 0, none⟩ ∧ base ≤ b ∧ n ≤ N ∧ Own w b N x)
/-- The same, in normal form, of the value z. -/
def Nt (w : World) (base : Nat) (v : Value) (n : Nat) (z : Int) : Prop := ∃ x, Fr w base v n x ∧ V x n = z ∧ (0 < n → x (n - 1) ≠ 0)
/-- Nothing that was there has changed, but for block b. -/
structure Chg (b : Nat) (w w' : World) : Prop where
  os : w'.os = w.os
  tape : w'.tape = w.tape
  output : w'.output = w.output
  size : w.heap.size ≤ w'.heap.size
  block : ∀ k, k < w.heap.size → k ≠ b → w'.heap[k]? = w.heap[k]?

theorem Own.cell {w : World} {b N : Nat} {x : Nat → Int} (h : Own w b N x) {j : Nat} (hj : j < N) : w.cell? ⟨b, j, none⟩ = some (.int .u32 (x j)) := by
  obtain ⟨C, h1, h2, h3⟩ := h
  simp [World.cell?, h1, h3 j hj]
theorem Own.free {w : World} {b N : Nat} {x : Nat → Int} (h : Own w b N x) (j : Nat) : w.frozen? ⟨b, j, none⟩ = false := by
  obtain ⟨C, h1, h2, h3⟩ := h
  simp [World.frozen?, h1]
theorem Own.lt {w : World} {b N : Nat} {x : Nat → Int} (h : Own w b N x) : b < w.heap.size := by
  obtain ⟨C, h1, _⟩ := h
  exact (Array.getElem?_eq_some_iff.1 h1).1
theorem Own.same {w w' : World} {b N : Nat} {x : Nat → Int} (h : Own w b N x) (e : w'.heap[b]? = w.heap[b]?) : Own w' b N x := by
  obtain ⟨C, h1, h2, h3⟩ := h
  exact ⟨C, by rw [e, h1], h2, h3⟩
theorem Own.congr {w : World} {b N : Nat} {x y : Nat → Int} (h : Own w b N x) (e : ∀ j, j < N → x j = y j) : Own w b N y := by
  obtain ⟨C, h1, h2, h3⟩ := h
  exact ⟨C, h1, h2, fun j hj => by rw [h3 j hj, e j hj]⟩
theorem Own.set {w : World} {b N : Nat} {x : Nat → Int} (h : Own w b N x) {j : Nat} (hj : j < N) (v : Int) : Own (w.setCell ⟨b, j, none⟩ (.int .u32 v)) b N (upd x j v) := by
  obtain ⟨C, h1, h2, h3⟩ := h
  refine ⟨C.setIfInBounds j (.int .u32 v), ?_, by simpa using h2, ?_⟩
  · simp [World.setCell, Array.getElem?_modify, h1]
  · intro i hi
    rw [Array.getElem?_setIfInBounds]
    by_cases e : j = i
    · subst e; rw [if_pos rfl, if_pos (by omega), upd_same]
    · rw [if_neg e, h3 i hi, upd_other (by omega)]
theorem Own.row {w : World} {b N : Nat} {x : Nat → Int} (h : Own w b N x) {off n : Nat} (hn : off + n ≤ N) : Row w b off n (sh x off) :=
  fun j hj => h.cell (by omega)
theorem Own.row0 {w : World} {b N : Nat} {x : Nat → Int} (h : Own w b N x) {n : Nat} (hn : n ≤ N) : Row w b 0 n x :=
  fun j hj => by rw [Nat.zero_add]; exact h.cell (by omega)
theorem Own.setOther {w : World} {b N : Nat} {x : Nat → Int} (h : Own w b N x) {a : Addr} (ha : a.block ≠ b) (v : Value) : Own (w.setCell a v) b N x :=
  h.same (Below.heap_setCell _ _ _ _ (Ne.symm ha))
theorem Own.alloc {w : World} {b N : Nat} {x : Nat → Int} (h : Own w b N x) (o : Obj) : Own (w.alloc o) b N x :=
  h.same (Below.heap_alloc _ _ _ h.lt)
theorem Own.chg {w w' : World} {b c N : Nat} {x : Nat → Int} (h : Own w b N x) (k : Chg c w w') (hc : b ≠ c) : Own w' b N x :=
  h.same (k.block b h.lt hc)
theorem Own.below {w w' : World} {B b N : Nat} {x : Nat → Int} (h : Own w b N x) (k : Below B w w') (hb : b < B) : Own w' b N x :=
  h.same (k.block b hb)

theorem Row.lt {w : World} {b off n : Nat} {x : Nat → Int} (h : Row w b off n x) (hn : 0 < n) : b < w.heap.size := by
  have := h 0 hn
  unfold World.cell? at this
  split at this
  · rename_i hb; exact (Array.getElem?_eq_some_iff.1 hb).1
  · simp at this
theorem Row.same {w w' : World} {b off n : Nat} {x : Nat → Int} (h : Row w b off n x) (e : 0 < n → w'.heap[b]? = w.heap[b]?) : Row w' b off n x :=
  fun j hj => by rw [World.cell?_of_block (w := w) (e (by omega))]; exact h j hj
theorem Row.chg {w w' : World} {b c off n : Nat} {x : Nat → Int} (h : Row w b off n x) (k : Chg c w w') (hc : b ≠ c) : Row w' b off n x :=
  h.same fun hn => k.block b (h.lt hn) hc
theorem Row.below {w w' : World} {b off n : Nat} {x : Nat → Int} (h : Row w b off n x) (k : Below w.heap.size w w') : Row w' b off n x :=
  h.same fun hn => k.block b (h.lt hn)
theorem Row.alloc {w : World} {b off n : Nat} {x : Nat → Int} (h : Row w b off n x) (o : Obj) : Row (w.alloc o) b off n x :=
  h.same fun hn => Below.heap_alloc _ _ _ (h.lt hn)
theorem Row.setOther {w : World} {b off n : Nat} {x : Nat → Int} (h : Row w b off n x) {a : Addr} (ha : a.block ≠ b) (v : Value) : Row (w.setCell a v) b off n x :=
  h.same fun _ => Below.heap_setCell _ _ _ _ (Ne.symm ha)
theorem Row.take {w : World} {b off n m : Nat} {x : Nat → Int} (h : Row w b off n x) (hm : m ≤ n) : Row w b off m x := fun j hj => h j (by omega)
theorem Row.drop {w : World} {b off n m k : Nat} {x : Nat → Int} (h : Row w b off n x) (hm : k + m ≤ n) : Row w b (off + k) m (sh x k) :=
  fun j hj => by rw [Nat.add_assoc]; exact h (k + j) (by omega)

theorem Chg.refl (b : Nat) (w : World) : Chg b w w := ⟨rfl, rfl, rfl, Nat.le_refl _, fun _ _ _ => rfl⟩
theorem Chg.trans {b : Nat} {u v w : World} (h : Chg b u v) (k : Chg b v w) : Chg b u w :=
  ⟨k.os.trans h.os, k.tape.trans h.tape, k.output.trans h.output, Nat.le_trans h.size k.size, fun i hi hb => (k.block i (Nat.lt_of_lt_of_le hi h.size) hb).trans (h.block i hi hb)⟩
theorem Chg.setCell {b : Nat} {u w : World} (h : Chg b u w) {a : Addr} (ha : a.block = b) (v : Value) : Chg b u (w.setCell a v) :=
  h.trans ⟨rfl, rfl, rfl, by simp [World.setCell], fun k _ hb => Below.heap_setCell _ _ _ _ (by omega)⟩
theorem Chg.alloc {b : Nat} {u w : World} (h : Chg b u w) (o : Obj) : Chg b u (w.alloc o) :=
  h.trans ⟨rfl, rfl, rfl, by simp, fun k hk _ => Below.heap_alloc _ _ _ hk⟩
theorem Chg.drew {b : Nat} {u w : World} (h : Chg b u w) : Chg b u w.drew := ⟨h.os, h.tape, h.output, h.size, h.block⟩
theorem Chg.ofBelow {b : Nat} {u w : World} (h : Below u.heap.size u w) : Chg b u w := ⟨h.os, h.tape, h.output, h.size, fun k hk _ => h.block k hk⟩
/-- What was changed lay behind what is asked. -/
theorem Chg.below {b B : Nat} {u v w : World} (h : Below B u v) (k : Chg b v w) (hB : B ≤ v.heap.size) (hb : B ≤ b) : Below B u w :=
  h.trans ⟨k.os, k.tape, k.output, k.size, fun i hi => k.block i (by omega) (by omega)⟩
theorem Below.up {u v w : World} (h : Below u.heap.size u v) (k : Below v.heap.size v w) : Below u.heap.size u w := h.trans (k.mono h.size)
end Go.Proofs.YtkhchaoehlefdaaDoor
