/- Layer 3: rows of integers of the call's own; contracts: newChains, of. -/
import Derived.Test.YteoahbpfhfjfmaaGreatDoorDbA
import Derived.Deep.OwnRows
import Derived.BigRegion
import Derived.RangeFuncRecord
set_option linter.unusedVariables false
set_option linter.unusedSimpArgs false
namespace Go.Proofs.YteoahbpfhfjfmaaGreatDoor
open Go.RowKit

def upd (x : Nat → Int) (i : Nat) (v : Int) : Nat → Int := fun j => if j = i then v else x j
theorem upd_same (x : Nat → Int) (i : Nat) (v : Int) : upd x i v i = v := by simp [upd]
theorem upd_other {x : Nat → Int} {i j : Nat} {v : Int} (h : j ≠ i) : upd x i v j = x j := by simp [upd, h]
/-- A block of N integers. -/
def Oi (w : World) (b N : Nat) (x : Nat → Int) : Prop := ∃ C : Array Value, w.heap[b]? = some (.cells C 3 (0, 0)) ∧ C.size = N ∧ ∀ j, j < N → C[j]? = some (.int .i64 (x j))
theorem Oi.cell {w : World} {b N : Nat} {x : Nat → Int} (h : Oi w b N x) {j : Nat} (hj : j < N) : w.cell? ⟨b, j, none⟩ = some (.int .i64 (x j)) := by
  obtain ⟨C, h1, h2, h3⟩ := h
  simp [World.cell?, h1, h3 j hj]
theorem Oi.free {w : World} {b N : Nat} {x : Nat → Int} (h : Oi w b N x) (j : Nat) : w.frozen? ⟨b, j, none⟩ = false := by
  obtain ⟨C, h1, h2, h3⟩ := h
  simp [World.frozen?, h1]
theorem Oi.lt {w : World} {b N : Nat} {x : Nat → Int} (h : Oi w b N x) : b < w.heap.size := by
  obtain ⟨C, h1, _⟩ := h
  exact (Array.getElem?_eq_some_iff.1 h1).1
theorem Oi.same {w w' : World} {b N : Nat} {x : Nat → Int} (h : Oi w b N x) (e : w'.heap[b]? = w.heap[b]?) : Oi w' b N x := by
  obtain ⟨C, h1, h2, h3⟩ := h
  exact ⟨C, by rw [e, h1], h2, h3⟩
theorem Oi.set {w : World} {b N : Nat} {x : Nat → Int} (h : Oi w b N x) {j : Nat} (hj : j < N) (v : Int) : Oi (w.setCell ⟨b, j, none⟩ (.int .i64 v)) b N (upd x j v) := by
  obtain ⟨C, h1, h2, h3⟩ := h
  refine ⟨C.setIfInBounds j (.int .i64 v), ?_, by simpa using h2, ?_⟩
  · simp [World.setCell, Array.getElem?_modify, h1]
  · intro i hi
    rw [Array.getElem?_setIfInBounds]
    by_cases e : j = i
    · subst e; rw [if_pos rfl, if_pos (by omega), upd_same]
    · rw [if_neg e, h3 i hi, upd_other (by omega)]
theorem Oi.setOther {w : World} {b N : Nat} {x : Nat → Int} (h : Oi w b N x) {a : Addr} (ha : a.block ≠ b) (v : Value) : Oi (w.setCell a v) b N x :=
  h.same (Below.heap_setCell _ _ _ _ (Ne.symm ha))
theorem Oi.alloc {w : World} {b N : Nat} {x : Nat → Int} (h : Oi w b N x) (o : Obj) : Oi (w.alloc o) b N x :=
  h.same (Below.heap_alloc _ _ _ h.lt)
theorem Oi.below {w w' : World} {B b N : Nat} {x : Nat → Int} (h : Oi w b N x) (k : Below B w w') (hb : b < B) : Oi w' b N x :=
  h.same (k.block b hb)
theorem Oi.made (w : World) (n : Nat) : Oi (w.alloc (.cells (madeCells #[.int .i64 0] n) 3)) w.heap.size n (fun _ => 0) := by
  refine ⟨madeCells #[.int .i64 0] n, World.alloc_heap_new w _, by simp [madeCells], fun j hj => ?_⟩
  simp [madeCells, hj, Nat.mod_one]

theorem int_info : (Tryz.prog.info? 3).map (fun i => (i.zero, i.size, i.bytes)) = some (some (.int .i64 0), 1, 8) := by kernel_rfl

/-- What newChains makes. -/
def NewCh (w : World) (k n : Nat) (e : Ending) (w' : World) : Prop :=
  ∃ x y : Nat, e = .returned (.agg #[.slice (some ⟨x, 0, none⟩) k k, .slice (some ⟨y, 0, none⟩) n n]) ∧ w.heap.size ≤ x ∧ w.heap.size ≤ y ∧ x ≠ y ∧ Oi w' x k (fun _ => 0) ∧ Oi w' y n (fun _ => 0) ∧ Below w.heap.size w w'

set_option maxRecDepth 20000 in
theorem newChains_any (k n : Nat) (w : World) (hk : k ≤ 1000000) (hn : n ≤ 1000000) :
    Calls Tryz.prog 80 #[.int .i64 k, .int .i64 n] w (NewCh w k n) := by
  have hmk := run_make_row' (P := Tryz.prog) 96 3 (.int .i64 0) 8 Tryz.underlying96 int_info rfl .i64 .i64 k (by omega) (by omega)
  have hmn := run_make_row' (P := Tryz.prog) 96 3 (.int .i64 0) 8 Tryz.underlying96 int_info rfl .i64 .i64 n (by omega) (by omega)
  obtain ⟨ck, hck⟩ : ∃ C, madeCells #[.int .i64 0] k = C := ⟨_, rfl⟩
  obtain ⟨cn, hcn⟩ : ∃ C, madeCells #[.int .i64 0] n = C := ⟨_, rfl⟩
  rw [hck] at hmk
  rw [hcn] at hmn
  have HK := Lib.hid hck
  have HN := Lib.hid hcn
  clear hck hcn
  go_enter Tryz.func80, Tryz.ntmps80
  go_wp2_with fail
  go_region
  · go_wp2_with fail
    have A := (Oi.made (w.alloc (.cells #[.slice (some ⟨w.heap.size + 1, 0, none⟩) k k, .slice (some ⟨w.heap.size + 1 + 1, 0, none⟩) n n] 127)) k)
    rw [HK.out, World.size_alloc] at A
    have B := (Oi.made ((w.alloc (.cells #[.slice (some ⟨w.heap.size + 1, 0, none⟩) k k, .slice (some ⟨w.heap.size + 1 + 1, 0, none⟩) n n] 127)).alloc (.cells ck 3)) n)
    rw [HN.out, World.size_alloc, World.size_alloc] at B
    exact bodyPost_ret (v := .agg #[.slice (some ⟨w.heap.size + 1, 0, none⟩) k k, .slice (some ⟨w.heap.size + 1 + 1, 0, none⟩) n n]) (by simp [results, Tryz.results80, go_sem]) rfl
      ⟨w.heap.size + 1, w.heap.size + 1 + 1, rfl, by omega, by omega, by omega, (A.alloc _).same rfl, B.same rfl, by repeat (first | exact Below.refl _ _ | exact Nat.le_refl _ | (apply Below.alloc) | (apply Below.drew) | (simp <;> omega))⟩
  · go_wp2_with fail
    have A := (Oi.made (w.alloc (.cells #[.slice (some ⟨w.heap.size + 1 + 1, 0, none⟩) k k, .slice (some ⟨w.heap.size + 1, 0, none⟩) n n] 127)) n)
    rw [HN.out, World.size_alloc] at A
    have B := (Oi.made ((w.alloc (.cells #[.slice (some ⟨w.heap.size + 1 + 1, 0, none⟩) k k, .slice (some ⟨w.heap.size + 1, 0, none⟩) n n] 127)).alloc (.cells cn 3)) k)
    rw [HK.out, World.size_alloc, World.size_alloc] at B
    exact bodyPost_ret (v := .agg #[.slice (some ⟨w.heap.size + 1 + 1, 0, none⟩) k k, .slice (some ⟨w.heap.size + 1, 0, none⟩) n n]) (by simp [results, Tryz.results80, go_sem]) rfl
      ⟨w.heap.size + 1 + 1, w.heap.size + 1, rfl, by omega, by omega, by omega, B.same rfl, (A.alloc _).same rfl, by repeat (first | exact Below.refl _ _ | exact Nat.le_refl _ | (apply Below.alloc) | (apply Below.drew) | (simp <;> omega))⟩

/-- The iterator over a chain, made. -/
theorem of_any (x k y n : Nat) (c d : Nat) (κ : Int) (w : World) :
    Calls Tryz.prog 82 #[.agg #[.slice (some ⟨x, 0, none⟩) k c, .slice (some ⟨y, 0, none⟩) n d], .int .i64 κ] w fun e w' =>
      e = .returned (.func (.func 102) #[] #[.pointer (some ⟨w.heap.size, 0, none⟩), .pointer (some ⟨w.heap.size + 1, 0, none⟩)]) ∧ w' = (w.alloc (.cells #[.slice (some ⟨x, 0, none⟩) k c, .slice (some ⟨y, 0, none⟩) n d] 127)).alloc (.cells #[.int .i64 κ] 3) := by
  go_enter Tryz.func82, Tryz.ntmps82
  go_wp2_with fail
  go_ret
  exact ⟨rfl, rfl⟩

theorem cell_heap {w w' : World} {b : Nat} (e : w'.heap[b]? = w.heap[b]?) {o : Nat} {v : Value} (h : w.cell? ⟨b, o, none⟩ = some v) : w'.cell? ⟨b, o, none⟩ = some v := by
  rw [← h]; unfold World.cell?; simp only [e]
theorem frozen_heap {w w' : World} {b : Nat} (e : w'.heap[b]? = w.heap[b]?) {o : Nat} {f : Bool} (h : w.frozen? ⟨b, o, none⟩ = f) : w'.frozen? ⟨b, o, none⟩ = f := by
  rw [← h]; unfold World.frozen?; simp only [e]
/-- What add leaves: the two rows turned, all else as it was. -/
def Added (w : World) (x k y n κ i : Nat) (L B : Nat → Int) (e : Ending) (w' : World) : Prop :=
  e = .returned (.tuple #[]) ∧ Oi w' x k (upd L κ (i + 1)) ∧ Oi w' y n (upd B i (L κ)) ∧ w.heap.size ≤ w'.heap.size ∧ w'.os = w.os ∧ w'.tape = w.tape ∧ w'.output = w.output ∧ ∀ b, b < w.heap.size → b ≠ x → b ≠ y → w'.heap[b]? = w.heap[b]?

set_option maxRecDepth 20000 in
theorem add_any (x k y n κ i : Nat) (L B : Nat → Int) (w : World) (hxy : x ≠ y) (hx : Oi w x k L) (hy : Oi w y n B) (hκ : κ < k) (hi : i < n) (hk : k ≤ 1000000) (hn : n ≤ 1000000) :
    Calls Tryz.prog 85 #[.agg #[.slice (some ⟨x, 0, none⟩) k k, .slice (some ⟨y, 0, none⟩) n n], .int .i64 κ, .int .i64 i] w (Added w x k y n κ i L B) := by
  have c1 := hx.cell hκ
  have f1 := hx.free κ
  have c2 := hy.cell hi
  have f2 := hy.free i
  have l1 := hx.lt
  have l2 := hy.lt
  have HX := Lib.hid hx
  have HY := Lib.hid hy
  have i0 : (i : Int) < n := by omega
  have k0 : (κ : Int) < k := by omega
  clear hx hy
  generalize hL : L κ = v1 at c1
  generalize hB : B i = v2 at c2
  have HL := Lib.hid hL
  clear hL hB
  go_enter Tryz.func85, Tryz.ntmps85
  go_wp2_with fail
  go_region
  go_wp2_with fail
  go_end0
  rw [← HL.out]
  refine ⟨rfl, ?_, ?_, ?_, rfl, rfl, rfl, fun b hb h1 h2 => ?_⟩
  · exact (((HX.out.setOther (a := ⟨y, i, none⟩) (fun h => hxy h.symm) _).set hκ _).alloc _).same rfl
  · exact (((HY.out.set hi _).setOther (a := ⟨x, κ, none⟩) hxy _).alloc _).same rfl
  · simp
  · refine (Below.heap_alloc _ _ _ (by simpa using hb)).trans ?_
    exact (Below.heap_setCell _ _ _ _ h1).trans (Below.heap_setCell _ _ _ _ h2)
end Go.Proofs.YteoahbpfhfjfmaaGreatDoor
