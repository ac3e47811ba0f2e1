/- The law of the ring: any three. -/
import Derived.Test.YtbhkalhiogjlkaaDoorExY
set_option linter.unusedVariables false
set_option linter.unusedSimpArgs false
namespace Go.Proofs.YtbhkalhiogjlkaaDoor
open Go.RowKit

set_option maxRecDepth 100000 in
set_option maxHeartbeats 1600000 in
theorem ring_long1 (ga gb gc : Bool) (aa ab ac : Option Addr) (n m l ca cb cc : Nat) (w : World) (hT : Tab w) (hn : 24 < n) :
    Calls Tryd.prog 5 #[.agg #[.bool ga, .slice aa n ca], .agg #[.bool gb, .slice ab m cb], .agg #[.bool gc, .slice ac l cc]] w fun e w' => e = .returned (.bool true) ∧ Below w.heap.size w w' := by
  have HT := Lib.hid hT
  have d1 : decide ((24 : Int) < (n : Int)) = true := decide_eq_true (by omega)
  clear hT
  go_enter Tryd.func5, Tryd.ntmps5
  go_wp2_with fail
  refine (alive_any _ (HT.out.up (by repeat (first | exact Below.refl _ _ | exact Nat.le_refl _ | (apply Below.alloc) | (simp <;> omega))))).mono ?_
  rintro e w1 ⟨rfl, hB⟩
  obtain ⟨hcc, hff⟩ := bcell hB
  have HW := Lib.hid (Below.up (u := w) (by repeat (first | exact Below.refl _ _ | exact Nat.le_refl _ | (apply Below.alloc) | (simp <;> omega))) hB)
  have c0 : w1.cell? ⟨w.heap.size, 0, none⟩ = some (.bool ga) := by rw [hcc _ _ (by simp <;> omega)]; simp [go_sem]
  have c1 : w1.cell? ⟨w.heap.size, 1, none⟩ = some (.slice aa n ca) := by rw [hcc _ _ (by simp <;> omega)]; simp [go_sem]
  have c2 : w1.cell? ⟨w.heap.size + 1, 0, none⟩ = some (.bool gb) := by rw [hcc _ _ (by simp <;> omega)]; simp [go_sem]
  have c3 : w1.cell? ⟨w.heap.size + 1, 1, none⟩ = some (.slice ab m cb) := by rw [hcc _ _ (by simp <;> omega)]; simp [go_sem]
  have c4 : w1.cell? ⟨w.heap.size + 1 + 1, 0, none⟩ = some (.bool gc) := by rw [hcc _ _ (by simp <;> omega)]; simp [go_sem]
  have c5 : w1.cell? ⟨w.heap.size + 1 + 1, 1, none⟩ = some (.slice ac l cc) := by rw [hcc _ _ (by simp <;> omega)]; simp [go_sem]
  clear hcc hff hB
  go_wp2_with fail
  go_ret
  exact ⟨rfl, HW.out⟩

set_option maxRecDepth 100000 in
set_option maxHeartbeats 1600000 in
theorem ring_long2 (ga gb gc : Bool) (aa ab ac : Option Addr) (n m l ca cb cc : Nat) (w : World) (hT : Tab w) (hn : n ≤ 24) (hm : 24 < m) :
    Calls Tryd.prog 5 #[.agg #[.bool ga, .slice aa n ca], .agg #[.bool gb, .slice ab m cb], .agg #[.bool gc, .slice ac l cc]] w fun e w' => e = .returned (.bool true) ∧ Below w.heap.size w w' := by
  have HT := Lib.hid hT
  have d1 : decide ((24 : Int) < (n : Int)) = false := decide_eq_false (by omega)
  have d2 : decide ((24 : Int) < (m : Int)) = true := decide_eq_true (by omega)
  clear hT
  go_enter Tryd.func5, Tryd.ntmps5
  go_wp2_with fail
  refine (alive_any _ (HT.out.up (by repeat (first | exact Below.refl _ _ | exact Nat.le_refl _ | (apply Below.alloc) | (simp <;> omega))))).mono ?_
  rintro e w1 ⟨rfl, hB⟩
  obtain ⟨hcc, hff⟩ := bcell hB
  have HW := Lib.hid (Below.up (u := w) (by repeat (first | exact Below.refl _ _ | exact Nat.le_refl _ | (apply Below.alloc) | (simp <;> omega))) hB)
  have c0 : w1.cell? ⟨w.heap.size, 0, none⟩ = some (.bool ga) := by rw [hcc _ _ (by simp <;> omega)]; simp [go_sem]
  have c1 : w1.cell? ⟨w.heap.size, 1, none⟩ = some (.slice aa n ca) := by rw [hcc _ _ (by simp <;> omega)]; simp [go_sem]
  have c2 : w1.cell? ⟨w.heap.size + 1, 0, none⟩ = some (.bool gb) := by rw [hcc _ _ (by simp <;> omega)]; simp [go_sem]
  have c3 : w1.cell? ⟨w.heap.size + 1, 1, none⟩ = some (.slice ab m cb) := by rw [hcc _ _ (by simp <;> omega)]; simp [go_sem]
  have c4 : w1.cell? ⟨w.heap.size + 1 + 1, 0, none⟩ = some (.bool gc) := by rw [hcc _ _ (by simp <;> omega)]; simp [go_sem]
  have c5 : w1.cell? ⟨w.heap.size + 1 + 1, 1, none⟩ = some (.slice ac l cc) := by rw [hcc _ _ (by simp <;> omega)]; simp [go_sem]
  clear hcc hff hB
  go_wp2_with fail
  go_ret
  exact ⟨rfl, HW.out⟩

set_option maxRecDepth 100000 in
set_option maxHeartbeats 1600000 in
theorem ring_long3 (ga gb gc : Bool) (aa ab ac : Option Addr) (n m l ca cb cc : Nat) (w : World) (hT : Tab w) (hn : n ≤ 24) (hm : m ≤ 24) (hl : 24 < l) :
    Calls Tryd.prog 5 #[.agg #[.bool ga, .slice aa n ca], .agg #[.bool gb, .slice ab m cb], .agg #[.bool gc, .slice ac l cc]] w fun e w' => e = .returned (.bool true) ∧ Below w.heap.size w w' := by
  have HT := Lib.hid hT
  have d1 : decide ((24 : Int) < (n : Int)) = false := decide_eq_false (by omega)
  have d2 : decide ((24 : Int) < (m : Int)) = false := decide_eq_false (by omega)
  have d3 : decide ((24 : Int) < (l : Int)) = true := decide_eq_true (by omega)
  clear hT
  go_enter Tryd.func5, Tryd.ntmps5
  go_wp2_with fail
  refine (alive_any _ (HT.out.up (by repeat (first | exact Below.refl _ _ | exact Nat.le_refl _ | (apply Below.alloc) | (simp <;> omega))))).mono ?_
  rintro e w1 ⟨rfl, hB⟩
  obtain ⟨hcc, hff⟩ := bcell hB
  have HW := Lib.hid (Below.up (u := w) (by repeat (first | exact Below.refl _ _ | exact Nat.le_refl _ | (apply Below.alloc) | (simp <;> omega))) hB)
  have c0 : w1.cell? ⟨w.heap.size, 0, none⟩ = some (.bool ga) := by rw [hcc _ _ (by simp <;> omega)]; simp [go_sem]
  have c1 : w1.cell? ⟨w.heap.size, 1, none⟩ = some (.slice aa n ca) := by rw [hcc _ _ (by simp <;> omega)]; simp [go_sem]
  have c2 : w1.cell? ⟨w.heap.size + 1, 0, none⟩ = some (.bool gb) := by rw [hcc _ _ (by simp <;> omega)]; simp [go_sem]
  have c3 : w1.cell? ⟨w.heap.size + 1, 1, none⟩ = some (.slice ab m cb) := by rw [hcc _ _ (by simp <;> omega)]; simp [go_sem]
  have c4 : w1.cell? ⟨w.heap.size + 1 + 1, 0, none⟩ = some (.bool gc) := by rw [hcc _ _ (by simp <;> omega)]; simp [go_sem]
  have c5 : w1.cell? ⟨w.heap.size + 1 + 1, 1, none⟩ = some (.slice ac l cc) := by rw [hcc _ _ (by simp <;> omega)]; simp [go_sem]
  clear hcc hff hB
  go_wp2_with fail
  go_ret
  exact ⟨rfl, HW.out⟩

theorem ring_any (u v x : Value) (n m l : Nat) (p q r : Int) (w : World) (hT : Tab w) (hu : AI w u n p) (hv : AI w v m q) (hx : AI w x l r) :
    Calls Tryd.prog 5 #[u, v, x] w fun e w' => e = .returned (.bool true) ∧ Below w.heap.size w w' := by
  obtain ⟨ga, aa, ca, rfl⟩ := hu.form
  obtain ⟨gb, ab, cb, rfl⟩ := hv.form
  obtain ⟨gc, ac, cc, rfl⟩ := hx.form
  by_cases h1 : n ≤ 24
  · by_cases h2 : m ≤ 24
    · by_cases h3 : l ≤ 24
      · exact ring_short ga gb gc aa ab ac n m l ca cb cc p q r w hT hu hv hx h1 h2 h3
      · exact ring_long3 ga gb gc aa ab ac n m l ca cb cc w hT h1 h2 (by omega)
    · exact ring_long2 ga gb gc aa ab ac n m l ca cb cc w hT h1 (by omega)
  · exact ring_long1 ga gb gc aa ab ac n m l ca cb cc w hT (by omega)
end Go.Proofs.YtbhkalhiogjlkaaDoor
