/- The law of division: divisors of 0, and long numbers. -/
import Derived.Test.YtpmidkhdcabieaaDoorEzI
set_option linter.unusedVariables false
set_option linter.unusedSimpArgs false
namespace Go.Proofs.YtpmidkhdcabieaaDoor
open Go.RowKit

set_option maxRecDepth 100000 in
set_option maxHeartbeats 1600000 in
theorem division_long1 (ga gb gc : Bool) (aa ab ac : Option Addr) (n m l ca cb cc : Nat) (w : World) (hT : Tab w) (hn : 16 < n) :
    Calls Tryd.prog 3 #[.agg #[.bool ga, .slice aa n ca], .agg #[.bool gb, .slice ab m cb], .agg #[.bool gc, .slice ac l cc]] w fun e w' => e = .returned (.bool true) ∧ Below w.heap.size w w' := by
  have HT := Lib.hid hT
  have d1 : decide ((16 : Int) < (n : Int)) = true := decide_eq_true (by omega)
  clear hT
  go_enter Tryd.func3, Tryd.ntmps3
  go_wp2_with fail
  refine (alive_any _ (HT.out.up (by repeat (first | exact Below.refl _ _ | exact Nat.le_refl _ | (apply Below.alloc) | (simp <;> omega))))).mono ?_
  rintro e w1 ⟨rfl, hB⟩
  obtain ⟨hcc, hff⟩ := bcell hB
  have HW := Lib.hid (Below.up (u := w) (by repeat (first | exact Below.refl _ _ | exact Nat.le_refl _ | (apply Below.alloc) | (simp <;> omega))) hB)
  have c0 : w1.cell? ⟨w.heap.size, 0, none⟩ = some (.bool ga) := by rw [hcc _ _ (by simp <;> omega)]; simp [go_sem]
  have c1 : w1.cell? ⟨w.heap.size, 1, none⟩ = some (.slice aa n ca) := by rw [hcc _ _ (by simp <;> omega)]; simp [go_sem]
  have c2 : w1.cell? ⟨w.heap.size + 1, 0, none⟩ = some (.bool gb) := by rw [hcc _ _ (by simp <;> omega)]; simp [go_sem]
  have c3 : w1.cell? ⟨w.heap.size + 1, 1, none⟩ = some (.slice ab m cb) := by rw [hcc _ _ (by simp <;> omega)]; simp [go_sem]
  have c4 : w1.cell? ⟨w.heap.size + 1 + 1, 0, none⟩ = some (.bool gc) := by rw [hcc _ _ (by simp <;> omega)]; simp [go_sem]
  have c5 : w1.cell? ⟨w.heap.size + 1 + 1, 1, none⟩ = some (.slice ac l cc) := by rw [hcc _ _ (by simp <;> omega)]; simp [go_sem]
  clear hcc hff hB
  go_wp2_with fail
  go_ret
  exact ⟨rfl, HW.out⟩

set_option maxRecDepth 100000 in
set_option maxHeartbeats 1600000 in
theorem division_long2 (ga gb gc : Bool) (aa ab ac : Option Addr) (n m l ca cb cc : Nat) (w : World) (hT : Tab w) (hn : n ≤ 16) (hm : 16 < m) :
    Calls Tryd.prog 3 #[.agg #[.bool ga, .slice aa n ca], .agg #[.bool gb, .slice ab m cb], .agg #[.bool gc, .slice ac l cc]] w fun e w' => e = .returned (.bool true) ∧ Below w.heap.size w w' := by
  have HT := Lib.hid hT
  have d1 : decide ((16 : Int) < (n : Int)) = false := decide_eq_false (by omega)
  have d2 : decide ((16 : Int) < (m : Int)) = true := decide_eq_true (by omega)
  clear hT
  go_enter Tryd.func3, Tryd.ntmps3
  go_wp2_with fail
  refine (alive_any _ (HT.out.up (by repeat (first | exact Below.refl _ _ | exact Nat.le_refl _ | (apply Below.alloc) | (simp <;> omega))))).mono ?_
  rintro e w1 ⟨rfl, hB⟩
  obtain ⟨hcc, hff⟩ := bcell hB
  have HW := Lib.hid (Below.up (u := w) (by repeat (first | exact Below.refl _ _ | exact Nat.le_refl _ | (apply Below.alloc) | (simp <;> omega))) hB)
  have c0 : w1.cell? ⟨w.heap.size, 0, none⟩ = some (.bool ga) := by rw [hcc _ _ (by simp <;> omega)]; simp [go_sem]
  have c1 : w1.cell? ⟨w.heap.size, 1, none⟩ = some (.slice aa n ca) := by rw [hcc _ _ (by simp <;> omega)]; simp [go_sem]
  have c2 : w1.cell? ⟨w.heap.size + 1, 0, none⟩ = some (.bool gb) := by rw [hcc _ _ (by simp <;> omega)]; simp [go_sem]
  have c3 : w1.cell? ⟨w.heap.size + 1, 1, none⟩ = some (.slice ab m cb) := by rw [hcc _ _ (by simp <;> omega)]; simp [go_sem]
  have c4 : w1.cell? ⟨w.heap.size + 1 + 1, 0, none⟩ = some (.bool gc) := by rw [hcc _ _ (by simp <;> omega)]; simp [go_sem]
  have c5 : w1.cell? ⟨w.heap.size + 1 + 1, 1, none⟩ = some (.slice ac l cc) := by rw [hcc _ _ (by simp <;> omega)]; simp [go_sem]
  clear hcc hff hB
  go_wp2_with fail
  go_ret
  exact ⟨rfl, HW.out⟩

set_option maxRecDepth 100000 in
set_option maxHeartbeats 1600000 in
theorem division_long3 (ga gb gc : Bool) (aa ab ac : Option Addr) (n m l ca cb cc : Nat) (w : World) (hT : Tab w) (hn : n ≤ 16) (hm : m ≤ 16) (hl : 16 < l) :
    Calls Tryd.prog 3 #[.agg #[.bool ga, .slice aa n ca], .agg #[.bool gb, .slice ab m cb], .agg #[.bool gc, .slice ac l cc]] w fun e w' => e = .returned (.bool true) ∧ Below w.heap.size w w' := by
  have HT := Lib.hid hT
  have d1 : decide ((16 : Int) < (n : Int)) = false := decide_eq_false (by omega)
  have d2 : decide ((16 : Int) < (m : Int)) = false := decide_eq_false (by omega)
  have d3 : decide ((16 : Int) < (l : Int)) = true := decide_eq_true (by omega)
  clear hT
  go_enter Tryd.func3, Tryd.ntmps3
  go_wp2_with fail
  refine (alive_any _ (HT.out.up (by repeat (first | exact Below.refl _ _ | exact Nat.le_refl _ | (apply Below.alloc) | (simp <;> omega))))).mono ?_
  rintro e w1 ⟨rfl, hB⟩
  obtain ⟨hcc, hff⟩ := bcell hB
  have HW := Lib.hid (Below.up (u := w) (by repeat (first | exact Below.refl _ _ | exact Nat.le_refl _ | (apply Below.alloc) | (simp <;> omega))) hB)
  have c0 : w1.cell? ⟨w.heap.size, 0, none⟩ = some (.bool ga) := by rw [hcc _ _ (by simp <;> omega)]; simp [go_sem]
  have c1 : w1.cell? ⟨w.heap.size, 1, none⟩ = some (.slice aa n ca) := by rw [hcc _ _ (by simp <;> omega)]; simp [go_sem]
  have c2 : w1.cell? ⟨w.heap.size + 1, 0, none⟩ = some (.bool gb) := by rw [hcc _ _ (by simp <;> omega)]; simp [go_sem]
  have c3 : w1.cell? ⟨w.heap.size + 1, 1, none⟩ = some (.slice ab m cb) := by rw [hcc _ _ (by simp <;> omega)]; simp [go_sem]
  have c4 : w1.cell? ⟨w.heap.size + 1 + 1, 0, none⟩ = some (.bool gc) := by rw [hcc _ _ (by simp <;> omega)]; simp [go_sem]
  have c5 : w1.cell? ⟨w.heap.size + 1 + 1, 1, none⟩ = some (.slice ac l cc) := by rw [hcc _ _ (by simp <;> omega)]; simp [go_sem]
  clear hcc hff hB
  go_wp2_with fail
  go_ret
  exact ⟨rfl, HW.out⟩

set_option maxRecDepth 100000 in
set_option maxHeartbeats 6400000 in
theorem division_zero (ga gb gc : Bool) (aa ab ac : Option Addr) (n m l ca cb cc : Nat) (p r : Int) (w : World) (hT : Tab w)
    (ha : AI w (.agg #[.bool ga, .slice aa n ca]) n p) (hb : AI w (.agg #[.bool gb, .slice ab m cb]) m 0) (hc : AI w (.agg #[.bool gc, .slice ac l cc]) l r) (hn : n ≤ 16) (hm : m ≤ 16) (hl : l ≤ 16) :
    Calls Tryd.prog 3 #[.agg #[.bool ga, .slice aa n ca], .agg #[.bool gb, .slice ab m cb], .agg #[.bool gc, .slice ac l cc]] w fun e w' => e = .returned (.bool true) ∧ Below w.heap.size w w' := by
  have HT := Lib.hid hT
  have d1 : decide ((16 : Int) < (n : Int)) = false := decide_eq_false (by omega)
  have d2 : decide ((16 : Int) < (m : Int)) = false := decide_eq_false (by omega)
  have d3 : decide ((16 : Int) < (l : Int)) = false := decide_eq_false (by omega)
  have Va_0 := Lib.hid (IV3a ha gb gc ab ac m l cb cc)
  have Vb_0 := Lib.hid (IV3b hb ga gc aa ac n l ca cc)
  have Vc_0 := Lib.hid (IV3c hc ga gb aa ab n m ca cb)
  clear hT ha hb hc
  go_enter Tryd.func3, Tryd.ntmps3
  go_wp2_with fail
  have HW0 := Lib.hid (show Below w.heap.size w (((w.alloc (.cells #[.bool ga, .slice aa n ca] 24)).alloc (.cells #[.bool gb, .slice ab m cb] 24)).alloc (.cells #[.bool gc, .slice ac l cc] 24)) from (by repeat (first | exact Below.refl _ _ | exact Nat.le_refl _ | (apply Below.alloc) | (refine Below.setCell ?_ (by first | exact Nat.le_refl _ | (simp <;> omega)) _) | (simp <;> omega))))
  refine calls_at (fun W => Below w.heap.size w W ∧ IV W w.heap.size ga aa n ca (p) ∧ IV W (w.heap.size + 1) gb ab m cb (0) ∧ IV W (w.heap.size + 1 + 1) gc ac l cc (r)) ⟨HW0.out, Va_0.out, Vb_0.out, Vc_0.out⟩ ?_
  rintro w0 ⟨hB, ha, hb, hc⟩
  clear HW0 Va_0 Vb_0 Vc_0
  have HW0 := Lib.hid hB
  have Va_0 := Lib.hid ha
  have Vb_0 := Lib.hid hb
  have Vc_0 := Lib.hid hc
  clear hB ha hb hc
  refine (alive_any _ (HT.out.up HW0.out)).mono ?_
  rintro e w1 ⟨rfl, hB⟩
  have Va_1 := Lib.hid (Va_0.out.below hB)
  have Vb_1 := Lib.hid (Vb_0.out.below hB)
  have Vc_1 := Lib.hid (Vc_0.out.below hB)
  have HW1 := Lib.hid (Below.up HW0.out hB)
  clear HW0 Va_0 Vb_0 Vc_0
  clear hB
  obtain ⟨oa0, oa1, oa2, _⟩ := Va_1.out
  obtain ⟨ob0, ob1, ob2, _⟩ := Vb_1.out
  obtain ⟨oc0, oc1, oc2, _⟩ := Vc_1.out
  go_wp2_with fail
  refine (Div_zero _ _ n m p _ Va_1.out.2.2.2 Vb_1.out.2.2.2 (by omega) (by omega)).mono ?_
  rintro e w2 ⟨rfl, hB⟩
  have Va_2 := Lib.hid (Va_1.out.below hB)
  have Vb_2 := Lib.hid (Vb_1.out.below hB)
  have Vc_2 := Lib.hid (Vc_1.out.below hB)
  have HW2 := Lib.hid (Below.up HW1.out hB)
  clear HW1 Va_1 Vb_1 Vc_1
  clear oa0 oa1 oa2 ob0 ob1 ob2 oc0 oc1 oc2
  clear hB
  obtain ⟨ob0, ob1, ob2, _⟩ := (Vb_2.out.below (w' := ((w2.alloc (.cells #[.bool false, .slice none 0 0] 24)).alloc (.cells #[.bool false, .slice none 0 0] 24))) (by repeat (first | exact Below.refl _ _ | exact Nat.le_refl _ | (apply Below.alloc) | (refine Below.setCell ?_ (by first | exact Nat.le_refl _ | (simp <;> omega)) _) | (simp <;> omega))))
  go_wp2_with fail
  refine calls_at (fun W => Below w.heap.size w W ∧ IV W w.heap.size ga aa n ca (p) ∧ IV W (w.heap.size + 1) gb ab m cb (0) ∧ IV W (w.heap.size + 1 + 1) gc ac l cc (r)) ⟨Below.up HW2.out (by repeat (first | exact Below.refl _ _ | exact Nat.le_refl _ | (apply Below.alloc) | (refine Below.setCell ?_ (by first | exact Nat.le_refl _ | (simp <;> omega)) _) | (simp <;> omega))), Va_2.out.below (by repeat (first | exact Below.refl _ _ | exact Nat.le_refl _ | (apply Below.alloc) | (refine Below.setCell ?_ (by first | exact Nat.le_refl _ | (simp <;> omega)) _) | (simp <;> omega))), Vb_2.out.below (by repeat (first | exact Below.refl _ _ | exact Nat.le_refl _ | (apply Below.alloc) | (refine Below.setCell ?_ (by first | exact Nat.le_refl _ | (simp <;> omega)) _) | (simp <;> omega))), Vc_2.out.below (by repeat (first | exact Below.refl _ _ | exact Nat.le_refl _ | (apply Below.alloc) | (refine Below.setCell ?_ (by first | exact Nat.le_refl _ | (simp <;> omega)) _) | (simp <;> omega)))⟩ ?_
  rintro w3 ⟨hB, ha, hb, hc⟩
  have HW3 := Lib.hid hB
  have Va_3 := Lib.hid ha
  have Vb_3 := Lib.hid hb
  have Vc_3 := Lib.hid hc
  clear hB ha hb hc HW2 Va_2 Vb_2 Vc_2
  clear ob0 ob1 ob2
  refine (sign_is _ m 0 0 _ Vb_3.out.2.2.2 (by omega) rfl).mono ?_
  rintro e w4 ⟨rfl, hB⟩
  have HW4 := Lib.hid (Below.up HW3.out hB)
  clear hB
  go_wp2_with fail
  go_ret
  exact ⟨rfl, HW4.out⟩

end Go.Proofs.YtpmidkhdcabieaaDoor
