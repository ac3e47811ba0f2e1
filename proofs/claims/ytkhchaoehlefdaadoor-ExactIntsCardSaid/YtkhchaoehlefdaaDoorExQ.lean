/- Ratios: terms. -/
import Derived.Test.YtkhchaoehlefdaaDoorExP
import Derived.Deep.RegionHeld3
set_option linter.unusedVariables false
set_option linter.unusedSimpArgs false
namespace Go.Proofs.YtkhchaoehlefdaaDoor
open Go.RowKit

/-- A ratio as it may come in. -/
def AR (w : World) (v : Value) (n m : Nat) (p q : Int) : Prop := ∃ c0 c1 c2 c3, v = .agg #[c0, c1, c2, c3] ∧ AI w (.agg #[c0, c1]) n p ∧ AI w (.agg #[c2, c3]) m q
theorem AI.form {w : World} {v : Value} {n : Nat} {z : Int} (h : AI w v n z) : ∃ ng a cap, v = .agg #[.bool ng, .slice a n cap] := by
  obtain ⟨ng, a, cap, x, rfl, _⟩ := h
  exact ⟨ng, a, cap, rfl⟩
theorem AI.z {w : World} {v : Value} {n : Nat} {z y : Int} (h : AI w v n z) (e : z = y) : AI w v n y := e ▸ h
theorem AI.same {w w' : World} {v : Value} {n : Nat} {z : Int} (h : AI w v n z) (k : ∀ b, b < w.heap.size → w'.heap[b]? = w.heap[b]?) : AI w' v n z := by
  obtain ⟨ng, a, cap, x, h1, h2, h3, h4, h5⟩ := h
  refine ⟨ng, a, cap, x, h1, h2, h3, fun hn => ?_, h5⟩
  obtain ⟨b, off, e, hr⟩ := h4 hn
  exact ⟨b, off, e, hr.same fun _ => k b (hr.lt hn)⟩


/-- Two integers are returned. -/
def Two (w : World) (p q : Int) (n m : Nat) (e : Ending) (w' : World) : Prop :=
  ∃ r s k j, e = .returned (.tuple #[r, s]) ∧ AI w' r k p ∧ AI w' s j q ∧ k ≤ n ∧ j ≤ m ∧ Below w.heap.size w w'
theorem ai_zero (w : World) : AI w (.agg #[.bool false, .slice none 0 0]) 0 0 := ⟨false, none, 0, fun _ => 0, rfl, Nat.le_refl _, Dg_zero, fun h => absurd h (by omega), rfl⟩














set_option maxHeartbeats 1600000 in
theorem terms_pos (u : Value) (n m : Nat) (p q : Int) (w : World) (hu : AR w u n m p q) (hn : n ≤ 1000000000) (hm : m ≤ 1000000000) (hq : 0 < q) :
    Calls Tryd.prog 75 #[u] w (Two w p q n m) := by
  obtain ⟨c0, c1, c2, c3, rfl, hp, hd⟩ := hu
  obtain ⟨ng, a, cap, e⟩ := hp.form
  obtain ⟨ng2, a2, cap2, e2⟩ := hd.form
  simp only [Value.agg.injEq, Array.mk.injEq, List.cons.injEq, and_true] at e e2
  obtain ⟨rfl, rfl⟩ := e
  obtain ⟨rfl, rfl⟩ := e2
  have HP := Lib.hid hp
  have HQ := Lib.hid hd
  have HS := Lib.hid (ord_gt hq)
  clear hp hd hq
  go_enter Tryd.func75, Tryd.ntmps75
  go_wp2_with fail
  refine (Sign_any _ m q _ (HQ.out.below (by repeat (first | exact Below.refl _ _ | exact Nat.le_refl _ | (apply Below.alloc) | (simp <;> omega)))) hm).mono ?_
  rintro e w1 ⟨rfl, hB⟩
  rw [HS.out]
  obtain ⟨hcc, hff⟩ := bcell hB
  have hz := hB.size
  simp at hz
  have hBt := Lib.hid (Below.up (u := w) (by repeat (first | exact Below.refl _ _ | exact Nat.le_refl _ | (apply Below.alloc) | (simp <;> omega))) hB)
  clear hB
  have hd0 : w.heap.size < w1.heap.size := by omega
  have hd1 : w.heap.size + 1 < w1.heap.size := by omega
  have hd2 : w.heap.size + 1 + 1 < w1.heap.size := by omega
  go_wp2_with fail
  go_region
  go_wp2_with fail
  exact bodyPost_ret (v := .tuple #[.agg #[.bool ng, .slice a n cap], .agg #[.bool ng2, .slice a2 m cap2]]) (by simp [results, Tryd.results75, go_sem, hcc]) rfl
    ⟨_, _, n, m, rfl, HP.out.below (by repeat (first | exact hBt.out | apply Below.drew | (refine Below.setCell ?_ (by first | exact Nat.le_refl _ | (simp <;> omega)) _))), HQ.out.below (by repeat (first | exact hBt.out | apply Below.drew | (refine Below.setCell ?_ (by first | exact Nat.le_refl _ | (simp <;> omega)) _))), Nat.le_refl _, Nat.le_refl _, (by repeat (first | exact hBt.out | apply Below.drew | (refine Below.setCell ?_ (by first | exact Nat.le_refl _ | (simp <;> omega)) _)))⟩

set_option maxHeartbeats 1600000 in
theorem terms_neg (u : Value) (n m : Nat) (p q : Int) (w : World) (hu : AR w u n m p q) (hn : n ≤ 1000000000) (hm : m ≤ 1000000000) (hq : q < 0) :
    Calls Tryd.prog 75 #[u] w (Two w (-p) (-q) n m) := by
  obtain ⟨c0, c1, c2, c3, rfl, hp, hd⟩ := hu
  obtain ⟨ng, a, cap, e⟩ := hp.form
  obtain ⟨ng2, a2, cap2, e2⟩ := hd.form
  simp only [Value.agg.injEq, Array.mk.injEq, List.cons.injEq, and_true] at e e2
  obtain ⟨rfl, rfl⟩ := e
  obtain ⟨rfl, rfl⟩ := e2
  have HP := Lib.hid hp
  have HQ := Lib.hid hd
  have HS := Lib.hid (ord_lt hq)
  clear hp hd hq
  go_enter Tryd.func75, Tryd.ntmps75
  go_wp2_with fail
  refine (Sign_any _ m q _ (HQ.out.below (by repeat (first | exact Below.refl _ _ | exact Nat.le_refl _ | (apply Below.alloc) | (simp <;> omega)))) hm).mono ?_
  rintro e w1 ⟨rfl, hB⟩
  rw [HS.out]
  obtain ⟨hcc, hff⟩ := bcell hB
  have hz := hB.size
  simp at hz
  have hBt := Lib.hid (Below.up (u := w) (by repeat (first | exact Below.refl _ _ | exact Nat.le_refl _ | (apply Below.alloc) | (simp <;> omega))) hB)
  clear hB
  have hd0 : w.heap.size < w1.heap.size := by omega
  have hd1 : w.heap.size + 1 < w1.heap.size := by omega
  have hd2 : w.heap.size + 1 + 1 < w1.heap.size := by omega
  go_wp2_with fail
  have HA := Lib.hid (HP.out.below hBt.out)
  have HD := Lib.hid (HQ.out.below hBt.out)
  have A1 := Lib.hid (fun w1 (h : AI w1 (.agg #[.bool ng, .slice a n cap]) n p) => Neg_any (.agg #[.bool ng, .slice a n cap]) n p w1 h hn)
  have A2 := Lib.hid (fun w1 (h : AI w1 (.agg #[.bool ng2, .slice a2 m cap2]) m q) => Neg_any (.agg #[.bool ng2, .slice a2 m cap2]) m q w1 h hm)
  have g2 : w1.cell? ⟨w.heap.size, 2, none⟩ = some (.bool ng2) := by rw [hcc _ _ (by simp <;> omega)]; simp [go_sem]
  have g3 : w1.cell? ⟨w.heap.size, 3, none⟩ = some (.slice a2 m cap2) := by rw [hcc _ _ (by simp <;> omega)]; simp [go_sem]
  have ca : w1.cell? ⟨w.heap.size + 1, 0, none⟩ = some (.bool false) := by rw [hcc _ _ (by simp <;> omega)]; simp [go_sem]
  have fa : w1.frozen? ⟨w.heap.size + 1, 0, none⟩ = false := by rw [hff _ _ (by simp <;> omega)]; simp [go_sem]
  have cb : w1.cell? ⟨w.heap.size + 1, 1, none⟩ = some (.slice none 0 0) := by rw [hcc _ _ (by simp <;> omega)]; simp [go_sem]
  have fb : w1.frozen? ⟨w.heap.size + 1, 1, none⟩ = false := by rw [hff _ _ (by simp <;> omega)]; simp [go_sem]
  have cc : w1.cell? ⟨w.heap.size + 1 + 1, 0, none⟩ = some (.bool false) := by rw [hcc _ _ (by simp <;> omega)]; simp [go_sem]
  have fc : w1.frozen? ⟨w.heap.size + 1 + 1, 0, none⟩ = false := by rw [hff _ _ (by simp <;> omega)]; simp [go_sem]
  have cd : w1.cell? ⟨w.heap.size + 1 + 1, 1, none⟩ = some (.slice none 0 0) := by rw [hcc _ _ (by simp <;> omega)]; simp [go_sem]
  have fd : w1.frozen? ⟨w.heap.size + 1 + 1, 1, none⟩ = false := by rw [hff _ _ (by simp <;> omega)]; simp [go_sem]
  have HAd := Lib.hid (HA.out.below (Below.drew (Below.refl w1.heap.size w1)))
  have HCC := Lib.hid (And.intro hcc hff)
  have HZ := Lib.hid hz
  clear hz
  go_region_with (first
    | (go_at_call 8; ((with_reducible refine (A1.out _ HAd.out).mono ?_);  rintro e w2 ⟨r1, k1, rfl, hR1, hk1, hB1⟩; obtain ⟨ng3, a3, cap3, rfl⟩ := hR1.form; have HR1 := Lib.hid hR1; clear hR1; obtain ⟨hc1, hf1⟩ := bcell hB1; have g2' := (hc1 _ _ hd0).trans g2; have g3' := (hc1 _ _ hd0).trans g3; have HB1 := Lib.hid hB1; have HDd := Lib.hid (HD.out.below (Below.up (Below.drew (Below.refl _ _)) hB1)); clear hc1 hf1 hB1))
    | (go_at_call 8; ((with_reducible refine (A2.out _ HDd.out).mono ?_);  rintro e w3 ⟨r2, k2, rfl, hR2, hk2, hB2⟩; obtain ⟨ng4, a4, cap4, rfl⟩ := hR2.form; have HR2 := Lib.hid hR2; clear hR2; have HB2 := Lib.hid hB2; obtain ⟨hc2, hf2⟩ := bcell (Below.up HB1.out hB2); have Ca := (hc2 _ _ hd1).trans ca; have Fa := (hf2 _ _ hd1).trans fa; have Cb := (hc2 _ _ hd1).trans cb; have Fb := (hf2 _ _ hd1).trans fb; have Cc := (hc2 _ _ hd2).trans cc; have Fc := (hf2 _ _ hd2).trans fc; have Cd := (hc2 _ _ hd2).trans cd; have Fd := (hf2 _ _ hd2).trans fd; clear hc2 hf2 hB2)))
  all_goals
    have HB3 := Lib.hid (Below.up hBt.out (Below.up (Below.drew (Below.refl w1.heap.size w1)) (Below.up HB1.out HB2.out)))
    go_wp2_with fail
    exact bodyPost_ret (v := .tuple #[.agg #[.bool ng3, .slice a3 k1 cap3], .agg #[.bool ng4, .slice a4 k2 cap4]]) (by simp [results, Tryd.results75, go_sem, Ca, Cb, Cc, Cd]) rfl
      ⟨_, _, k1, k2, rfl, (((((HR1.out.below HB2.out).setOther (a := ⟨w.heap.size + 1, 0, none⟩) hd1 _).setOther (a := ⟨w.heap.size + 1, 1, none⟩) hd1 _).setOther (a := ⟨w.heap.size + 1 + 1, 0, none⟩) hd2 _).setOther (a := ⟨w.heap.size + 1 + 1, 1, none⟩) hd2 _).ai, (((((HR2.out.mono HB1.out.size).setOther (a := ⟨w.heap.size + 1, 0, none⟩) hd1 _).setOther (a := ⟨w.heap.size + 1, 1, none⟩) hd1 _).setOther (a := ⟨w.heap.size + 1 + 1, 0, none⟩) hd2 _).setOther (a := ⟨w.heap.size + 1 + 1, 1, none⟩) hd2 _).ai, hk1, hk2, (((((HB3.out).setCell (p := ⟨w.heap.size + 1, 0, none⟩) (Nat.le_succ _) _).setCell (p := ⟨w.heap.size + 1, 1, none⟩) (Nat.le_succ _) _).setCell (p := ⟨w.heap.size + 1 + 1, 0, none⟩) (by show w.heap.size ≤ w.heap.size + 1 + 1; omega) _).setCell (p := ⟨w.heap.size + 1 + 1, 1, none⟩) (by show w.heap.size ≤ w.heap.size + 1 + 1; omega) _)⟩

set_option maxHeartbeats 1600000 in
theorem terms_zero (u : Value) (n m : Nat) (p q : Int) (w : World) (hu : AR w u n m p q) (hn : n ≤ 1000000000) (hm : m ≤ 1000000000) (hq : q = 0) :
    Calls Tryd.prog 75 #[u] w (Two w 0 1 0 2) := by
  obtain ⟨c0, c1, c2, c3, rfl, hp, hd⟩ := hu
  obtain ⟨ng, a, cap, e⟩ := hp.form
  obtain ⟨ng2, a2, cap2, e2⟩ := hd.form
  simp only [Value.agg.injEq, Array.mk.injEq, List.cons.injEq, and_true] at e e2
  obtain ⟨rfl, rfl⟩ := e
  obtain ⟨rfl, rfl⟩ := e2
  have HP := Lib.hid hp
  have HQ := Lib.hid hd
  have HS := Lib.hid (ord_eq hq)
  clear hp hd hq
  go_enter Tryd.func75, Tryd.ntmps75
  go_wp2_with fail
  refine (Sign_any _ m q _ (HQ.out.below (by repeat (first | exact Below.refl _ _ | exact Nat.le_refl _ | (apply Below.alloc) | (simp <;> omega)))) hm).mono ?_
  rintro e w1 ⟨rfl, hB⟩
  rw [HS.out]
  obtain ⟨hcc, hff⟩ := bcell hB
  have hz := hB.size
  simp at hz
  have hBt := Lib.hid (Below.up (u := w) (by repeat (first | exact Below.refl _ _ | exact Nat.le_refl _ | (apply Below.alloc) | (simp <;> omega))) hB)
  clear hB
  have hd0 : w.heap.size < w1.heap.size := by omega
  have hd1 : w.heap.size + 1 < w1.heap.size := by omega
  have hd2 : w.heap.size + 1 + 1 < w1.heap.size := by omega
  go_wp2_with fail
  refine (Of_any 1 (by omega) _).mono ?_
  rintro e w2 ⟨r, k, rfl, hR, hk, hB⟩
  obtain ⟨ng3, a3, cap3, rfl⟩ := hR.form
  obtain ⟨hcc2, hff2⟩ := bcell hB
  have hz2 := hB.size
  have hz3 : w.heap.size + 1 + 1 < w2.heap.size := by omega
  have HR := Lib.hid hR
  have hz4 := Lib.hid hz
  have hBt := Lib.hid (Below.up hBt.out hB)
  clear hR hB
  go_wp2_with fail
  exact bodyPost_ret (v := .tuple #[.agg #[.bool false, .slice none 0 0], .agg #[.bool ng3, .slice a3 k cap3]]) (by simp [results, Tryd.results75, go_sem, hcc2, hcc, hd0, hd1, hd2]) rfl
    ⟨_, _, 0, k, rfl, ai_zero _, (((((HR.out).setOther (a := ⟨w.heap.size + 1, 0, none⟩) hd1 _).setOther (a := ⟨w.heap.size + 1, 1, none⟩) hd1 _).setOther (a := ⟨w.heap.size + 1 + 1, 0, none⟩) hd2 _).setOther (a := ⟨w.heap.size + 1 + 1, 1, none⟩) hd2 _).ai, Nat.le_refl _, hk, (((((hBt.out).setCell (p := ⟨w.heap.size + 1, 0, none⟩) (Nat.le_succ _) _).setCell (p := ⟨w.heap.size + 1, 1, none⟩) (Nat.le_succ _) _).setCell (p := ⟨w.heap.size + 1 + 1, 0, none⟩) (by show w.heap.size ≤ w.heap.size + 1 + 1; omega) _).setCell (p := ⟨w.heap.size + 1 + 1, 1, none⟩) (by show w.heap.size ≤ w.heap.size + 1 + 1; omega) _)⟩
end Go.Proofs.YtkhchaoehlefdaaDoor
