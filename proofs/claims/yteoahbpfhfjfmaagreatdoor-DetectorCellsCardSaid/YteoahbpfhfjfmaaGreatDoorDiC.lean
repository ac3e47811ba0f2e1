/- Layer 3: DetectorCells. -/
import Derived.Test.YteoahbpfhfjfmaaGreatDoorDiB
import Derived.Test.YteoahbpfhfjfmaaGreatDoorDgB
set_option linter.unusedVariables false
set_option linter.unusedSimpArgs false
namespace Go.Proofs.YteoahbpfhfjfmaaGreatDoor
open Go.RowKit
attribute [local go_sem] Oper.semAt_some

def cX (e c p2 p4 : Int) : Int := if e = 0 then (2 * c + 1 - p2) * p4 else 0
theorem cen_ok {P : Bool} {p2 p3 c r : Int} (h : cenE P p2 p3 c r = 0) : P = true ∧ inB c 0 (p2 - 1) = true ∧ inB r 0 (p3 - 1) = true := by
  unfold cenE at h
  cases P <;> cases h1 : inB c 0 (p2 - 1) <;> cases h2 : inB r 0 (p3 - 1) <;> simp [h1, h2] at h ⊢
theorem Centre_any (p0 p1 p2 p3 p4 p5 p6 c r E : Int) (w : World) (hE : cenE (planeB p0 p1 p2 p3 p4 p5 p6) p2 p3 c r = E) :
    Calls Tryz.prog 20 #[.agg #[.int .i64 p0, .int .i64 p1, .int .i64 p2, .int .i64 p3, .int .i64 p4, .int .i64 p5, .int .i64 p6], .int .i64 c, .int .i64 r] w fun e w' => e = .returned (.tuple #[.int .i64 (cX E c p2 p4), .int .i64 (cX E r p3 p5), .int .i64 E]) ∧ Below w.heap.size w w' := by
  subst hE
  by_cases h : cenE (planeB p0 p1 p2 p3 p4 p5 p6) p2 p3 c r = 0
  · obtain ⟨h1, h2, h3⟩ := cen_ok h
    refine (Centre_ok p0 p1 p2 p3 p4 p5 p6 c r w h1 h2 h3).mono fun e w' ⟨a, b⟩ => ⟨?_, b⟩
    rw [a, h]; rfl
  · refine (Centre_bad p0 p1 p2 p3 p4 p5 p6 c r w h).mono fun e w' ⟨a, b⟩ => ⟨?_, b⟩
    rw [a]; unfold cX; rw [if_neg h, if_neg h]
theorem refCentre_any (p0 p1 p2 p3 p4 p5 p6 c r E : Int) (w : World) (hE : cenE (planeB p0 p1 p2 p3 p4 p5 p6) p2 p3 c r = E) :
    Calls Tryz.prog 21 #[.agg #[.int .i64 p0, .int .i64 p1, .int .i64 p2, .int .i64 p3, .int .i64 p4, .int .i64 p5, .int .i64 p6], .int .i64 c, .int .i64 r] w fun e w' => e = .returned (.tuple #[.int .i64 (cX E c p2 p4), .int .i64 (cX E r p3 p5), .int .i64 E]) ∧ Below w.heap.size w w' := by
  subst hE
  by_cases h : cenE (planeB p0 p1 p2 p3 p4 p5 p6) p2 p3 c r = 0
  · obtain ⟨h1, h2, h3⟩ := cen_ok h
    refine (refCentre_ok p0 p1 p2 p3 p4 p5 p6 c r w h1 h2 h3).mono fun e w' ⟨a, b⟩ => ⟨?_, b⟩
    rw [a, h]; rfl
  · refine (refCentre_bad p0 p1 p2 p3 p4 p5 p6 c r w h).mono fun e w' ⟨a, b⟩ => ⟨?_, b⟩
    rw [a]; unfold cX; rw [if_neg h, if_neg h]

/-- The centre of a cell lies in it. -/
theorem at_centre (c m p : Int) (h0 : 0 ≤ c) (h1 : c ≤ m - 1) (hp : 1 ≤ p) : cnB ((2 * c + 1 - m) * p) m p = true ∧ ((2 * c + 1 - m) * p + m * p) / (2 * p) = c := by
  have e1 : (2 * c + 1 - m) * p = (2 * c - m) * p + p := by grind
  have e2 : (2 * c + 2 - m) * p = (2 * c - m) * p + 2 * p := by grind
  have e := (cell_iff ((2 * c + 1 - m) * p) m p c hp).1 (by omega)
  exact ⟨(cnB_iff _ m p hp).2 (by omega), e⟩
/-- A place lies about the centre of its cell. -/
theorem centre_at (u m p : Int) (hp : 1 ≤ p) (h : cnB u m p = true) : inB ((u + m * p) / (2 * p)) 0 (m - 1) = true ∧ (2 * ((u + m * p) / (2 * p)) + 1 - m) * p - p ≤ u ∧ u < (2 * ((u + m * p) / (2 * p)) + 1 - m) * p + p := by
  have hb := (cnB_iff u m p hp).1 h
  generalize hk : (u + m * p) / (2 * p) = k at hb ⊢
  have := (cell_iff u m p k hp).2 hk
  have e1 : (2 * k + 1 - m) * p = (2 * k - m) * p + p := by grind
  have e2 : (2 * k + 2 - m) * p = (2 * k - m) * p + 2 * p := by grind
  exact ⟨inB_true.2 (by omega), by omega, by omega⟩

/-- Seven numbers in a box. -/
def B7 (W : World) (q : Nat) (p0 p1 p2 p3 p4 p5 p6 : Int) : Prop := W.cell? ⟨q, 0, none⟩ = some (.int .i64 p0) ∧ W.cell? ⟨q, 1, none⟩ = some (.int .i64 p1) ∧ W.cell? ⟨q, 2, none⟩ = some (.int .i64 p2) ∧ W.cell? ⟨q, 3, none⟩ = some (.int .i64 p3) ∧ W.cell? ⟨q, 4, none⟩ = some (.int .i64 p4) ∧ W.cell? ⟨q, 5, none⟩ = some (.int .i64 p5) ∧ W.cell? ⟨q, 6, none⟩ = some (.int .i64 p6)
theorem B7.below {W W' : World} {q : Nat} {p0 p1 p2 p3 p4 p5 p6 : Int} (h : B7 W q p0 p1 p2 p3 p4 p5 p6) (hB : Below W.heap.size W W') : B7 W' q p0 p1 p2 p3 p4 p5 p6 := ⟨bc hB h.1, bc hB h.2.1, bc hB h.2.2.1, bc hB h.2.2.2.1, bc hB h.2.2.2.2.1, bc hB h.2.2.2.2.2.1, bc hB h.2.2.2.2.2.2⟩

set_option maxRecDepth 100000 in
theorem cells_any (p0 p1 p2 p3 p4 p5 p6 c r u v : Int) (w : World) (hF : FT w) (hT : Lib.TabIs Tryz.prog w "internal/strconv.uint64pow10" .u64 Lib.pow10Tab) (hm : ML w) : Calls Tryz.prog 5 #[.agg #[.int .i64 p0, .int .i64 p1, .int .i64 p2, .int .i64 p3, .int .i64 p4, .int .i64 p5, .int .i64 p6], .agg #[.int .i64 c, .int .i64 r, .int .i64 u, .int .i64 v]] w fun e w' => e = .returned (.bool true) ∧ Below w.heap.size w w' := by
  have AW : ∀ W : World, Below w.heap.size w W → Hid (Calls Tryz.prog 10 #[] W fun e w' => e = .returned (.bool true) ∧ Below W.heap.size W w') := fun W h => Lib.hid (awake_any W (hF.below h) (Lib.tabBelow_of_tabIs hT W h) (hm.below h))
  clear hF hT hm
  obtain ⟨E, hE⟩ : ∃ E, cenE (planeB p0 p1 p2 p3 p4 p5 p6) p2 p3 c r = E := ⟨_, rfl⟩
  obtain ⟨x1, hx1⟩ : ∃ z, cX E c p2 p4 = z := ⟨_, rfl⟩
  obtain ⟨y1, hy1⟩ : ∃ z, cX E r p3 p5 = z := ⟨_, rfl⟩
  obtain ⟨a1, ha1⟩ : ∃ z, atX (planeB p0 p1 p2 p3 p4 p5 p6) u v p2 p3 p4 p5 = z := ⟨_, rfl⟩
  obtain ⟨a2, ha2⟩ : ∃ z, atY (planeB p0 p1 p2 p3 p4 p5 p6) u v p2 p3 p4 p5 = z := ⟨_, rfl⟩
  obtain ⟨B, hBB⟩ : ∃ z, atB (planeB p0 p1 p2 p3 p4 p5 p6) u v p2 p3 p4 p5 = z := ⟨_, rfl⟩
  have C1 : Hid (∀ W : World, Calls Tryz.prog 20 #[.agg #[.int .i64 p0, .int .i64 p1, .int .i64 p2, .int .i64 p3, .int .i64 p4, .int .i64 p5, .int .i64 p6], .int .i64 c, .int .i64 r] W fun e w' => e = .returned (.tuple #[.int .i64 x1, .int .i64 y1, .int .i64 E]) ∧ Below W.heap.size W w') := Lib.hid fun W => by have h := Centre_any p0 p1 p2 p3 p4 p5 p6 c r E W hE; rwa [hx1, hy1] at h
  have C2 : Hid (∀ W : World, Calls Tryz.prog 21 #[.agg #[.int .i64 p0, .int .i64 p1, .int .i64 p2, .int .i64 p3, .int .i64 p4, .int .i64 p5, .int .i64 p6], .int .i64 c, .int .i64 r] W fun e w' => e = .returned (.tuple #[.int .i64 x1, .int .i64 y1, .int .i64 E]) ∧ Below W.heap.size W w') := Lib.hid fun W => by have h := refCentre_any p0 p1 p2 p3 p4 p5 p6 c r E W hE; rwa [hx1, hy1] at h
  have A1 : Hid (∀ W : World, Calls Tryz.prog 22 #[.agg #[.int .i64 p0, .int .i64 p1, .int .i64 p2, .int .i64 p3, .int .i64 p4, .int .i64 p5, .int .i64 p6], .int .i64 u, .int .i64 v] W fun e w' => e = .returned (.tuple #[.int .i64 a1, .int .i64 a2, .bool B]) ∧ Below W.heap.size W w') := Lib.hid fun W => by have h := At_any p0 p1 p2 p3 p4 p5 p6 u v W; rwa [ha1, ha2, hBB] at h
  have A2 : Hid (∀ W : World, Calls Tryz.prog 23 #[.agg #[.int .i64 p0, .int .i64 p1, .int .i64 p2, .int .i64 p3, .int .i64 p4, .int .i64 p5, .int .i64 p6], .int .i64 u, .int .i64 v] W fun e w' => e = .returned (.tuple #[.int .i64 a1, .int .i64 a2, .bool B]) ∧ Below W.heap.size W w') := Lib.hid fun W => by have h := refAt_any p0 p1 p2 p3 p4 p5 p6 u v W; rwa [ha1, ha2, hBB] at h
  have AC : E = 0 → Hid (∀ W : World, Calls Tryz.prog 22 #[.agg #[.int .i64 p0, .int .i64 p1, .int .i64 p2, .int .i64 p3, .int .i64 p4, .int .i64 p5, .int .i64 p6], .int .i64 x1, .int .i64 y1] W fun e w' => e = .returned (.tuple #[.int .i64 c, .int .i64 r, .bool true]) ∧ Below W.heap.size W w') := fun h0 => Lib.hid fun W => by
    subst h0
    obtain ⟨hp, g1, g2⟩ := cen_ok hE
    obtain ⟨b0, b1, d0, d1, e0, e1, f0, f1⟩ := planeB_bounds hp
    obtain ⟨c0, c1⟩ := inB_true.1 g1
    obtain ⟨r0, r1⟩ := inB_true.1 g2
    obtain ⟨k1, k2⟩ := at_centre c p2 p4 c0 c1 e0
    obtain ⟨k3, k4⟩ := at_centre r p3 p5 r0 r1 f0
    have h := At_any p0 p1 p2 p3 p4 p5 p6 x1 y1 W
    have ex : x1 = (2 * c + 1 - p2) * p4 := hx1.symm
    have ey : y1 = (2 * r + 1 - p3) * p5 := hy1.symm
    rw [← ex] at k1 k2
    rw [← ey] at k3 k4
    have hb : atB (planeB p0 p1 p2 p3 p4 p5 p6) x1 y1 p2 p3 p4 p5 = true := by simp [atB, hp, k1, k3]
    rw [show atX (planeB p0 p1 p2 p3 p4 p5 p6) x1 y1 p2 p3 p4 p5 = c from by unfold atX; rw [if_pos hb, k2], show atY (planeB p0 p1 p2 p3 p4 p5 p6) x1 y1 p2 p3 p4 p5 = r from by unfold atY; rw [if_pos hb, k4], hb] at h
    exact h
  have CA : B = true → ∃ X Y : Int, (1 ≤ p4 ∧ p4 ≤ 4096 ∧ 1 ≤ p5 ∧ p5 ≤ 4096) ∧ (-4194304 ≤ X ∧ X ≤ 4194304 ∧ -4194304 ≤ Y ∧ Y ≤ 4194304) ∧ (X - p4 ≤ u ∧ u < X + p4 ∧ Y - p5 ≤ v ∧ v < Y + p5) ∧ Hid (∀ W : World, Calls Tryz.prog 20 #[.agg #[.int .i64 p0, .int .i64 p1, .int .i64 p2, .int .i64 p3, .int .i64 p4, .int .i64 p5, .int .i64 p6], .int .i64 a1, .int .i64 a2] W fun e w' => e = .returned (.tuple #[.int .i64 X, .int .i64 Y, .int .i64 0]) ∧ Below W.heap.size W w') := fun h0 => by
    subst h0
    have hb := hBB
    unfold atB at hb
    simp only [Bool.and_eq_true] at hb
    obtain ⟨⟨hp, k1⟩, k2⟩ := hb
    obtain ⟨b0, b1, d0, d1, e0, e1, f0, f1⟩ := planeB_bounds hp
    obtain ⟨i1, i2, i3⟩ := centre_at u p2 p4 e0 k1
    obtain ⟨j1, j2, j3⟩ := centre_at v p3 p5 f0 k2
    have ea1 : a1 = (u + p2 * p4) / (2 * p4) := by rw [← ha1]; unfold atX; rw [if_pos hBB]
    have ea2 : a2 = (v + p3 * p5) / (2 * p5) := by rw [← ha2]; unfold atY; rw [if_pos hBB]
    rw [← ea1] at i1 i2 i3
    rw [← ea2] at j1 j2 j3
    obtain ⟨c0, c1⟩ := inB_true.1 i1
    obtain ⟨r0, r1⟩ := inB_true.1 j1
    obtain ⟨m0, m1⟩ := mul_bd (a := 2 * a1 + 1 - p2) (b := p4) 1024 4096 (by omega) (by omega)
    obtain ⟨n0, n1⟩ := mul_bd (a := 2 * a2 + 1 - p3) (b := p5) 1024 4096 (by omega) (by omega)
    exact ⟨(2 * a1 + 1 - p2) * p4, (2 * a2 + 1 - p3) * p5, ⟨e0, e1, f0, f1⟩, ⟨by omega, by omega, by omega, by omega⟩, ⟨i2, i3, j2, j3⟩, Lib.hid fun W => Centre_ok p0 p1 p2 p3 p4 p5 p6 a1 a2 W hp i1 j1⟩
  clear hE hx1 hy1 ha1 ha2 hBB
  go_enter Tryz.func5, Tryz.ntmps5
  go_wp2_with fail
  go_region
  go_wp2_with fail
  have L0 : Hid (Below w.heap.size w (((w.alloc (.cells #[.int .i64 p0, .int .i64 p1, .int .i64 p2, .int .i64 p3, .int .i64 p4, .int .i64 p5, .int .i64 p6] 43)).alloc (.cells #[.int .i64 c, .int .i64 r, .int .i64 u, .int .i64 v] 44)).drew)) := Lib.hid (by repeat (first | exact Below.refl _ _ | exact Nat.le_refl _ | (apply Below.alloc) | (apply Below.drew) | (simp <;> omega)))
  have X0 : Hid (B7 (((w.alloc (.cells #[.int .i64 p0, .int .i64 p1, .int .i64 p2, .int .i64 p3, .int .i64 p4, .int .i64 p5, .int .i64 p6] 43)).alloc (.cells #[.int .i64 c, .int .i64 r, .int .i64 u, .int .i64 v] 44)).drew) w.heap.size p0 p1 p2 p3 p4 p5 p6) := Lib.hid ⟨by simp [go_sem], by simp [go_sem], by simp [go_sem], by simp [go_sem], by simp [go_sem], by simp [go_sem], by simp [go_sem]⟩
  generalize hq : w.heap.size = q at *
  generalize (((w.alloc (.cells #[.int .i64 p0, .int .i64 p1, .int .i64 p2, .int .i64 p3, .int .i64 p4, .int .i64 p5, .int .i64 p6] 43)).alloc (.cells #[.int .i64 c, .int .i64 r, .int .i64 u, .int .i64 v] 44)).drew) = W0 at *
  refine (C1.out _).mono ?_
  rintro e W1 ⟨rfl, hB⟩
  have L1 := Lib.hid (L0.out.trans (hB.mono (by have := L0.out.size; omega)))
  have X1 := Lib.hid (X0.out.below hB)
  clear hB X0 L0
  obtain ⟨z0, z1, z2, z3, z4, z5, z6⟩ := X1.out
  go_wp2_with fail
  clear z0 z1 z2 z3 z4 z5 z6
  refine (C2.out _).mono ?_
  rintro e W2 ⟨rfl, hB⟩
  have L2 := Lib.hid (L1.out.trans (hB.mono (by have := L1.out.size; omega)))
  have X2 := Lib.hid (X1.out.below hB)
  clear hB X1 L1
  obtain ⟨z0, z1, z2, z3, z4, z5, z6⟩ := X2.out
  go_wp2_with fail
  clear z0 z1 z2 z3 z4 z5 z6
  refine (A1.out _).mono ?_
  rintro e W3 ⟨rfl, hB⟩
  have L3 := Lib.hid (L2.out.trans (hB.mono (by have := L2.out.size; omega)))
  have X3 := Lib.hid (X2.out.below hB)
  clear hB X2 L2
  obtain ⟨z0, z1, z2, z3, z4, z5, z6⟩ := X3.out
  go_wp2_with fail
  clear z0 z1 z2 z3 z4 z5 z6
  refine (A2.out _).mono ?_
  rintro e W4 ⟨rfl, hB⟩
  have L4 := Lib.hid (L3.out.trans (hB.mono (by have := L3.out.size; omega)))
  have X4 := Lib.hid (X3.out.below hB)
  clear hB X3 L3
  obtain ⟨z0, z1, z2, z3, z4, z5, z6⟩ := X4.out
  by_cases h0 : E = 0
  all_goals cases hB1 : B
  all_goals go_wp2_with fail
  all_goals clear z0 z1 z2 z3 z4 z5 z6
  ·
    refine ((AC h0).out _).mono ?_
    rintro e W5 ⟨rfl, hB⟩
    have L5 := Lib.hid (L4.out.trans (hB.mono (by have := L4.out.size; omega)))
    have X5 := Lib.hid (X4.out.below hB)
    clear hB X4 L4
    obtain ⟨z0, z1, z2, z3, z4, z5, z6⟩ := X5.out
    go_wp2_with fail
    clear z0 z1 z2 z3 z4 z5 z6
    refine (AW _ L5.out).out.mono ?_
    rintro e W' ⟨rfl, hB⟩
    have LZ := L5.out.trans (hB.mono (by have := L5.out.size; omega))
    clear hB
    go_wp2_with fail
    go_ret
    exact ⟨rfl, by rw [hq]; exact LZ⟩
  ·
    refine ((AC h0).out _).mono ?_
    rintro e W5 ⟨rfl, hB⟩
    have L5 := Lib.hid (L4.out.trans (hB.mono (by have := L4.out.size; omega)))
    have X5 := Lib.hid (X4.out.below hB)
    clear hB X4 L4
    obtain ⟨z0, z1, z2, z3, z4, z5, z6⟩ := X5.out
    go_wp2_with fail
    clear z0 z1 z2 z3 z4 z5 z6
    obtain ⟨X, Y, ⟨e0, e1, f0, f1⟩, ⟨X0', X1', Y0', Y1'⟩, ⟨u0, u1, v0, v1⟩, HC⟩ := CA hB1
    refine (HC.out _).mono ?_
    rintro e W6 ⟨rfl, hB⟩
    have L6 := Lib.hid (L5.out.trans (hB.mono (by have := L5.out.size; omega)))
    have X6 := Lib.hid (X5.out.below hB)
    clear hB X5 L5
    obtain ⟨z0, z1, z2, z3, z4, z5, z6⟩ := X6.out
    go_wp2_with fail
    try any_goals (exfalso; omega)
    clear z0 z1 z2 z3 z4 z5 z6
    refine (AW _ L6.out).out.mono ?_
    rintro e W' ⟨rfl, hB⟩
    have LZ := L6.out.trans (hB.mono (by have := L6.out.size; omega))
    clear hB
    go_wp2_with fail
    go_ret
    exact ⟨rfl, by rw [hq]; exact LZ⟩
  ·
    refine (AW _ L4.out).out.mono ?_
    rintro e W' ⟨rfl, hB⟩
    have LZ := L4.out.trans (hB.mono (by have := L4.out.size; omega))
    clear hB
    go_wp2_with fail
    go_ret
    exact ⟨rfl, by rw [hq]; exact LZ⟩
  ·
    obtain ⟨X, Y, ⟨e0, e1, f0, f1⟩, ⟨X0', X1', Y0', Y1'⟩, ⟨u0, u1, v0, v1⟩, HC⟩ := CA hB1
    refine (HC.out _).mono ?_
    rintro e W5 ⟨rfl, hB⟩
    have L5 := Lib.hid (L4.out.trans (hB.mono (by have := L4.out.size; omega)))
    have X5 := Lib.hid (X4.out.below hB)
    clear hB X4 L4
    obtain ⟨z0, z1, z2, z3, z4, z5, z6⟩ := X5.out
    go_wp2_with fail
    try any_goals (exfalso; omega)
    clear z0 z1 z2 z3 z4 z5 z6
    refine (AW _ L5.out).out.mono ?_
    rintro e W' ⟨rfl, hB⟩
    have LZ := L5.out.trans (hB.mono (by have := L5.out.size; omega))
    clear hB
    go_wp2_with fail
    go_ret
    exact ⟨rfl, by rw [hq]; exact LZ⟩
end Go.Proofs.YteoahbpfhfjfmaaGreatDoor
