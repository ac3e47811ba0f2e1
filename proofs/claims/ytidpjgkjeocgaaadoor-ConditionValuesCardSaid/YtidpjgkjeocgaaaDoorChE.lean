/- Layer 4: the law of values. -/
import Derived.Deep.RegionHeld3
import Derived.Deep.DrawnRows
import Derived.Test.YtidpjgkjeocgaaaDoorChD
set_option linter.unusedVariables false
set_option linter.unusedSimpArgs false
namespace Go.Proofs.YtidpjgkjeocgaaaDoor
open Go.RowKit Go.Shelf
attribute [local go_sem ↓] Go.wp_at_zero Go.wp_at_succ

set_option maxRecDepth 100000 in
set_option maxHeartbeats 3200000 in
theorem values_any (s : ByteArray) (T : Int) (ls : Nat → Ents) (u0 u1 u2 u3 u4 u5 u6 : Value) (q0 q1 q2 : Int) (w : World) (h : EnS w u0 (ls 0) ∧ EnS w u1 (ls 1) ∧ EnS w u2 (ls 2) ∧ EnS w u3 (ls 3) ∧ EnS w u4 (ls 4) ∧ EnS w u5 (ls 5) ∧ EnS w u6 (ls 6)) (hl : ∀ j, j < 7 → (ls j).length ≤ maxLen) (hT : Lib.TabIs Tryd.prog w "internal/strconv.uint64pow10" .u64 Lib.pow10Tab) (hz : Tz16 w) :
    Calls Tryd.prog 3 #[.agg #[.string s, .int .i64 T, u0, u1, u2, u3, u4, u5, u6], .agg #[.int .i64 q0, .int .i64 q1, .int .i64 q2]] w fun e w' => e = .returned (.bool true) ∧ Below w.heap.size w w' := by
  have HP : Hid (Pow w.heap.size w) := Lib.hid (Lib.tabBelow_of_tabIs hT)
  have HT : Hid (Tz w.heap.size w) := Lib.hid ⟨cell_lt hz, hz⟩
  have AW := Lib.hid (fun W (h : Below w.heap.size w W) => awake_any W (HP.out _ h) (HT.out.on h).2)
  clear hT hz
  obtain ⟨h0, h1, h2, h3, h4, h5, h6⟩ := h
  obtain ⟨a0, n0, c0, rfl⟩ := h0.form
  obtain ⟨a1, n1, c1, rfl⟩ := h1.form
  obtain ⟨a2, n2, c2, rfl⟩ := h2.form
  obtain ⟨a3, n3, c3, rfl⟩ := h3.form
  obtain ⟨a4, n4, c4, rfl⟩ := h4.form
  obtain ⟨a5, n5, c5, rfl⟩ := h5.form
  obtain ⟨a6, n6, c6, rfl⟩ := h6.form
  have HE := Lib.hid (show ∀ W, Below w.heap.size w W → (EnS W (.slice a0 n0 c0) (ls 0) ∧ EnS W (.slice a1 n1 c1) (ls 1) ∧ EnS W (.slice a2 n2 c2) (ls 2) ∧ EnS W (.slice a3 n3 c3) (ls 3) ∧ EnS W (.slice a4 n4 c4) (ls 4) ∧ EnS W (.slice a5 n5 c5) (ls 5) ∧ EnS W (.slice a6 n6 c6) (ls 6)) from fun W k => ⟨h0.below k, h1.below k, h2.below k, h3.below k, h4.below k, h5.below k, h6.below k⟩)
  have GR := Lib.hid (fun W (k : Below w.heap.size w W) => Great_any s T ls _ _ _ _ _ _ _ W (HE.out W k))
  have VA := Lib.hid (fun W (k : Below w.heap.size w W) => Value_any s T ls _ _ _ _ _ _ _ q0 q1 q2 W (HE.out W k) hl)
  have VR := Lib.hid (fun W (k : Below w.heap.size w W) => refValue_any s T ls _ _ _ _ _ _ _ q0 q1 q2 W (HE.out W k) hl)
  generalize valS ls q0 q1 q2 = vv at *
  have b0 : Below w.heap.size w (w.alloc (.cells #[.string s, .int .i64 T, .slice a0 n0 c0, .slice a1 n1 c1, .slice a2 n2 c2, .slice a3 n3 c3, .slice a4 n4 c4, .slice a5 n5 c5, .slice a6 n6 c6] 25)) := (Below.refl _ _).alloc (Nat.le_refl _) _
  have X0 : Hid (RF (w.alloc (.cells #[.string s, .int .i64 T, .slice a0 n0 c0, .slice a1 n1 c1, .slice a2 n2 c2, .slice a3 n3 c3, .slice a4 n4 c4, .slice a5 n5 c5, .slice a6 n6 c6] 25)) w.heap.size 25 9 (fun i => ((#[.string s, .int .i64 T, .slice a0 n0 c0, .slice a1 n1 c1, .slice a2 n2 c2, .slice a3 n3 c3, .slice a4 n4 c4, .slice a5 n5 c5, .slice a6 n6 c6] : Array Value)[i]?).getD default)) := Lib.hid (RF_new w _ _ 9 _ rfl (fun i hi => by rw [Array.getElem?_eq_getElem hi]; rfl))
  have z1 : (w.alloc (.cells #[.string s, .int .i64 T, .slice a0 n0 c0, .slice a1 n1 c1, .slice a2 n2 c2, .slice a3 n3 c3, .slice a4 n4 c4, .slice a5 n5 c5, .slice a6 n6 c6] 25)).heap.size = w.heap.size + 1 := by simp
  have b1 : Below (w.alloc (.cells #[.string s, .int .i64 T, .slice a0 n0 c0, .slice a1 n1 c1, .slice a2 n2 c2, .slice a3 n3 c3, .slice a4 n4 c4, .slice a5 n5 c5, .slice a6 n6 c6] 25)).heap.size (w.alloc (.cells #[.string s, .int .i64 T, .slice a0 n0 c0, .slice a1 n1 c1, .slice a2 n2 c2, .slice a3 n3 c3, .slice a4 n4 c4, .slice a5 n5 c5, .slice a6 n6 c6] 25)) ((w.alloc (.cells #[.string s, .int .i64 T, .slice a0 n0 c0, .slice a1 n1 c1, .slice a2 n2 c2, .slice a3 n3 c3, .slice a4 n4 c4, .slice a5 n5 c5, .slice a6 n6 c6] 25)).alloc (.cells #[.int .i64 q0, .int .i64 q1, .int .i64 q2] 26)) := (Below.refl _ _).alloc (Nat.le_refl _) _
  have Y1 : Hid (RF ((w.alloc (.cells #[.string s, .int .i64 T, .slice a0 n0 c0, .slice a1 n1 c1, .slice a2 n2 c2, .slice a3 n3 c3, .slice a4 n4 c4, .slice a5 n5 c5, .slice a6 n6 c6] 25)).alloc (.cells #[.int .i64 q0, .int .i64 q1, .int .i64 q2] 26)) (w.alloc (.cells #[.string s, .int .i64 T, .slice a0 n0 c0, .slice a1 n1 c1, .slice a2 n2 c2, .slice a3 n3 c3, .slice a4 n4 c4, .slice a5 n5 c5, .slice a6 n6 c6] 25)).heap.size 26 3 (fun i => ((#[.int .i64 q0, .int .i64 q1, .int .i64 q2] : Array Value)[i]?).getD default)) := Lib.hid (RF_new (w.alloc (.cells #[.string s, .int .i64 T, .slice a0 n0 c0, .slice a1 n1 c1, .slice a2 n2 c2, .slice a3 n3 c3, .slice a4 n4 c4, .slice a5 n5 c5, .slice a6 n6 c6] 25)) _ _ 3 _ rfl (fun i hi => by rw [Array.getElem?_eq_getElem hi]; rfl))
  rw [z1] at Y1
  have X1 := Lib.hid (X0.out.below b1)
  have B1 := Lib.hid (Below.up b0 b1)
  clear b0 b1 h0 h1 h2 h3 h4 h5 h6 X0 z1 hl
  have r0 : ((w.alloc (.cells #[.string s, .int .i64 T, .slice a0 n0 c0, .slice a1 n1 c1, .slice a2 n2 c2, .slice a3 n3 c3, .slice a4 n4 c4, .slice a5 n5 c5, .slice a6 n6 c6] 25)).alloc (.cells #[.int .i64 q0, .int .i64 q1, .int .i64 q2] 26)).cell? ⟨w.heap.size, 0, none⟩ = some (.string s) := X1.out.cell (i := 0) (by omega)
  have r1 : ((w.alloc (.cells #[.string s, .int .i64 T, .slice a0 n0 c0, .slice a1 n1 c1, .slice a2 n2 c2, .slice a3 n3 c3, .slice a4 n4 c4, .slice a5 n5 c5, .slice a6 n6 c6] 25)).alloc (.cells #[.int .i64 q0, .int .i64 q1, .int .i64 q2] 26)).cell? ⟨w.heap.size, 1, none⟩ = some (.int .i64 T) := X1.out.cell (i := 1) (by omega)
  have r2 : ((w.alloc (.cells #[.string s, .int .i64 T, .slice a0 n0 c0, .slice a1 n1 c1, .slice a2 n2 c2, .slice a3 n3 c3, .slice a4 n4 c4, .slice a5 n5 c5, .slice a6 n6 c6] 25)).alloc (.cells #[.int .i64 q0, .int .i64 q1, .int .i64 q2] 26)).cell? ⟨w.heap.size, 2, none⟩ = some (.slice a0 n0 c0) := X1.out.cell (i := 2) (by omega)
  have r3 : ((w.alloc (.cells #[.string s, .int .i64 T, .slice a0 n0 c0, .slice a1 n1 c1, .slice a2 n2 c2, .slice a3 n3 c3, .slice a4 n4 c4, .slice a5 n5 c5, .slice a6 n6 c6] 25)).alloc (.cells #[.int .i64 q0, .int .i64 q1, .int .i64 q2] 26)).cell? ⟨w.heap.size, 3, none⟩ = some (.slice a1 n1 c1) := X1.out.cell (i := 3) (by omega)
  have r4 : ((w.alloc (.cells #[.string s, .int .i64 T, .slice a0 n0 c0, .slice a1 n1 c1, .slice a2 n2 c2, .slice a3 n3 c3, .slice a4 n4 c4, .slice a5 n5 c5, .slice a6 n6 c6] 25)).alloc (.cells #[.int .i64 q0, .int .i64 q1, .int .i64 q2] 26)).cell? ⟨w.heap.size, 4, none⟩ = some (.slice a2 n2 c2) := X1.out.cell (i := 4) (by omega)
  have r5 : ((w.alloc (.cells #[.string s, .int .i64 T, .slice a0 n0 c0, .slice a1 n1 c1, .slice a2 n2 c2, .slice a3 n3 c3, .slice a4 n4 c4, .slice a5 n5 c5, .slice a6 n6 c6] 25)).alloc (.cells #[.int .i64 q0, .int .i64 q1, .int .i64 q2] 26)).cell? ⟨w.heap.size, 5, none⟩ = some (.slice a3 n3 c3) := X1.out.cell (i := 5) (by omega)
  have r6 : ((w.alloc (.cells #[.string s, .int .i64 T, .slice a0 n0 c0, .slice a1 n1 c1, .slice a2 n2 c2, .slice a3 n3 c3, .slice a4 n4 c4, .slice a5 n5 c5, .slice a6 n6 c6] 25)).alloc (.cells #[.int .i64 q0, .int .i64 q1, .int .i64 q2] 26)).cell? ⟨w.heap.size, 6, none⟩ = some (.slice a4 n4 c4) := X1.out.cell (i := 6) (by omega)
  have r7 : ((w.alloc (.cells #[.string s, .int .i64 T, .slice a0 n0 c0, .slice a1 n1 c1, .slice a2 n2 c2, .slice a3 n3 c3, .slice a4 n4 c4, .slice a5 n5 c5, .slice a6 n6 c6] 25)).alloc (.cells #[.int .i64 q0, .int .i64 q1, .int .i64 q2] 26)).cell? ⟨w.heap.size, 7, none⟩ = some (.slice a5 n5 c5) := X1.out.cell (i := 7) (by omega)
  have r8 : ((w.alloc (.cells #[.string s, .int .i64 T, .slice a0 n0 c0, .slice a1 n1 c1, .slice a2 n2 c2, .slice a3 n3 c3, .slice a4 n4 c4, .slice a5 n5 c5, .slice a6 n6 c6] 25)).alloc (.cells #[.int .i64 q0, .int .i64 q1, .int .i64 q2] 26)).cell? ⟨w.heap.size, 8, none⟩ = some (.slice a6 n6 c6) := X1.out.cell (i := 8) (by omega)
  go_enter Tryd.func3, Tryd.ntmps3
  go_wp2_with fail
  clear r0 r1 r2 r3 r4 r5 r6 r7 r8
  generalize ((w.alloc (.cells #[.string s, .int .i64 T, .slice a0 n0 c0, .slice a1 n1 c1, .slice a2 n2 c2, .slice a3 n3 c3, .slice a4 n4 c4, .slice a5 n5 c5, .slice a6 n6 c6] 25)).alloc (.cells #[.int .i64 q0, .int .i64 q1, .int .i64 q2] 26)) = W1 at *
  generalize htb : w.heap.size + 1 = tb at *
  refine (GR.out _ B1.out).mono ?_
  rintro e w2 ⟨v, rfl, ⟨g, rfl⟩, b2⟩
  have B2 := Lib.hid (Below.up B1.out b2)
  have X2 := Lib.hid (X1.out.below b2)
  have Y2 := Lib.hid (Y1.out.below b2)
  clear b2 B1 X1 Y1
  cases g with
  | true =>
    go_wp2_with fail
    refine (AW.out _ B2.out).mono ?_
    rintro e w3 ⟨rfl, b3⟩
    have B3 := Lib.hid (Below.up B2.out b3)
    clear b3
    go_wp2_with fail
    go_ret
    exact ⟨rfl, B3.out⟩
  | false =>
    have r0 : w2.cell? ⟨w.heap.size, 0, none⟩ = some (.string s) := X2.out.cell (i := 0) (by omega)
    have r1 : w2.cell? ⟨w.heap.size, 1, none⟩ = some (.int .i64 T) := X2.out.cell (i := 1) (by omega)
    have r2 : w2.cell? ⟨w.heap.size, 2, none⟩ = some (.slice a0 n0 c0) := X2.out.cell (i := 2) (by omega)
    have r3 : w2.cell? ⟨w.heap.size, 3, none⟩ = some (.slice a1 n1 c1) := X2.out.cell (i := 3) (by omega)
    have r4 : w2.cell? ⟨w.heap.size, 4, none⟩ = some (.slice a2 n2 c2) := X2.out.cell (i := 4) (by omega)
    have r5 : w2.cell? ⟨w.heap.size, 5, none⟩ = some (.slice a3 n3 c3) := X2.out.cell (i := 5) (by omega)
    have r6 : w2.cell? ⟨w.heap.size, 6, none⟩ = some (.slice a4 n4 c4) := X2.out.cell (i := 6) (by omega)
    have r7 : w2.cell? ⟨w.heap.size, 7, none⟩ = some (.slice a5 n5 c5) := X2.out.cell (i := 7) (by omega)
    have r8 : w2.cell? ⟨w.heap.size, 8, none⟩ = some (.slice a6 n6 c6) := X2.out.cell (i := 8) (by omega)
    have t0 : w2.cell? ⟨tb, 0, none⟩ = some (.int .i64 q0) := Y2.out.cell (i := 0) (by omega)
    have t1 : w2.cell? ⟨tb, 1, none⟩ = some (.int .i64 q1) := Y2.out.cell (i := 1) (by omega)
    have t2 : w2.cell? ⟨tb, 2, none⟩ = some (.int .i64 q2) := Y2.out.cell (i := 2) (by omega)
    have M := Lib.hid (show ∀ w' : World, Below w2.heap.size w2 w' → (w'.cell? ⟨w.heap.size, 0, none⟩ = some (.string s) ∧ w'.cell? ⟨w.heap.size, 1, none⟩ = some (.int .i64 T) ∧ w'.cell? ⟨w.heap.size, 2, none⟩ = some (.slice a0 n0 c0) ∧ w'.cell? ⟨w.heap.size, 3, none⟩ = some (.slice a1 n1 c1) ∧ w'.cell? ⟨w.heap.size, 4, none⟩ = some (.slice a2 n2 c2) ∧ w'.cell? ⟨w.heap.size, 5, none⟩ = some (.slice a3 n3 c3) ∧ w'.cell? ⟨w.heap.size, 6, none⟩ = some (.slice a4 n4 c4) ∧ w'.cell? ⟨w.heap.size, 7, none⟩ = some (.slice a5 n5 c5) ∧ w'.cell? ⟨w.heap.size, 8, none⟩ = some (.slice a6 n6 c6) ∧ w'.cell? ⟨tb, 0, none⟩ = some (.int .i64 q0) ∧ w'.cell? ⟨tb, 1, none⟩ = some (.int .i64 q1) ∧ w'.cell? ⟨tb, 2, none⟩ = some (.int .i64 q2)) from fun w' h => ⟨bc h r0, bc h r1, bc h r2, bc h r3, bc h r4, bc h r5, bc h r6, bc h r7, bc h r8, bc h t0, bc h t1, bc h t2⟩)
    have B_ := Lib.hid (Below.refl w2.heap.size w2)
    have D_ := Lib.hid (Below.drew B_.out)
    have K2 := Lib.hid (show ∀ W, Below w2.heap.size w2 W → Below w.heap.size w W from fun W h => Below.up B2.out h)
    go_wp2_with fail
    go_region_held3 (fun w' => w'.cell? ⟨w.heap.size, 0, none⟩ = some (.string s) ∧ w'.cell? ⟨w.heap.size, 1, none⟩ = some (.int .i64 T) ∧ w'.cell? ⟨w.heap.size, 2, none⟩ = some (.slice a0 n0 c0) ∧ w'.cell? ⟨w.heap.size, 3, none⟩ = some (.slice a1 n1 c1) ∧ w'.cell? ⟨w.heap.size, 4, none⟩ = some (.slice a2 n2 c2) ∧ w'.cell? ⟨w.heap.size, 5, none⟩ = some (.slice a3 n3 c3) ∧ w'.cell? ⟨w.heap.size, 6, none⟩ = some (.slice a4 n4 c4) ∧ w'.cell? ⟨w.heap.size, 7, none⟩ = some (.slice a5 n5 c5) ∧ w'.cell? ⟨w.heap.size, 8, none⟩ = some (.slice a6 n6 c6) ∧ w'.cell? ⟨tb, 0, none⟩ = some (.int .i64 q0) ∧ w'.cell? ⟨tb, 1, none⟩ = some (.int .i64 q1) ∧ w'.cell? ⟨tb, 2, none⟩ = some (.int .i64 q2))
      (first | (with_reducible exact M.out _ B_.out) | (with_reducible exact M.out _ D_.out) | (with_reducible exact M.out _ T1.out) | (with_reducible exact M.out _ T2.out) | (with_reducible exact M.out _ T3.out))
      (first
        | (go_at_call 7; ((with_reducible refine (VA.out _ (K2.out _ D_.out)).mono ?_); rintro e w4 ⟨rfl, b4⟩; have T1 := Lib.hid (Below.up D_.out b4); clear b4))
        | (go_at_call 7; ((with_reducible refine (VA.out _ (K2.out _ T1.out)).mono ?_); rintro e w4 ⟨rfl, b4⟩; have T2 := Lib.hid (Below.up T1.out b4); clear b4))
        | (go_at_call 8; ((with_reducible refine (VR.out _ (K2.out _ D_.out)).mono ?_); rintro e w4 ⟨rfl, b4⟩; have T1 := Lib.hid (Below.up D_.out b4); clear b4))
        | (go_at_call 8; ((with_reducible refine (VR.out _ (K2.out _ T1.out)).mono ?_); rintro e w4 ⟨rfl, b4⟩; have T2 := Lib.hid (Below.up T1.out b4); clear b4))
        | (go_at_call 6; ((with_reducible refine (AW.out _ (K2.out _ T2.out)).mono ?_); rintro e w4 ⟨rfl, b4⟩; have T3 := Lib.hid (Below.up T2.out b4); clear b4)))
    all_goals
      go_wp2_with fail
      go_ret
      exact ⟨rfl, K2.out _ T3.out⟩
end Go.Proofs.YtidpjgkjeocgaaaDoor
