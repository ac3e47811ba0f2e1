/- Layer 3: the laws' awake: the example's answers. -/
import Derived.Test.YteoahbpfhfjfmaaGreatDoorDgA
import Derived.Test.YteoahbpfhfjfmaaGreatDoorDsJ
import Derived.Test.YteoahbpfhfjfmaaGreatDoorDgE
import Derived.Test.YteoahbpfhfjfmaaGreatDoorDgF
import Derived.Test.YteoahbpfhfjfmaaGreatDoorDsE
import Derived.Test.YteoahbpfhfjfmaaGreatDoorDdE
import Derived.Test.YteoahbpfhfjfmaaGreatDoorDdD
import Derived.Test.YteoahbpfhfjfmaaGreatDoorDaG
import Derived.Test.YteoahbpfhfjfmaaGreatDoorDaE
import Derived.Test.YteoahbpfhfjfmaaGreatDoorDaF
set_option linter.unusedVariables false
set_option linter.unusedSimpArgs false
namespace Go.Proofs.YteoahbpfhfjfmaaGreatDoor
open Go.RowKit
attribute [local go_sem] Oper.semAt_some arEq ceEq

theorem frame_lt {w : World} (h : FT w) : 0 < w.heap.size := cell_lt (h 0 0 (by omega) (by omega))
theorem FT.below {w w' : World} (h : FT w) (hB : Below w.heap.size w w') : FT w' := fun f k hf hk => bc hB (h f k hf hk)

/-- What awake keeps: the box of the example, and the tables. -/
def AwI (w : World) (p b1 b2 b3 : Nat) (W : World) : Prop :=
  Ex W b1 b2 b3 ∧ (W.cell? ⟨p, 0, none⟩ = some (.string ⟨#[97]⟩) ∧ W.cell? ⟨p, 1, none⟩ = some (.slice (some ⟨b1, 0, none⟩) 1 1) ∧ W.cell? ⟨p, 2, none⟩ = some (.slice (some ⟨b2, 0, none⟩) 1 1) ∧ W.cell? ⟨p, 3, none⟩ = some (.slice (some ⟨b3, 0, none⟩) 1 1)) ∧
  FT W ∧ Lib.TabBelow Tryz.prog w.heap.size w "internal/strconv.uint64pow10" .u64 Lib.pow10Tab ∧ ML W ∧ Below w.heap.size w W
theorem AwI.below {w W W' : World} {p b1 b2 b3 : Nat} (h : AwI w p b1 b2 b3 W) (hB : Below W.heap.size W W') : AwI w p b1 b2 b3 W' := by
  obtain ⟨x, ⟨c0, c1, c2, c3⟩, f, t, m, k⟩ := h
  exact ⟨x.below hB, ⟨bc hB c0, bc hB c1, bc hB c2, bc hB c3⟩, f.below hB, t, m.below hB, k.trans (hB.mono k.size)⟩
/-- Three numbers in a box. -/
def B3 (W : World) (p : Nat) (x y z : Int) : Prop := W.cell? ⟨p, 0, none⟩ = some (.int .i64 x) ∧ W.cell? ⟨p, 1, none⟩ = some (.int .i64 y) ∧ W.cell? ⟨p, 2, none⟩ = some (.int .i64 z)
theorem B3.below {W W' : World} {p : Nat} {x y z : Int} (h : B3 W p x y z) (hB : Below W.heap.size W W') : B3 W' p x y z := ⟨bc hB h.1, bc hB h.2.1, bc hB h.2.2⟩

set_option maxRecDepth 100000 in
set_option maxHeartbeats 1600000 in
theorem awake_any (w : World) (hF : FT w) (hT : Lib.TabIs Tryz.prog w "internal/strconv.uint64pow10" .u64 Lib.pow10Tab) (hm : ML w) : Calls Tryz.prog 10 #[] w fun e w' => e = .returned (.bool true) ∧ Below w.heap.size w w' := by
  have HF := Lib.hid hF
  have HT := Lib.hid (Lib.tabBelow_of_tabIs hT)
  have HM := Lib.hid hm
  clear hF hT hm
  go_enter Tryz.func10, Tryz.ntmps10
  go_wp2_with fail
  refine (example_any _).mono ?_
  rintro e w1 ⟨⟨b1, b2, b3, rfl, hE⟩, hB⟩
  have A1 : Hid (AwI w w1.heap.size b1 b2 b3 (w1.alloc (.cells #[.string ⟨#[97]⟩, .slice (some ⟨b1, 0, none⟩) 1 1, .slice (some ⟨b2, 0, none⟩) 1 1, .slice (some ⟨b3, 0, none⟩) 1 1] 26))) := Lib.hid ⟨hE.below ((Below.refl _ _).alloc (Nat.le_refl _) _), ⟨by simp [go_sem], by simp [go_sem], by simp [go_sem], by simp [go_sem]⟩, (HF.out.below hB).below ((Below.refl _ _).alloc (Nat.le_refl _) _), HT.out, (HM.out.below hB).below ((Below.refl _ _).alloc (Nat.le_refl _) _), hB.alloc hB.size _⟩
  have p0 : w1.heap.size < (w1.alloc (.cells #[.string ⟨#[97]⟩, .slice (some ⟨b1, 0, none⟩) 1 1, .slice (some ⟨b2, 0, none⟩) 1 1, .slice (some ⟨b3, 0, none⟩) 1 1] 26)).heap.size := by simp
  clear hE hB HF HT HM
  go_wp2_with fail
  generalize hp : w1.heap.size = p at *
  generalize (w1.alloc (.cells #[.string ⟨#[97]⟩, .slice (some ⟨b1, 0, none⟩) 1 1, .slice (some ⟨b2, 0, none⟩) 1 1, .slice (some ⟨b3, 0, none⟩) 1 1] 26)) = W1 at *
  clear hp
  refine (Global_ok 1 10 2 3 _ A1.out.2.2.1 (by decide)).mono ?_
  rw [show glob 1 10 2 3 = .agg #[.int .i64 (-2), .int .i64 10, .int .i64 3] from by simp [glob]]
  rintro e w2 ⟨rfl, hB⟩
  have A2 : Hid (AwI w p b1 b2 b3 (w2.alloc (.cells #[.int .i64 (-2), .int .i64 10, .int .i64 3] 35))) := Lib.hid ((A1.out.below hB).below ((Below.refl _ _).alloc (Nat.le_refl _) _))
  have X2 : Hid (B3 (w2.alloc (.cells #[.int .i64 (-2), .int .i64 10, .int .i64 3] 35)) w2.heap.size (-2) 10 3) := Lib.hid ⟨by simp [go_sem], by simp [go_sem], by simp [go_sem]⟩
  clear A1 hB p0
  go_wp2_with fail
  generalize hq : w2.heap.size = q at *
  generalize (w2.alloc (.cells #[.int .i64 (-2), .int .i64 10, .int .i64 3] 35)) = W2 at *
  clear hq
  refine (Local_ok 5 1 2 (-9) _ A2.out.2.2.1 (by decide)).mono ?_
  rw [show loca 5 1 2 (-9) = .agg #[.int .i64 9, .int .i64 2, .int .i64 1] from by simp [loca]]
  rintro e w3 ⟨rfl, hB⟩
  have A3 : Hid (AwI w p b1 b2 b3 (w3.alloc (.cells #[.int .i64 9, .int .i64 2, .int .i64 1] 35))) := Lib.hid ((A2.out.below hB).below ((Below.refl _ _).alloc (Nat.le_refl _) _))
  have X3 := Lib.hid ((X2.out.below hB).below ((Below.refl _ _).alloc (Nat.le_refl _) (.cells #[.int .i64 9, .int .i64 2, .int .i64 1] 35)))
  have Y3 : Hid (B3 (w3.alloc (.cells #[.int .i64 9, .int .i64 2, .int .i64 1] 35)) w3.heap.size 9 2 1) := Lib.hid ⟨by simp [go_sem], by simp [go_sem], by simp [go_sem]⟩
  obtain ⟨⟨y0, y1, y2, y3, y4, y5, y6, _⟩, ⟨c0, c1, c2, c3⟩, _⟩ := A2.out.below hB
  have l0 := cell_lt c0
  have l1 := cell_lt y0
  clear A2 X2 hB
  go_wp2_with fail
  clear y0 y1 y2 y3 y4 y5 y6 c0 c1 c2 c3 l0 l1
  generalize hr : w3.heap.size = r at *
  generalize (w3.alloc (.cells #[.int .i64 9, .int .i64 2, .int .i64 1] 35)) = W3 at *
  clear hr
  refine (Centre_ok 0 100 4 2 5 7 1 0 0 _ (by decide) (by decide) (by decide)).mono ?_
  rw [show ((2 * 0 + 1 - 4) * 5 : Int) = -15 from by decide, show ((2 * 0 + 1 - 2) * 7 : Int) = -7 from by decide]
  rintro e W4 ⟨rfl, hB⟩
  have A4 := Lib.hid (A3.out.below hB)
  have X4 := Lib.hid (X3.out.below hB)
  have Y4 := Lib.hid (Y3.out.below hB)
  clear A3 X3 Y3 hB
  go_wp2_with fail
  refine (Key_any 1 2 3 _).mono ?_
  rw [show keyN 1 2 3 = 1050627 from by decide, show keyB 1 2 3 = true from by decide]
  rintro e W5 ⟨rfl, rfl⟩
  have A5 := Lib.hid (A4.out.below ((Below.refl _ _).alloc (Nat.le_refl _) (.cells #[.int .i64 1, .int .i64 2, .int .i64 3] 50)))
  have X5 := Lib.hid (X4.out.below ((Below.refl _ _).alloc (Nat.le_refl _) (.cells #[.int .i64 1, .int .i64 2, .int .i64 3] 50)))
  have Y5 := Lib.hid (Y4.out.below ((Below.refl _ _).alloc (Nat.le_refl _) (.cells #[.int .i64 1, .int .i64 2, .int .i64 3] 50)))
  obtain ⟨_, ⟨c0, c1, c2, c3⟩, _⟩ := A4.out
  have l0 := cell_lt c0
  clear A4 X4 Y4
  go_wp2_with fail
  clear c0 c1 c2 c3 l0
  generalize (W4.alloc (.cells #[.int .i64 1, .int .i64 2, .int .i64 3] 50)) = W5 at *
  refine (Resolve_ex b1 b2 b3 _ A5.out.1).mono ?_
  rintro e w6 ⟨rfl, hB⟩
  have A6 := Lib.hid ((A5.out.below hB).below ((Below.refl _ _).alloc (Nat.le_refl _) (.cells #[.int .i64 0, .int .i64 2, .int .i64 1] 50)))
  have X6 := Lib.hid ((X5.out.below hB).below ((Below.refl _ _).alloc (Nat.le_refl _) (.cells #[.int .i64 0, .int .i64 2, .int .i64 1] 50)))
  have Y6 := Lib.hid ((Y5.out.below hB).below ((Below.refl _ _).alloc (Nat.le_refl _) (.cells #[.int .i64 0, .int .i64 2, .int .i64 1] 50)))
  have Z6 : Hid (B3 (w6.alloc (.cells #[.int .i64 0, .int .i64 2, .int .i64 1] 50)) w6.heap.size 0 2 1) := Lib.hid ⟨by simp [go_sem], by simp [go_sem], by simp [go_sem]⟩
  obtain ⟨_, ⟨c0, c1, c2, c3⟩, _⟩ := A5.out.below hB
  have l0 := cell_lt c0
  clear A5 X5 Y5 hB
  go_wp2_with fail
  clear c0 c1 c2 c3 l0
  generalize hs : w6.heap.size = s at *
  generalize (w6.alloc (.cells #[.int .i64 0, .int .i64 2, .int .i64 1] 50)) = W6 at *
  clear hs
  refine (Cross_ex b1 b2 b3 _ A6.out.1).mono ?_
  rintro e W7 ⟨rfl, hB⟩
  have A7 := Lib.hid (A6.out.below hB)
  have X7 := Lib.hid (X6.out.below hB)
  have Y7 := Lib.hid (Y6.out.below hB)
  have Z7 := Lib.hid (Z6.out.below hB)
  clear A6 X6 Y6 Z6 hB
  go_wp2_with fail
  refine (Parse_ex _ A7.out.2.2.2.2.1).mono ?_
  rintro e w8 ⟨rfl, hB⟩
  have hD : Below w8.heap.size w8 (w8.alloc (.cells #[.string ⟨#[]⟩, .slice none 0 0, .slice none 0 0, .slice none 0 0] 26)) := (Below.refl _ _).alloc (Nat.le_refl _) _
  have A8 := Lib.hid ((A7.out.below hB).below hD)
  obtain ⟨_, ⟨c0, c1, c2, c3⟩, _⟩ := A7.out.below hB
  obtain ⟨x0, x1, x2⟩ := X7.out.below hB
  obtain ⟨y0, y1, y2⟩ := Y7.out.below hB
  obtain ⟨z0, z1, z2⟩ := Z7.out.below hB
  have l0 := cell_lt c0
  have l1 := cell_lt x0
  have l2 := cell_lt y0
  have l3 := cell_lt z0
  clear A7 X7 Y7 Z7 hB hD
  go_wp2_with fail
  refine (Bend_ex b1 b2 b3 _ A8.out.1).mono ?_
  rintro e W9 ⟨rfl, hB⟩
  have A9 := Lib.hid (A8.out.below hB)
  clear A8 hB c0 c1 c2 c3 x0 x1 x2 y0 y1 y2 z0 z1 z2 l0 l1 l2 l3
  obtain ⟨_, ⟨c0, c1, c2, c3⟩, _⟩ := A9.out
  go_wp2_with fail
  refine (Print_ex b1 b2 b3 _ A9.out.1 (A9.out.2.2.2.1 _ A9.out.2.2.2.2.2)).mono ?_
  rw [exText_eq]
  rintro e W10 ⟨rfl, hB⟩
  have B10 : Hid (Below w.heap.size w W10) := Lib.hid (A9.out.2.2.2.2.2.trans (hB.mono A9.out.2.2.2.2.2.size))
  clear c0 c1 c2 c3 A9 hB
  go_wp2_with fail
  go_ret
  exact ⟨rfl, B10.out⟩
end Go.Proofs.YteoahbpfhfjfmaaGreatDoor
