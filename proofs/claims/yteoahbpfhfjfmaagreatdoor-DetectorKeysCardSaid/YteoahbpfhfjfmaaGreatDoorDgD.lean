/- Layer 3: DetectorKeys. -/
import Derived.Test.YteoahbpfhfjfmaaGreatDoorDgB
import Derived.Test.YteoahbpfhfjfmaaGreatDoorDgC
set_option linter.unusedVariables false
set_option linter.unusedSimpArgs false
namespace Go.Proofs.YteoahbpfhfjfmaaGreatDoor
open Go.RowKit
attribute [local go_sem] Oper.semAt_some arEq ceEq

set_option maxRecDepth 100000 in
theorem keys_any (a b c n : Int) (w : World) (hF : FT w) (hT : Lib.TabIs Tryz.prog w "internal/strconv.uint64pow10" .u64 Lib.pow10Tab) (hm : ML w) : Calls Tryz.prog 6 #[.agg #[.int .i64 a, .int .i64 b, .int .i64 c], .int .i64 n] w fun e w' => e = .returned (.bool true) ∧ Below w.heap.size w w' := by
  have AW : ∀ W : World, Below w.heap.size w W → Hid (Calls Tryz.prog 10 #[] W fun e w' => e = .returned (.bool true) ∧ Below W.heap.size W w') := fun W h => Lib.hid (awake_any W (hF.below h) (Lib.tabBelow_of_tabIs hT W h) (hm.below h))
  clear hF hT hm
  have BA : ∀ (W : World) (o : Obj), Below W.heap.size W (W.alloc o) := fun W o => (Below.refl _ _).alloc (Nat.le_refl _) o
  go_enter Tryz.func6, Tryz.ntmps6
  go_wp2_with fail
  refine (Key_any a b c _).mono ?_
  rintro e w1 ⟨rfl, rfl⟩
  go_wp2_with fail
  refine (refKey_any a b c _).mono ?_
  rintro e w2 ⟨rfl, rfl⟩
  go_wp2_with fail
  have L2 : Hid (Below w.heap.size w (((w.alloc (.cells #[.int .i64 a, .int .i64 b, .int .i64 c] 50)).alloc (.cells #[.int .i64 a, .int .i64 b, .int .i64 c] 50)).alloc (.cells #[.int .i64 a, .int .i64 b, .int .i64 c] 50))) := Lib.hid (by repeat (first | exact Below.refl _ _ | exact Nat.le_refl _ | (apply Below.alloc) | (simp <;> omega)))
  have X2 : Hid (B3 (((w.alloc (.cells #[.int .i64 a, .int .i64 b, .int .i64 c] 50)).alloc (.cells #[.int .i64 a, .int .i64 b, .int .i64 c] 50)).alloc (.cells #[.int .i64 a, .int .i64 b, .int .i64 c] 50)) w.heap.size a b c) := Lib.hid ⟨by simp [go_sem], by simp [go_sem], by simp [go_sem]⟩
  generalize hp : w.heap.size = p at *
  generalize (((w.alloc (.cells #[.int .i64 a, .int .i64 b, .int .i64 c] 50)).alloc (.cells #[.int .i64 a, .int .i64 b, .int .i64 c] 50)).alloc (.cells #[.int .i64 a, .int .i64 b, .int .i64 c] 50)) = W2 at *
  refine (Keyed_any n _).mono ?_
  rintro e w3 ⟨rfl, hB⟩
  have L3 := Lib.hid (L2.out.trans ((hB.trans ((BA w3 (.cells #[.int .i64 (kd0 n), .int .i64 (kd1 n), .int .i64 (kd2 n)] 50)).mono hB.size)).mono (by have := L2.out.size; omega)))
  have X3 := Lib.hid ((X2.out.below hB).below (BA w3 (.cells #[.int .i64 (kd0 n), .int .i64 (kd1 n), .int .i64 (kd2 n)] 50)))
  have Y3 : Hid (B3 (w3.alloc (.cells #[.int .i64 (kd0 n), .int .i64 (kd1 n), .int .i64 (kd2 n)] 50)) w3.heap.size (kd0 n) (kd1 n) (kd2 n)) := Lib.hid ⟨by simp [go_sem], by simp [go_sem], by simp [go_sem]⟩
  clear X2 L2 hB
  go_wp2_with fail
  generalize hq : w3.heap.size = q at *
  generalize (w3.alloc (.cells #[.int .i64 (kd0 n), .int .i64 (kd1 n), .int .i64 (kd2 n)] 50)) = W3 at *
  refine (refKeyed_any n _).mono ?_
  rintro e w4 ⟨rfl, hB⟩
  have L4 := Lib.hid (L3.out.trans ((hB.trans ((BA w4 (.cells #[.int .i64 (kd0 n), .int .i64 (kd1 n), .int .i64 (kd2 n)] 50)).mono hB.size)).mono (by have := L3.out.size; omega)))
  have X4 := Lib.hid ((X3.out.below hB).below (BA w4 (.cells #[.int .i64 (kd0 n), .int .i64 (kd1 n), .int .i64 (kd2 n)] 50)))
  have Y4 := Lib.hid ((Y3.out.below hB).below (BA w4 (.cells #[.int .i64 (kd0 n), .int .i64 (kd1 n), .int .i64 (kd2 n)] 50)))
  have Z4 : Hid (B3 (w4.alloc (.cells #[.int .i64 (kd0 n), .int .i64 (kd1 n), .int .i64 (kd2 n)] 50)) w4.heap.size (kd0 n) (kd1 n) (kd2 n)) := Lib.hid ⟨by simp [go_sem], by simp [go_sem], by simp [go_sem]⟩
  obtain ⟨x0, x1, x2⟩ := X3.out.below hB
  obtain ⟨y0, y1, y2⟩ := Y3.out.below hB
  have l0 := cell_lt x0
  have l1 := cell_lt y0
  clear X3 Y3 L3 hB
  cases hk : keyB a b c
  all_goals cases hn : kdB n
  all_goals go_wp2_with fail
  ·
    generalize hr : w4.heap.size = r at *
    generalize (w4.alloc (.cells #[.int .i64 (kd0 n), .int .i64 (kd1 n), .int .i64 (kd2 n)] 50)) = W4 at *
    refine (AW _ L4.out).out.mono ?_
    rintro e W' ⟨rfl, hB⟩
    have LZ := L4.out.trans (hB.mono (by have := L4.out.size; omega))
    clear hB
    go_wp2_with fail
    go_ret
    exact ⟨rfl, by rw [hp]; exact LZ⟩
  ·
    generalize hr : w4.heap.size = r at *
    generalize (w4.alloc (.cells #[.int .i64 (kd0 n), .int .i64 (kd1 n), .int .i64 (kd2 n)] 50)) = W4 at *
    refine (Key_any _ _ _ _).mono ?_
    rw [(key_kd hn).1, (key_kd hn).2]
    rintro e w5 ⟨rfl, rfl⟩
    have L5 := Lib.hid (L4.out.trans ((BA W4 (.cells #[.int .i64 (kd0 n), .int .i64 (kd1 n), .int .i64 (kd2 n)] 50)).mono (by have := L4.out.size; omega)))
    go_wp2_with fail
    refine (AW _ L5.out).out.mono ?_
    rintro e W' ⟨rfl, hB⟩
    have LZ := L5.out.trans (hB.mono (by have := L5.out.size; omega))
    clear hB
    go_wp2_with fail
    go_ret
    exact ⟨rfl, by rw [hp]; exact LZ⟩
  ·
    generalize hr : w4.heap.size = r at *
    generalize (w4.alloc (.cells #[.int .i64 (kd0 n), .int .i64 (kd1 n), .int .i64 (kd2 n)] 50)) = W4 at *
    clear x0 x1 x2 y0 y1 y2 l0 l1
    obtain ⟨e1, e2, e3, e4⟩ := kd_key hk
    refine (Keyed_any (keyN a b c) _).mono ?_
    rw [e1, e2, e3, e4]
    clear e1 e2 e3 e4
    rintro e w5 ⟨rfl, hB⟩
    have L5 := Lib.hid (L4.out.trans ((hB.trans ((BA w5 (.cells #[.int .i64 a, .int .i64 b, .int .i64 c] 50)).mono hB.size)).mono (by have := L4.out.size; omega)))
    obtain ⟨x0, x1, x2⟩ := X4.out.below hB
    obtain ⟨y0, y1, y2⟩ := Y4.out.below hB
    have l0 := cell_lt x0
    have l1 := cell_lt y0
    clear X4 Y4 Z4 L4 hB
    go_wp2_with fail
    refine (AW _ L5.out).out.mono ?_
    rintro e W' ⟨rfl, hB⟩
    have LZ := L5.out.trans (hB.mono (by have := L5.out.size; omega))
    clear hB
    go_wp2_with fail
    go_ret
    exact ⟨rfl, by rw [hp]; exact LZ⟩
  ·
    generalize hr : w4.heap.size = r at *
    generalize (w4.alloc (.cells #[.int .i64 (kd0 n), .int .i64 (kd1 n), .int .i64 (kd2 n)] 50)) = W4 at *
    clear x0 x1 x2 y0 y1 y2 l0 l1
    obtain ⟨e1, e2, e3, e4⟩ := kd_key hk
    refine (Keyed_any (keyN a b c) _).mono ?_
    rw [e1, e2, e3, e4]
    clear e1 e2 e3 e4
    rintro e w5 ⟨rfl, hB⟩
    have L5 := Lib.hid (L4.out.trans ((hB.trans ((BA w5 (.cells #[.int .i64 a, .int .i64 b, .int .i64 c] 50)).mono hB.size)).mono (by have := L4.out.size; omega)))
    obtain ⟨x0, x1, x2⟩ := X4.out.below hB
    obtain ⟨y0, y1, y2⟩ := Y4.out.below hB
    have l0 := cell_lt x0
    have l1 := cell_lt y0
    clear X4 Y4 Z4 L4 hB
    go_wp2_with fail
    refine (Key_any _ _ _ _).mono ?_
    rw [(key_kd hn).1, (key_kd hn).2]
    rintro e w6 ⟨rfl, rfl⟩
    have L6 := Lib.hid (L5.out.trans ((BA _ (.cells #[.int .i64 (kd0 n), .int .i64 (kd1 n), .int .i64 (kd2 n)] 50)).mono (by have := L5.out.size; omega)))
    go_wp2_with fail
    refine (AW _ L6.out).out.mono ?_
    rintro e W' ⟨rfl, hB⟩
    have LZ := L6.out.trans (hB.mono (by have := L6.out.size; omega))
    clear hB
    go_wp2_with fail
    go_ret
    exact ⟨rfl, by rw [hp]; exact LZ⟩
end Go.Proofs.YteoahbpfhfjfmaaGreatDoor
