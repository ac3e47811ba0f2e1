/- Contracts: trim, order, Add32. -/
import Derived.Test.YtkhchaoehlefdaaDoorProg
import Derived.Test.YtkhchaoehlefdaaDoorExA
import Derived.WalkSpells
import Derived.Deep.QuietTactic
import Derived.BigQuiet
namespace Go.Proofs.YtkhchaoehlefdaaDoor
open Go.RowKit

theorem ret_len {a : Option Addr} {n m cap : Nat} (h : n = m) : Ending.returned (.slice a n cap) = .returned (.slice a m cap) := by rw [h]
theorem ret_int {k : IntKind} {a b : Int} (h : a = b) : Ending.returned (.int k a) = .returned (.int k b) := by rw [h]
theorem ret_bool {a b : Bool} (h : a = b) : Ending.returned (.bool a) = .returned (.bool b) := by rw [h]

set_option maxHeartbeats 400000 in
theorem trim_any (a : Option Addr) (n cap : Nat) (x : Nat → Int) (w : World) (hn : n ≤ 1000000000) (hc : n ≤ cap)
    (hr : 0 < n → ∃ b off, a = some ⟨b, off, none⟩ ∧ Row w b off n x) :
    Calls Tryd.prog 61 #[.slice a n cap] w fun e w' => e = .returned (.slice a (tl x n) cap) ∧ w = w' := by
  have HR := Lib.hid hr
  clear hr
  go_enter Tryd.func61, Tryd.ntmps61
  go_wp2
  go_loop [3] (fun i => ∃ k : Nat, k ≤ n ∧ Hid (tl x k = tl x n) ∧ i = .int .i64 k) (fun i => (intOf i).toNat)
  case atStart => exact ⟨n, Nat.le_refl _, rfl, rfl⟩
  case round =>
    obtain ⟨k, hk, HT, rfl⟩ := hrel
    by_cases hk0 : 0 < k
    · obtain ⟨j, rfl⟩ : ∃ j, k = j + 1 := ⟨k - 1, by omega⟩
      obtain ⟨b, off, rfl, hrow⟩ := HR.out (by omega)
      have hcell := hrow j (by omega)
      have HW := Lib.hid hrow
      clear hrow HR
      generalize hxj : x j = xj at hcell
      have HX := Lib.hid hxj
      clear hxj
      by_cases h0 : xj = 0
      · subst h0
        go_wp2
        go_round
        case rel => exact ⟨j, by omega, (tl_go HX.out).symm.trans HT.out, rfl⟩
        case measure => simp [intOf] <;> omega
      · go_wp2
        go_ret
        have : tl x (j + 1) = j + 1 := tl_stop (by rw [HX.out]; exact h0)
        exact ⟨ret_len (this.symm.trans HT.out), rfl⟩
    · obtain rfl : k = 0 := by omega
      go_wp2
      go_ret
      exact ⟨ret_len HT.out, rfl⟩

theorem add32 (x y c : Int) (hx : 0 ≤ x ∧ x ≤ 4294967295) (hy : 0 ≤ y ∧ y ≤ 4294967295) (hc : 0 ≤ c ∧ c ≤ 1) (w : World) :
    Calls Tryd.prog 79 #[.int .u32 x, .int .u32 y, .int .u32 c] w fun e w' =>
      e = .returned (.tuple #[.int .u32 ((x + y + c) % 4294967296), .int .u32 ((x + y + c) / 4294967296)]) ∧ w = w' := by
  obtain ⟨x0, x1⟩ := hx
  obtain ⟨y0, y1⟩ := hy
  obtain ⟨c0, c1⟩ := hc
  go_enter Tryd.func79, Tryd.ntmps79
  go_wp2
  go_ret2
  exact ⟨rfl, rfl⟩

theorem ret_pair {k l : IntKind} {a b c d : Int} (h : a = b) (g : c = d) : Ending.returned (.tuple #[.int k a, .int l c]) = .returned (.tuple #[.int k b, .int l d]) := by rw [h, g]
theorem top_bit (n : Nat) (h : n < 4294967296) : n / 2147483648 = if n.testBit 31 then 1 else 0 := by
  rw [Nat.testBit_eq_decide_div_mod_eq]
  simp only [Nat.reducePow, decide_eq_true_eq]
  split <;> omega
theorem top_is (n : Nat) (h : n < 4294967296) : n.testBit 31 = decide (2147483648 ≤ n) := by
  rw [Nat.testBit_eq_decide_div_mod_eq]
  simp only [Nat.reducePow]
  by_cases g : 2147483648 ≤ n <;> simp [g] <;> omega
theorem borrow_nat (x y d : Nat) (hx : x < 4294967296) (hy : y < 4294967296) (hd : d < 4294967296) :
    (((4294967295 ^^^ x) &&& y) ||| ((4294967295 ^^^ (x ^^^ y)) &&& d)) / 2147483648 =
      if (!decide (2147483648 ≤ x) && decide (2147483648 ≤ y)) || ((decide (2147483648 ≤ x) == decide (2147483648 ≤ y)) && decide (2147483648 ≤ d)) then 1 else 0 := by
  have e : (4294967295 : Nat) = 2 ^ 32 - 1 := by decide
  rw [top_bit]
  · have t : Nat.testBit 4294967295 31 = true := by rw [top_is _ (by decide)]; decide
    simp only [Nat.testBit_or, Nat.testBit_and, Nat.testBit_xor, t, top_is x hx, top_is y hy, top_is d hd]
    by_cases a : 2147483648 ≤ x <;> by_cases b : 2147483648 ≤ y <;> by_cases c : 2147483648 ≤ d <;> simp [a, b, c]
  · exact Nat.or_lt_two_pow (n := 32) (Nat.lt_of_le_of_lt Nat.and_le_right hy) (Nat.lt_of_le_of_lt Nat.and_le_right hd)
theorem borrow_bits (x y c : Int) (hx : 0 ≤ x ∧ x ≤ 4294967295) (hy : 0 ≤ y ∧ y ≤ 4294967295) (hc : 0 ≤ c ∧ c ≤ 1) :
    bits BinOp.or IntKind.u32 (bits BinOp.and IntKind.u32 (bits BinOp.xor IntKind.u32 IntKind.u32.max x) y)
                (bits BinOp.and IntKind.u32 (bits BinOp.xor IntKind.u32 IntKind.u32.max (bits BinOp.xor IntKind.u32 x y)) ((x - y - c) % 4294967296)) / 2147483648 = - ((x - y - c) / 4294967296) := by
  have em : IntKind.u32.max = ((4294967295 : Nat) : Int) := by decide
  obtain ⟨d, hd⟩ : ∃ d : Nat, (x - y - c) % 4294967296 = d := Int.eq_ofNat_of_zero_le (by omega)
  have hd' : d < 4294967296 := by omega
  obtain ⟨x, rfl⟩ := Int.eq_ofNat_of_zero_le hx.1
  obtain ⟨y, rfl⟩ := Int.eq_ofNat_of_zero_le hy.1
  have xl : x < 4294967296 := by omega
  have yl : y < 4294967296 := by omega
  have l1 : x ^^^ y < 4294967296 := Nat.xor_lt_two_pow (n := 32) xl yl
  have l2 : 4294967295 ^^^ x < 4294967296 := Nat.xor_lt_two_pow (n := 32) (by decide) xl
  have l3 : 4294967295 ^^^ (x ^^^ y) < 4294967296 := Nat.xor_lt_two_pow (n := 32) (by decide) l1
  rw [hd, em, u32_xor_nat _ _ (by decide) xl, u32_xor_nat _ _ xl yl, u32_xor_nat _ _ (by decide) l1, u32_and_nat _ _ l2 yl, u32_and_nat _ _ l3 hd',
    u32_or_nat _ _ (Nat.lt_of_le_of_lt Nat.and_le_right yl) (Nat.lt_of_le_of_lt Nat.and_le_right hd')]
  have := borrow_nat x y d xl yl hd'
  rw [show ((2147483648 : Int)) = ((2147483648 : Nat) : Int) from rfl, ← Int.natCast_ediv, this]
  by_cases a : 2147483648 ≤ x <;> by_cases b : 2147483648 ≤ y <;> by_cases c : 2147483648 ≤ d <;> simp [a, b, c] <;> omega
theorem sub32 (x y c : Int) (hx : 0 ≤ x ∧ x ≤ 4294967295) (hy : 0 ≤ y ∧ y ≤ 4294967295) (hc : 0 ≤ c ∧ c ≤ 1) (w : World) :
    Calls Tryd.prog 80 #[.int .u32 x, .int .u32 y, .int .u32 c] w fun e w' =>
      e = .returned (.tuple #[.int .u32 ((x - y - c) % 4294967296), .int .u32 (- ((x - y - c) / 4294967296))]) ∧ w = w' := by
  obtain ⟨x0, x1⟩ := hx
  obtain ⟨y0, y1⟩ := hy
  obtain ⟨c0, c1⟩ := hc
  go_enter Tryd.func80, Tryd.ntmps80
  go_wp2
  all_goals (try (exfalso; simp [IntKind.signed] at *; done))
  go_ret2
  exact ⟨ret_pair rfl (borrow_bits x y c ⟨x0, x1⟩ ⟨y0, y1⟩ ⟨c0, c1⟩), rfl⟩

theorem isOne_any (a : Option Addr) (n cap : Nat) (x : Nat → Int) (w : World) (hn : n ≤ 1000000000) (hc : n ≤ cap)
    (hr : 0 < n → ∃ b off, a = some ⟨b, off, none⟩ ∧ Row w b off n x) :
    Calls Tryd.prog 88 #[.slice a n cap] w fun e w' => e = .returned (.bool (decide (n = 1 ∧ x 0 = 1))) ∧ w = w' := by
  by_cases h1 : n = 1
  · subst h1
    obtain ⟨b, off, rfl, hrow⟩ := hr (by omega)
    have hcell : w.cell? ⟨b, off, none⟩ = _ := hrow 0 (by omega)
    clear hr hrow
    generalize x 0 = x0 at *
    by_cases h : x0 = 1
    · subst h
      go_enter Tryd.func88, Tryd.ntmps88
      go_wp2
      go_ret
      exact ⟨by simp, rfl⟩
    · go_enter Tryd.func88, Tryd.ntmps88
      go_wp2
      go_ret
      exact ⟨by simp [h], rfl⟩
  · clear hr
    go_enter Tryd.func88, Tryd.ntmps88
    go_wp2
    go_ret
    exact ⟨by simp [h1], rfl⟩

end Go.Proofs.YtkhchaoehlefdaaDoor
