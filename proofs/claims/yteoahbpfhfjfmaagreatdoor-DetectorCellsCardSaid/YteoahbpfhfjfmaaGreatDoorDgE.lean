/- Layer 3: two arrays of three numbers, two cells: are they equal? -/
import Derived.Test.YteoahbpfhfjfmaaGreatDoorDgA
import Derived.ChangeKeysEq
set_option linter.unusedVariables false
set_option linter.unusedSimpArgs false
namespace Go.Proofs.YteoahbpfhfjfmaaGreatDoor
open Go.RowKit

theorem eqInt (d : Nat) (a x : Int) (w : World) : (Op.equalIn (d + 1) 3 (.int .i64 a) (.int .i64 x)).run Tryz.prog w = .ok (a == x) w := run_equalIn_int w d 3 .i64 .i64 a x Tryz.underlying3
theorem arEq (a b c x y z : Int) (w : World) : (Op.equalIn 10000 35 (.agg #[.int .i64 a, .int .i64 b, .int .i64 c]) (.agg #[.int .i64 x, .int .i64 y, .int .i64 z])).run Tryz.prog w = .ok (a == x && b == y && c == z) w := by
  have hs : (Tryz.prog.info? 3).isSome = true := by kernel_rfl
  obtain ⟨i, hi⟩ := Option.isSome_iff_exists.1 hs
  rw [show (10000 : Nat) = 9999 + 1 from rfl, run_equalIn_array w 9999 _ _ Tryz.underlying35 hi]
  have e : Tryz.prog.cellsOf 3 = 1 := by kernel_rfl
  rw [e]
  have p0 : ∀ (u v t : Int) w, (part 3 #[.int .i64 u, .int .i64 v, .int .i64 t] 0).run Tryz.prog w = .ok (.int .i64 u) w := fun _ _ _ _ => by kernel_rfl
  have p1 : ∀ (u v t : Int) w, (part 3 #[.int .i64 u, .int .i64 v, .int .i64 t] 1).run Tryz.prog w = .ok (.int .i64 v) w := fun _ _ _ _ => by kernel_rfl
  have p2 : ∀ (u v t : Int) w, (part 3 #[.int .i64 u, .int .i64 v, .int .i64 t] 2).run Tryz.prog w = .ok (.int .i64 t) w := fun _ _ _ _ => by kernel_rfl
  have q : ∀ (u v : Int) w, (Op.equalIn 9999 3 (.int .i64 u) (.int .i64 v)).run Tryz.prog w = .ok (u == v) w := fun u v w => eqInt 9998 u v w
  show (Op.eqItems 9999 3 1 _ _ [0, 1, 2]).run Tryz.prog w = _
  simp only [Op.eqItems, Sem.run_bind, Nat.mul_one, p0, p1, p2, q, Result.andThen_ok]
  by_cases h1 : a = x <;> by_cases h2 : b = y <;> by_cases h3 : c = z <;> simp [h1, h2, h3, p0, p1, p2, q, Op.eqItems]
theorem ceEq (a b c x y z : Int) (w : World) : (Op.equalIn 10000 50 (.agg #[.int .i64 a, .int .i64 b, .int .i64 c]) (.agg #[.int .i64 x, .int .i64 y, .int .i64 z])).run Tryz.prog w = .ok (a == x && b == y && c == z) w := by
  have p0 : ∀ (u v t : Int) w, (part 3 #[.int .i64 u, .int .i64 v, .int .i64 t] 0).run Tryz.prog w = .ok (.int .i64 u) w := fun _ _ _ _ => by kernel_rfl
  have p1 : ∀ (u v t : Int) w, (part 3 #[.int .i64 u, .int .i64 v, .int .i64 t] 1).run Tryz.prog w = .ok (.int .i64 v) w := fun _ _ _ _ => by kernel_rfl
  have p2 : ∀ (u v t : Int) w, (part 3 #[.int .i64 u, .int .i64 v, .int .i64 t] 2).run Tryz.prog w = .ok (.int .i64 t) w := fun _ _ _ _ => by kernel_rfl
  have q : ∀ (u v : Int) w, (Op.equalIn 9999 3 (.int .i64 u) (.int .i64 v)).run Tryz.prog w = .ok (u == v) w := fun u v w => eqInt 9998 u v w
  have hu := Tryz.underlying50
  rw [show (10000 : Nat) = 9999 + 1 from rfl, run_equalIn_struct w 9999 50 _ _ (by rw [hu]; simp [Program.fieldsOf, hu]) (by kernel_rfl)]
  simp only [Program.fieldsOf, hu, Op.eqFields]
  simp only [ne_eq, Sem.run_bind, p0, p1, p2, q, Result.andThen_ok]
  by_cases h1 : a = x <;> by_cases h2 : b = y <;> by_cases h3 : c = z <;> simp [h1, h2, h3, p0, p1, p2, q, Op.eqFields]
end Go.Proofs.YteoahbpfhfjfmaaGreatDoor
