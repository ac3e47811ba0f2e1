/- Contract: shiftInto. -/
import Derived.Test.YtkhchaoehlefdaaDoorEyA
import Derived.Test.YtkhchaoehlefdaaDoorExK
set_option linter.unusedVariables false
set_option linter.unusedSimpArgs false
namespace Go.Proofs.YtkhchaoehlefdaaDoor
open Go.RowKit

theorem shift_step {o y : Nat → Int} {S : Int} {k : Nat} {c s c' : Int} (h : V o k + c * P k = S * V y k) (e : s + c' * 4294967296 = c + y k * S) (o' : Nat → Int) (ho : ∀ j, j < k → o' j = o j) (hk : o' k = s) :
    V o' (k + 1) + c' * P (k + 1) = S * V y (k + 1) := by
  rw [V_succ, V_succ, P_succ, V_congr ho, hk]
  generalize V o k = a at *
  generalize P k = p at *
  grind

/-- What is true between two rounds of shiftInto. -/
def ShiftRel (b off N : Nat) (x y : Nat → Int) (S : Int) (w : World) (k : Nat) (c : Int) (wr : World) : Prop :=
  ∃ x', Own wr b N x' ∧ Dg x' ∧ (∀ j, j < off ∨ off + k ≤ j → x' j = x j) ∧ V (sh x' off) k + c * P k = S * V y k ∧ 0 ≤ c ∧ c < S ∧ Chg b w wr

theorem shiftRel_step {b off N : Nat} {x y : Nat → Int} {S : Int} {w : World} {k : Nat} {c : Int} {wr : World} (h : ShiftRel b off N x y S w k c wr) (hy : Dg y) (hS : 0 < S ∧ S ≤ 2147483648) (hN : off + k < N) :
    ShiftRel b off N x y S w (k + 1) ((c + y k * S) / 4294967296) (wr.setCell ⟨b, off + k, none⟩ (.int .u32 ((c + y k * S) % 4294967296))) := by
  obtain ⟨x', hO, hd, hss, hv, c0, c1, hC⟩ := h
  have a1 := hy k
  have a2 := Int.mul_nonneg a1.1 (Int.le_of_lt hS.1)
  have a3 : y k * S ≤ 4294967295 * S := Int.mul_le_mul_of_nonneg_right a1.2 (Int.le_of_lt hS.1)
  generalize hp : y k * S = p at *
  refine ⟨upd x' (off + k) ((c + p) % 4294967296), hO.set hN _, hd.upd _ (by omega) (by omega), fun j hj => ?_, ?_, by omega, by omega, hC.setCell rfl _⟩
  · rw [upd_other (by omega)]; exact hss j (by omega)
  · rw [sh_upd]
    exact shift_step (s := (c + p) % 4294967296) hv (by rw [hp]; omega) _ (fun j hj => upd_other (by omega)) (upd_same _ _ _)

theorem or_low (c z : Int) (k : Nat) (hc : 0 ≤ c ∧ c < 2 ^ k) (hz : 0 ≤ z) (hb : z * 2 ^ k + c < 18446744073709551616) : bits BinOp.or IntKind.u64 c (z * 2 ^ k) = c + z * 2 ^ k := by
  obtain ⟨c, rfl⟩ := Int.eq_ofNat_of_zero_le hc.1
  obtain ⟨z, rfl⟩ := Int.eq_ofNat_of_zero_le hz
  have e : ((z : Int) * 2 ^ k) = ((z * 2 ^ k : Nat) : Int) := by rw [Int.natCast_mul, Int.natCast_pow]; rfl
  have hc2 : c < 2 ^ k := by have := hc.2; rw [show ((2 : Int) ^ k) = ((2 ^ k : Nat) : Int) by rw [Int.natCast_pow]; rfl] at this; omega
  rw [e] at hb ⊢
  rw [u64_or_nat _ _ (by omega) (by omega), Nat.or_comm, nat_join k _ _ (Nat.mul_mod_left z _) hc2]
  omega

set_option maxHeartbeats 1600000 in
theorem shiftInto_any (b off n m N cap cap2 by' : Nat) (a : Option Addr) (x y : Nat → Int) (w : World) (hm : n < m) (hN : off + m ≤ N) (hn : m ≤ 1000000000) (hby : by' < 32)
    (hx : Dg x) (hy : Dg y) (hO : Own w b N x) (hr : Sl w a n y) (hne : 0 < n → ∀ c o, a = some ⟨c, o, none⟩ → c ≠ b) :
    Calls Tryd.prog 93 #[.slice (some ⟨b, off, none⟩) m cap, .slice a n cap2, .int .i64 by'] w fun e w' =>
      ∃ x', e = .returned (.tuple #[]) ∧ Own w' b N x' ∧ Dg x' ∧ (∀ j, j < off ∨ off + n + 1 ≤ j → x' j = x j) ∧ V (sh x' off) (n + 1) = 2 ^ by' * V y n ∧ Chg b w w' := by
  have HR := Lib.hid hr
  have HN := Lib.hid hne
  have HX := Lib.hid hx
  have HY := Lib.hid hy
  have p0 : (0 : Int) < 2 ^ by' := Int.pow_pos (by decide)
  have p1 : (2 : Int) ^ by' ≤ 2147483648 := by
    have h1 : (2 : Nat) ^ by' ≤ 2 ^ 31 := Nat.pow_le_pow_right (by decide) (by omega)
    rw [show ((2 : Int) ^ by') = ((2 ^ by' : Nat) : Int) by rw [Int.natCast_pow]; rfl]
    omega
  have h0 : Hid (ShiftRel b off N x y (2 ^ by') w 0 0 w) := ⟨x, hO, hx, fun _ _ => rfl, by simp [V_zero], by omega, p0, Chg.refl _ _⟩
  have HP := Lib.hid p0
  have HP1 := Lib.hid p1
  clear hr hne hx hy hO p0 p1
  go_enter Tryd.func93, Tryd.ntmps93
  go_wp2_with fail
  go_loopw [6, 11] (fun c i wr => ∃ (k : Nat) (cc : Int), k ≤ n ∧ i = .int .i64 k ∧ c = .int .u64 cc ∧ Hid (ShiftRel b off N x y (2 ^ by') w k cc wr)) (fun _ i _ => n - (intOf i).toNat)
  case atStart => exact ⟨0, 0, by omega, rfl, rfl, h0⟩
  case round =>
    clear h0
    obtain ⟨k, cc, hk, rfl, rfl, A⟩ := hrel
    obtain ⟨x', hO', hd', hs', hv', c0, c1, hC'⟩ := A.out
    by_cases hlt : k < n
    · obtain ⟨d, o, rfl, hrow⟩ := HR.out (by omega)
      have hdb := HN.out (by omega) d o rfl
      have g1 : wr.cell? ⟨d, o + k, none⟩ = some (.int .u32 (y k)) := (hrow.chg hC' hdb) k hlt
      have g2 : wr.cell? ⟨b, off + k, none⟩ = some (.int .u32 (x (off + k))) := by rw [← hs' (off + k) (by omega)]; exact hO'.cell (by omega)
      have g3 : wr.frozen? ⟨b, off + k, none⟩ = false := hO'.free _
      have S := Lib.hid (shiftRel_step A.out HY.out ⟨HP.out, HP1.out⟩ (show off + k < N by omega))
      obtain ⟨b3, b4⟩ := HY.out k
      have m0 := Int.mul_nonneg b3 (Int.le_of_lt HP.out)
      have m1 : y k * 2 ^ by' ≤ 4294967295 * 2 ^ by' := Int.mul_le_mul_of_nonneg_right b4 (Int.le_of_lt HP.out)
      have m2 := HP1.out
      have hor : bits BinOp.or IntKind.u64 cc (y k * 2 ^ by') = cc + y k * 2 ^ by' := or_low cc (y k) by' ⟨c0, c1⟩ b3 (by omega)
      have hw : IntKind.u64.wrap (y k * 2 ^ by') = y k * 2 ^ by' := IntWalk.u64_in _ (by omega)
      clear A hO' hd' hs' hv' hC' HR HN HX HY hrow m0 m1 m2
      generalize y k = yk at *
      go_wp2_with fail
      go_roundw
      case rel => exact ⟨k + 1, _, by omega, rfl, rfl, S⟩
      case measure => simp [intOf] <;> omega
    · obtain rfl : k = n := by omega
      have g2 : wr.cell? ⟨b, off + k, none⟩ = some (.int .u32 (x' (off + k))) := hO'.cell (by omega)
      have g3 : wr.frozen? ⟨b, off + k, none⟩ = false := hO'.free _
      have m2 := HP1.out
      have e1 : cc % 4294967296 = cc := by omega
      have F : Hid (∃ x'', Own (wr.setCell ⟨b, off + k, none⟩ (.int .u32 cc)) b N x'' ∧ Dg x'' ∧ (∀ j, j < off ∨ off + k + 1 ≤ j → x'' j = x j) ∧ V (sh x'' off) (k + 1) = 2 ^ by' * V y k ∧ Chg b w (wr.setCell ⟨b, off + k, none⟩ (.int .u32 cc))) := by
        refine ⟨upd x' (off + k) cc, hO'.set (by omega) _, hd'.upd _ c0 (by omega), fun j hj => ?_, ?_, hC'.setCell rfl _⟩
        · rw [upd_other (by omega)]; exact hs' j (by omega)
        · rw [sh_upd, V_succ, upd_same, V_congr (fun j hj => upd_other (by omega))]; exact hv'
      clear HR HN HX HY A hO' hd' hs' hv' hC' m2
      go_wp2_with fail
      go_end0
      obtain ⟨x'', f1, f2, f3, f4, f5⟩ := F.out
      exact ⟨x'', rfl, f1, f2, f3, f4, f5⟩
end Go.Proofs.YtkhchaoehlefdaaDoor
