/- Contract: takeProduct. -/
import Derived.Test.YtkhchaoehlefdaaDoorExH
set_option linter.unusedVariables false
set_option linter.unusedSimpArgs false
namespace Go.Proofs.YtkhchaoehlefdaaDoor
open Go.RowKit

theorem take_step {o x y : Nat → Int} {u : Int} {k : Nat} {c s c' : Int} (h : V o k + u * V y k = V x k + c * P k) (e : s + (c + y k * u) = x k + c' * 4294967296) (o' : Nat → Int) (ho : ∀ j, j < k → o' j = o j) (hk : o' k = s) :
    V o' (k + 1) + u * V y (k + 1) = V x (k + 1) + c' * P (k + 1) := by
  rw [V_succ, V_succ, V_succ, P_succ, V_congr ho, hk]
  generalize V o k = a at *
  generalize P k = p at *
  grind

/-- What is true between two rounds of takeProduct. -/
def TakeRel (b off N : Nat) (x y : Nat → Int) (u : Int) (w : World) (k : Nat) (c : Int) (wr : World) : Prop :=
  ∃ x', Own wr b N x' ∧ Dg x' ∧ (∀ j, j < off ∨ off + k ≤ j → x' j = x j) ∧ V (sh x' off) k + u * V y k = V (sh x off) k + c * P k ∧ 0 ≤ c ∧ c ≤ 4294967295 ∧ Chg b w wr

theorem takeRel_step {b off N : Nat} {x y : Nat → Int} {u : Int} {w : World} {k : Nat} {c : Int} {wr : World} (h : TakeRel b off N x y u w k c wr) (hx : Dg x) (hy : Dg y) (hu : 0 ≤ u ∧ u ≤ 4294967295) (hN : off + k < N) (s c' : Int)
    (hs : s = if x (off + k) < (c + y k * u) % 4294967296 then x (off + k) - (c + y k * u) % 4294967296 + 4294967296 else x (off + k) - (c + y k * u) % 4294967296)
    (hc' : c' = if x (off + k) < (c + y k * u) % 4294967296 then (c + y k * u) / 4294967296 + 1 else (c + y k * u) / 4294967296) :
    TakeRel b off N x y u w (k + 1) c' (wr.setCell ⟨b, off + k, none⟩ (.int .u32 s)) := by
  obtain ⟨x', hO, hd, hss, hv, c0, c1, hC⟩ := h
  have a1 := hx (off + k)
  have a2 := mul_bounds (hy k) hu
  have e0 : s + (c + y k * u) = x (off + k) + c' * 4294967296 ∧ (0 ≤ s ∧ s ≤ 4294967295) ∧ 0 ≤ c' ∧ c' ≤ 4294967295 := by
    generalize y k * u = p at *
    split at hs <;> split at hc' <;> omega
  obtain ⟨e1, ⟨s0, s1⟩, c2, c3⟩ := e0
  refine ⟨upd x' (off + k) s, hO.set hN _, hd.upd _ s0 s1, fun j hj => ?_, ?_, c2, c3, hC.setCell rfl _⟩
  · rw [upd_other (by omega)]; exact hss j (by omega)
  · rw [sh_upd]
    exact take_step (s := s) hv e1 _ (fun j hj => upd_other (by omega)) (upd_same _ _ _)

set_option maxHeartbeats 1600000 in
theorem takeProduct_any (b off n m N cap cap2 : Nat) (a : Option Addr) (x y : Nat → Int) (u : Int) (w : World) (hm : n ≤ m) (hN : off + m ≤ N) (hn : m ≤ 1000000000)
    (hx : Dg x) (hy : Dg y) (hu : 0 ≤ u ∧ u ≤ 4294967295) (hO : Own w b N x) (hr : Sl w a n y) (hne : 0 < n → ∀ c o, a = some ⟨c, o, none⟩ → c ≠ b) :
    Calls Tryd.prog 97 #[.slice (some ⟨b, off, none⟩) m cap, .slice a n cap2, .int .u32 u] w fun e w' =>
      ∃ c, e = .returned (.int .u32 c) ∧ TakeRel b off N x y u w n c w' := by
  have HR := Lib.hid hr
  have HN := Lib.hid hne
  have HX := Lib.hid hx
  have HY := Lib.hid hy
  have h0 : Hid (TakeRel b off N x y u w 0 0 w) := ⟨x, hO, hx, fun _ _ => rfl, by simp [V_zero], by omega, by omega, Chg.refl _ _⟩
  obtain ⟨u0, u1⟩ := hu
  clear hr hne hx hy hO
  go_enter Tryd.func97, Tryd.ntmps97
  go_wp2_with fail
  go_loopw [7, 13] (fun c i wr => ∃ (k : Nat) (cc : Int), k ≤ n ∧ i = .int .i64 k ∧ c = .int .u64 cc ∧ Hid (TakeRel b off N x y u w k cc wr)) (fun _ i _ => n - (intOf i).toNat)
  case atStart => exact ⟨0, 0, by omega, rfl, rfl, h0⟩
  case round =>
    clear h0
    obtain ⟨k, cc, hk, rfl, rfl, A⟩ := hrel
    obtain ⟨x', hO', hd', hs', hv', c0, c1, hC'⟩ := A.out
    by_cases hlt : k < n
    · obtain ⟨d, o, rfl, hrow⟩ := HR.out (by omega)
      have hdb := HN.out (by omega) d o rfl
      have g1 : wr.cell? ⟨d, o + k, none⟩ = some (.int .u32 (y k)) := (hrow.chg hC' hdb) k hlt
      have g2 : wr.cell? ⟨b, off + k, none⟩ = some (.int .u32 (x (off + k))) := by rw [← hs' (off + k) (by omega)]; exact hO'.cell (by omega)
      have g3 : wr.frozen? ⟨b, off + k, none⟩ = false := hO'.free _
      have S := Lib.hid (fun s c' => takeRel_step A.out HX.out HY.out ⟨u0, u1⟩ (show off + k < N by omega) s c')
      obtain ⟨b1, b2⟩ := HX.out (off + k)
      obtain ⟨b3, b4⟩ := HY.out k
      obtain ⟨b5, b6⟩ := mul_bounds (HY.out k) ⟨u0, u1⟩
      clear A hO' hd' hs' hv' hC' HR HN HX HY hrow
      generalize x (off + k) = xk at *
      generalize y k = yk at *
      by_cases hlow : xk < (cc + yk * u) % 4294967296
      · have hl : decide (xk < (cc + yk * u) % 4294967296) = true := decide_eq_true hlow
        go_wp2_with fail
        go_roundw
        case rel => exact ⟨k + 1, _, by omega, rfl, rfl, S.out _ _ (by rw [if_pos hlow]; omega) (by rw [if_pos hlow])⟩
        case measure => simp [intOf] <;> omega
      · have hl : decide (xk < (cc + yk * u) % 4294967296) = false := decide_eq_false hlow
        go_wp2_with fail
        go_roundw
        case rel => exact ⟨k + 1, _, by omega, rfl, rfl, S.out _ _ (by rw [if_neg hlow] <;> omega) (by rw [if_neg hlow])⟩
        case measure => simp [intOf] <;> omega
    · obtain rfl : k = n := by omega
      clear HR HN HX HY hO' hd' hs' hv' hC'
      go_wp2_with fail
      go_ret
      exact ⟨_, ret_int (by omega), A.out⟩
end Go.Proofs.YtkhchaoehlefdaaDoor
