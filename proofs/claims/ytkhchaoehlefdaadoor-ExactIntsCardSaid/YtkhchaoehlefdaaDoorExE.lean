/- Contracts: takeFrom, sum, difference, order. -/
import Derived.Test.YtkhchaoehlefdaaDoorExD
namespace Go.Proofs.YtkhchaoehlefdaaDoor
open Go.RowKit

theorem borrow_step {o x y : Nat → Int} {k : Nat} {c s c' : Int} (h : V o k - c * P k = V x k - V y k) (e : s - c' * 4294967296 = x k - y k - c) (o' : Nat → Int) (ho : ∀ j, j < k → o' j = o j) (hk : o' k = s) :
    V o' (k + 1) - c' * P (k + 1) = V x (k + 1) - V y (k + 1) := by
  rw [V_succ, V_succ, V_succ, P_succ, V_congr ho, hk]
  generalize V o k = a at *
  generalize P k = p at *
  grind

/-- What is true between two rounds of takeFrom. -/
def SubRel (b off N : Nat) (x y : Nat → Int) (w : World) (k : Nat) (c : Int) (wr : World) : Prop :=
  ∃ x', Own wr b N x' ∧ Dg x' ∧ (∀ j, j < off ∨ off + k ≤ j → x' j = x j) ∧ V (sh x' off) k - c * P k = V (sh x off) k - V y k ∧ 0 ≤ c ∧ c ≤ 1 ∧ Chg b w wr

theorem subRel_step {b off N : Nat} {x y : Nat → Int} {w : World} {k : Nat} {c : Int} {wr : World} (h : SubRel b off N x y w k c wr) (hx : Dg x) (hy : Dg y) (hN : off + k < N) :
    SubRel b off N x y w (k + 1) (- ((x (off + k) - y k - c) / 4294967296)) (wr.setCell ⟨b, off + k, none⟩ (.int .u32 ((x (off + k) - y k - c) % 4294967296))) := by
  obtain ⟨x', hO, hd, hs, hv, c0, c1, hC⟩ := h
  have a1 := hx (off + k)
  have a2 := hy k
  refine ⟨upd x' (off + k) ((x (off + k) - y k - c) % 4294967296), hO.set hN _, hd.upd _ (by omega) (by omega), fun j hj => ?_, ?_, by omega, by omega, hC.setCell rfl _⟩
  · rw [upd_other (by omega)]; exact hs j (by omega)
  · rw [sh_upd]
    refine borrow_step (s := (x (off + k) - y k - c) % 4294967296) hv ?_ _ (fun j hj => upd_other (by omega)) (upd_same _ _ _)
    show _ = x (off + k) - _ - _
    omega
theorem subbed_of {b off n m N k : Nat} {x y : Nat → Int} {w w' : World} (hkm : k ≤ m) (hnk : n ≤ k) (h : SubRel b off N x (zx y n) w k 0 w') : Added b off m N x (V (sh x off) m - V y n) w w' := by
  obtain ⟨x', hO, hd, hs, hv, _, _, hC⟩ := h
  refine ⟨x', hO, hd, fun j hj => hs j (by omega), ?_, hC⟩
  have := V_rest (x := sh x off) (x' := sh x' off) hkm (fun j hj => hs _ (by omega))
  rw [V_zx y n k hnk] at hv
  omega
theorem subRel_room {b off n m N k : Nat} {x y : Nat → Int} {w w' : World} (hkm : k ≤ m) (hnk : n ≤ k) (hf : V y n ≤ V (sh x off) m) {c : Int} (hc : c ≠ 0) (h : SubRel b off N x (zx y n) w k c w') : k < m := by
  obtain ⟨x', hO, hd, hs, hv, c0, c1, hC⟩ := h
  rcases Nat.lt_or_ge k m with g | g
  · exact g
  · obtain rfl : k = m := by omega
    obtain rfl : c = 1 := by omega
    rw [V_zx y n k hnk] at hv
    have := V_lt (hd.sh off) k
    omega

set_option maxHeartbeats 1600000 in
theorem takeFrom_any (b off n m N cap cap2 : Nat) (a : Option Addr) (x y : Nat → Int) (w : World) (hm : n ≤ m) (hN : off + m ≤ N) (hn : m ≤ 1000000000)
    (hx : Dg x) (hy : Dg y) (hO : Own w b N x) (hr : Sl w a n y) (hne : 0 < n → ∀ c o, a = some ⟨c, o, none⟩ → c ≠ b) (hf : V y n ≤ V (sh x off) m) :
    Calls Tryd.prog 66 #[.slice (some ⟨b, off, none⟩) m cap, .slice a n cap2] w fun e w' =>
      e = .returned (.tuple #[]) ∧ Added b off m N x (V (sh x off) m - V y n) w w' := by
  have HX := Lib.hid hx
  have HY := Lib.hid hy
  have HF := Lib.hid hf
  have HR := Lib.hid hr
  have HN := Lib.hid hne
  have h0 : Hid (SubRel b off N x (zx y n) w 0 0 w) := ⟨x, hO, hx, fun _ _ => rfl, by simp [V_zero], by omega, by omega, Chg.refl _ _⟩
  clear hr hne hx hy hO hf
  go_enter Tryd.func66, Tryd.ntmps66
  go_wp2_with fail
  go_loopw [4, 10] (fun c i wr => ∃ (k : Nat) (cc : Int), k ≤ n ∧ i = .int .i64 k ∧ c = .int .u32 cc ∧ Hid (SubRel b off N x (zx y n) w k cc wr)) (fun _ i _ => n - (intOf i).toNat)
  case atStart => exact ⟨0, 0, by omega, rfl, rfl, h0⟩
  case round =>
    obtain ⟨k, cc, hk, rfl, rfl, A⟩ := hrel
    clear h0
    by_cases hlt : k < n
    · obtain ⟨d, o, rfl, hrow⟩ := HR.out (by omega)
      have hdb := HN.out (by omega) d o rfl
      obtain ⟨x', hO', hd', hs', hv', c0, c1, hC'⟩ := A.out
      have g1 : wr.cell? ⟨d, o + k, none⟩ = some (.int .u32 (y k)) := (hrow.chg hC' hdb) k hlt
      have g2 : wr.cell? ⟨b, off + k, none⟩ = some (.int .u32 (x (off + k))) := by rw [← hs' (off + k) (by omega)]; exact hO'.cell (by omega)
      have g3 : wr.frozen? ⟨b, off + k, none⟩ = false := hO'.free _
      have S : Hid _ := subRel_step A.out HX.out (HY.out.zx n) (show off + k < N by omega)
      rw [zx_in hlt] at S
      have b1 := HX.out (off + k)
      have b2 := HY.out k
      clear A hO' hd' hs' hv' hC' HR HN HX HY HF hrow
      generalize x (off + k) = xk at *
      generalize y k = yk at *
      go_wp2_with (go_at_call 80; refine (sub32 _ _ _ b1 b2 ⟨c0, c1⟩ _).mono ?_; rintro e w' ⟨rfl, rfl⟩)
      go_roundw
      case rel => exact ⟨k + 1, _, by omega, rfl, rfl, S⟩
      case measure => simp [intOf] <;> omega
    · obtain rfl : k = n := by omega
      clear HR HN
      go_wp2_with fail
      go_loopw [4, 7] (fun c i wr => ∃ (j : Nat) (cc : Int), k ≤ j ∧ j ≤ m ∧ i = .int .i64 j ∧ c = .int .u32 cc ∧ Hid (SubRel b off N x (zx y k) w j cc wr)) (fun _ i _ => m - (intOf i).toNat)
      case atStart => exact ⟨k, cc, by omega, by omega, rfl, rfl, A⟩
      case round =>
        clear A
        obtain ⟨j, cc, hk, hkm, rfl, rfl, A⟩ := hrel
        rename_i wr2 _
        by_cases hc : cc = 0
        · subst hc
          go_wp2_with fail
          go_end0
          exact ⟨rfl, subbed_of hkm hk A.out⟩
        · have hlt := subRel_room hkm hk HF.out hc A.out
          obtain ⟨x', hO', hd', hs', hv', c0, c1, hC'⟩ := A.out
          have g2 := (hO'.cell (j := off + j) (by omega)).trans (by rw [hs' (off + j) (by omega)])
          have g3 := hO'.free (off + j)
          have S : Hid _ := subRel_step A.out HX.out (HY.out.zx k) (show off + j < N by omega)
          rw [zx_out hk] at S
          have b1 := HX.out (off + j)
          clear A hO' hd' hs' hv' hC' HX HY HF
          generalize x (off + j) = xk at *
          have z1 : xk - 0 - cc = xk - cc := by omega
          rw [z1] at S
          have AD := Lib.hid (fun w => sub32 xk 0 cc b1 (by omega) ⟨c0, c1⟩ w)
          rw [z1] at AD
          clear z1
          go_wp2_with (go_at_call 80; refine (AD.out _).mono ?_; rintro e w' ⟨rfl, rfl⟩)
          go_roundw
          case rel => exact ⟨j + 1, _, by omega, by omega, rfl, rfl, S⟩
          case measure => simp [intOf] <;> omega
end Go.Proofs.YtkhchaoehlefdaaDoor
