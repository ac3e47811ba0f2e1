/- Contracts: divideWords; joined words. -/
import Derived.Test.YtkhchaoehlefdaaDoorExJ
namespace Go.Proofs.YtkhchaoehlefdaaDoor
open Go.RowKit

theorem or_join (r x : Int) (hr : 0 ≤ r ∧ r ≤ 4294967295) (hx : 0 ≤ x ∧ x ≤ 4294967295) : bits BinOp.or IntKind.u64 (r * 4294967296) x = r * 4294967296 + x := by
  obtain ⟨r, rfl⟩ := Int.eq_ofNat_of_zero_le hr.1
  obtain ⟨x, rfl⟩ := Int.eq_ofNat_of_zero_le hx.1
  have e : ((r : Int) * 4294967296) = ((r * 4294967296 : Nat) : Int) := by omega
  rw [e, u64_or_nat _ _ (by omega) (by omega), nat_join 32 _ _ (by omega) (by omega)]
  omega

theorem quo_step {xs xo : Int} {r r' q d u : Int} (h : xs * u + r = xo) (e : r * 4294967296 + d = q * u + r') : (q + 4294967296 * xs) * u + r' = d + 4294967296 * xo := by
  grind

/-- What is true between two rounds of divideWords: words from k on are done. -/
def DivRel (b off n N : Nat) (x : Nat → Int) (u : Int) (w : World) (k : Nat) (r : Int) (wr : World) : Prop :=
  ∃ x', Own wr b N x' ∧ Dg x' ∧ (∀ j, j < off + k ∨ off + n ≤ j → x' j = x j) ∧ V (sh x' (off + k)) (n - k) * u + r = V (sh x (off + k)) (n - k) ∧ 0 ≤ r ∧ r < u ∧ Chg b w wr

theorem divRel_step {b off n N : Nat} {x : Nat → Int} {u : Int} {w : World} {k : Nat} {r : Int} {wr : World} (h : DivRel b off n N x u w (k + 1) r wr) (hx : Dg x) (hu : 0 < u ∧ u ≤ 4294967295) (hk : k < n) (hN : off + n ≤ N) :
    DivRel b off n N x u w k ((r * 4294967296 + x (off + k)) % u) (wr.setCell ⟨b, off + k, none⟩ (.int .u32 ((r * 4294967296 + x (off + k)) / u))) := by
  obtain ⟨x', hO, hd, hs, hv, r0, r1, hC⟩ := h
  have a1 := hx (off + k)
  have q0 : 0 ≤ (r * 4294967296 + x (off + k)) / u := Int.ediv_nonneg (by omega) (by omega)
  have q1 : (r * 4294967296 + x (off + k)) / u ≤ 4294967295 := by
    have : (r * 4294967296 + x (off + k)) / u < 4294967296 := Int.ediv_lt_of_lt_mul hu.1 (by omega)
    omega
  have em := Int.mul_ediv_add_emod (r * 4294967296 + x (off + k)) u
  have m0 := Int.emod_nonneg (r * 4294967296 + x (off + k)) (show u ≠ 0 by omega)
  have m1 := Int.emod_lt_of_pos (r * 4294967296 + x (off + k)) hu.1
  refine ⟨upd x' (off + k) ((r * 4294967296 + x (off + k)) / u), hO.set (by omega) _, hd.upd _ q0 q1, fun j hj => ?_, ?_, m0, m1, hC.setCell rfl _⟩
  · rw [upd_other (by omega)]; exact hs j (by omega)
  · obtain ⟨m, hm⟩ : ∃ m, n - k = m + 1 := ⟨n - k - 1, by omega⟩
    rw [show n - (k + 1) = m by omega] at hv
    rw [hm, V_low, V_low (sh x (off + k)), sh_sh, sh_sh]
    have e1 : V (sh (upd x' (off + k) ((r * 4294967296 + x (off + k)) / u)) (off + k + 1)) m = V (sh x' (off + (k + 1))) m := V_congr fun j _ => by
      simp only [sh]; rw [upd_other (by omega)]; congr 1
    have e2 : sh (upd x' (off + k) ((r * 4294967296 + x (off + k)) / u)) (off + k) 0 = (r * 4294967296 + x (off + k)) / u := upd_same _ _ _
    have e3 : sh x (off + k) 0 = x (off + k) := rfl
    rw [e1, e2, e3]
    refine quo_step (r := r) hv ?_
    rw [Int.mul_comm] at em
    exact em.symm

set_option maxHeartbeats 800000 in
theorem divideWords_any (b off n N cap : Nat) (x : Nat → Int) (u : Int) (w : World) (hN : off + n ≤ N) (hn : n ≤ 1000000000) (hx : Dg x) (hu : 0 < u ∧ u ≤ 4294967295) (hO : Own w b N x) :
    Calls Tryd.prog 84 #[.slice (some ⟨b, off, none⟩) n cap, .int .u32 u] w fun e w' =>
      ∃ r, e = .returned (.int .u32 r) ∧ DivRel b off n N x u w 0 r w' := by
  have HX := Lib.hid hx
  have h0 : Hid (DivRel b off n N x u w n 0 w) := ⟨x, hO, hx, fun _ _ => rfl, by simp [V_zero], by omega, hu.1, Chg.refl _ _⟩
  obtain ⟨u0, u1⟩ := hu
  clear hx hO
  go_enter Tryd.func84, Tryd.ntmps84
  go_wp2_with fail
  go_loopw [5, 6] (fun c i wr => ∃ (k : Nat) (r : Int), k ≤ n ∧ i = .int .i64 ((k : Int) - 1) ∧ c = .int .u64 r ∧ Hid (DivRel b off n N x u w k r wr)) (fun _ i _ => (intOf i + 1).toNat)
  case atStart => exact ⟨n, 0, by omega, by go_num, rfl, h0⟩
  case round =>
    clear h0
    obtain ⟨k, r, hk, rfl, rfl, A⟩ := hrel
    obtain ⟨x', hO', hd', hs', hv', c0, c1, hC'⟩ := A.out
    by_cases hk0 : 0 < k
    · obtain ⟨j, rfl⟩ : ∃ j, k = j + 1 := ⟨k - 1, by omega⟩
      have g2 : wr.cell? ⟨b, off + j, none⟩ = some (.int .u32 (x (off + j))) := by rw [← hs' (off + j) (by omega)]; exact hO'.cell (by omega)
      have g3 : wr.frozen? ⟨b, off + j, none⟩ = false := hO'.free _
      have S : Hid _ := divRel_step A.out HX.out ⟨u0, u1⟩ (show j < n by omega) hN
      obtain ⟨b1, b2⟩ := HX.out (off + j)
      clear A hO' hd' hs' hv' hC' HX
      generalize x (off + j) = xk at *
      have hor := or_join r xk ⟨c0, by omega⟩ ⟨b1, b2⟩
      have q0 : 0 ≤ (r * 4294967296 + xk) / u := Int.ediv_nonneg (by omega) (by omega)
      have q1 : (r * 4294967296 + xk) / u < 4294967296 := Int.ediv_lt_of_lt_mul u0 (by omega)
      have m0 := Int.emod_nonneg (r * 4294967296 + xk) (show u ≠ 0 by omega)
      have m1 := Int.emod_lt_of_pos (r * 4294967296 + xk) u0
      go_wp2_with fail
      go_roundw
      case rel => exact ⟨j, _, by omega, rfl, rfl, S⟩
      case measure => simp [intOf] <;> omega
    · obtain rfl : k = 0 := by omega
      clear HX hO' hd' hs' hv' hC'
      go_wp2_with fail
      go_ret
      exact ⟨_, ret_int (by omega), A.out⟩
end Go.Proofs.YtkhchaoehlefdaaDoor
