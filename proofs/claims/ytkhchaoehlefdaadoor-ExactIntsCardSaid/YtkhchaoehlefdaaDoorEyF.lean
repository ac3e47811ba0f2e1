/- Contract: guessQuotient. -/
import Derived.Test.YtkhchaoehlefdaaDoorEyE
set_option linter.unusedVariables false
set_option linter.unusedSimpArgs false
namespace Go.Proofs.YtkhchaoehlefdaaDoor
open Go.RowKit

/-! ### How good Knuth's guess is -/
theorem guess_upper {K v1 v2 v' t2 u' top q v u : Int} (hK : 0 < K) (hv' : 0 ≤ v') (hu' : u' < K)
    (hv : v = (v1 * 4294967296 + v2) * K + v') (hu : u = (top * 4294967296 + t2) * K + u') (hq : q * v ≤ u) (q0 : 0 ≤ q) : q * (v1 * 4294967296 + v2) ≤ top * 4294967296 + t2 := by
  have h1 : q * ((v1 * 4294967296 + v2) * K) ≤ q * v := Int.mul_le_mul_of_nonneg_left (by omega) q0
  have h2 : q * (v1 * 4294967296 + v2) * K < (top * 4294967296 + t2 + 1) * K := by
    have : q * ((v1 * 4294967296 + v2) * K) = q * (v1 * 4294967296 + v2) * K := by rw [Int.mul_assoc]
    have : (top * 4294967296 + t2 + 1) * K = (top * 4294967296 + t2) * K + K := by rw [Int.add_mul, Int.one_mul]
    omega
  have := Int.lt_of_mul_lt_mul_right h2 (by omega)
  omega
theorem guess_dec {v1 v2 t2 top g r q : Int} (hv1 : 0 < v1) (hv2 : 0 ≤ v2) (he : g * v1 + r = top) (hq : q * (v1 * 4294967296 + v2) ≤ top * 4294967296 + t2) (hc : r * 4294967296 + t2 < g * v2) : q < g := by
  by_cases h : q < g
  · exact h
  · exfalso
    have h1 : g * (v1 * 4294967296 + v2) ≤ q * (v1 * 4294967296 + v2) := Int.mul_le_mul_of_nonneg_right (by omega) (by omega)
    subst he
    grind
theorem guess_last {K v1 v2 v' t2 u' top g r v u : Int} (hK : 0 < K) (hv' : v' < K) (hu' : 0 ≤ u')
    (hv : v = (v1 * 4294967296 + v2) * K + v') (hu : u = (top * 4294967296 + t2) * K + u') (he : g * v1 + r = top) (hc : g * v2 ≤ r * 4294967296 + t2) (hg : 1 ≤ g) (hgb : g ≤ v1 * 4294967296 + v2) : (g - 1) * v ≤ u := by
  have h1 : (g - 1) * v ≤ (g - 1) * ((v1 * 4294967296 + v2) * K + K) := Int.mul_le_mul_of_nonneg_left (by omega) (by omega)
  have h2 : (g - 1) * ((v1 * 4294967296 + v2) * K + K) = ((g - 1) * (v1 * 4294967296 + v2 + 1)) * K := by grind
  have h3 : (g - 1) * (v1 * 4294967296 + v2 + 1) ≤ top * 4294967296 + t2 := by
    subst he
    have : (g - 1) * (v1 * 4294967296 + v2 + 1) = g * (v1 * 4294967296 + v2) + g - (v1 * 4294967296 + v2) - 1 := by grind
    have : g * (v1 * 4294967296 + v2) = (g * v1) * 4294967296 + g * v2 := by grind
    have : (g * v1 + r) * 4294967296 = (g * v1) * 4294967296 + r * 4294967296 := by grind
    omega
  have h4 := Int.mul_le_mul_of_nonneg_right h3 (Int.le_of_lt hK)
  omega

/-- What is true between two rounds of the guess. -/
def GI (v1 v2 top t2 g r : Int) : Prop := g * v1 + r = top ∧ 0 ≤ g ∧ 0 ≤ r ∧ r ≤ 4294967295 ∧ ∀ q, 0 ≤ q → q ≤ 4294967295 → q * (v1 * 4294967296 + v2) ≤ top * 4294967296 + t2 → q ≤ g
/-- What the guess is in the end. -/
def GF (v1 v2 top t2 g : Int) : Prop := ∃ r, g * v1 + r = top ∧ 0 ≤ g ∧ g ≤ 4294967295 ∧ g * v2 ≤ r * 4294967296 + t2 ∧ ∀ q, 0 ≤ q → q ≤ 4294967295 → q * (v1 * 4294967296 + v2) ≤ top * 4294967296 + t2 → q ≤ g

theorem gi_start {v1 v2 top t2 : Int} (hv1 : 2147483648 ≤ v1 ∧ v1 ≤ 4294967295) (hv2 : 0 ≤ v2) (ht : 0 ≤ top) (ht2 : 0 ≤ t2 ∧ t2 ≤ 4294967295) : GI v1 v2 top t2 (top / v1) (top % v1) := by
  have r0 := Int.emod_nonneg top (show v1 ≠ 0 by omega)
  have r1 := Int.emod_lt_of_pos top (show 0 < v1 by omega)
  have e := Int.mul_ediv_add_emod top v1
  refine ⟨by rw [Int.mul_comm]; exact e, Int.ediv_nonneg ht (by omega), r0, by omega, fun q q0 q1 hq => ?_⟩
  have h1 : q * (v1 * 4294967296) ≤ q * (v1 * 4294967296 + v2) := Int.mul_le_mul_of_nonneg_left (by omega) q0
  have h2 : q * v1 * 4294967296 < (top + 1) * 4294967296 := by
    have : q * (v1 * 4294967296) = q * v1 * 4294967296 := by rw [Int.mul_assoc]
    omega
  have h3 : q * v1 ≤ top := by have := Int.lt_of_mul_lt_mul_right h2 (by omega); omega
  exact (Int.le_ediv_iff_mul_le (by omega)).2 h3
/-- A round that makes the guess less. -/
theorem gi_next {v1 v2 top t2 g r : Int} (h : GI v1 v2 top t2 g r) (hv1 : 0 < v1) (hv2 : 0 ≤ v2) (hc : 4294967296 ≤ g ∨ r * 4294967296 + t2 < g * v2) (q : Int) (q0 : 0 ≤ q) (q1 : q ≤ 4294967295) (hq : q * (v1 * 4294967296 + v2) ≤ top * 4294967296 + t2) : q ≤ g - 1 := by
  rcases hc with hc | hc
  · omega
  · have := guess_dec hv1 hv2 h.1 hq hc
    omega
theorem gi_pos {v1 v2 top t2 g r : Int} (h : GI v1 v2 top t2 g r) (ht2 : 0 ≤ t2) (hc : 4294967296 ≤ g ∨ r * 4294967296 + t2 < g * v2) : 1 ≤ g := by
  rcases hc with hc | hc
  · omega
  · obtain ⟨_, g0, r0, _⟩ := h
    by_cases h0 : g = 0
    · subst h0; rw [Int.zero_mul] at hc; omega
    · omega
theorem gi_more {v1 v2 top t2 g r : Int} (h : GI v1 v2 top t2 g r) (hv1 : 0 < v1) (hv2 : 0 ≤ v2) (ht2 : 0 ≤ t2) (hc : 4294967296 ≤ g ∨ r * 4294967296 + t2 < g * v2) (hr : r + v1 ≤ 4294967295) : GI v1 v2 top t2 (g - 1) (r + v1) := by
  have hg := gi_pos h ht2 hc
  have hn := gi_next h hv1 hv2 hc
  obtain ⟨e, g0, r0, r1, _⟩ := h
  exact ⟨by rw [Int.sub_mul]; omega, by omega, by omega, hr, hn⟩
theorem gi_stop {v1 v2 top t2 g r : Int} (h : GI v1 v2 top t2 g r) (hv1 : 0 < v1 ∧ v1 ≤ 4294967295) (hv2 : 0 ≤ v2 ∧ v2 ≤ 4294967295) (ht2 : 0 ≤ t2) (htop : top < (v1 + 1) * 4294967296) (hc : 4294967296 ≤ g ∨ r * 4294967296 + t2 < g * v2) (hr : 4294967296 ≤ r + v1) : GF v1 v2 top t2 (g - 1) := by
  have hg := gi_pos h ht2 hc
  have hn := gi_next h hv1.1 hv2.1 hc
  obtain ⟨e, g0, r0, r1, _⟩ := h
  have e1 : (g - 1) * v1 + (r + v1) = top := by rw [Int.sub_mul]; omega
  have h1 : (g - 1) * v1 < 4294967296 * v1 := by
    rw [Int.add_mul] at htop
    rw [Int.mul_comm 4294967296]
    omega
  have h2 : g - 1 < 4294967296 := Int.lt_of_mul_lt_mul_right h1 (by omega)
  refine ⟨r + v1, e1, by omega, by omega, ?_, hn⟩
  have h3 : (g - 1) * v2 ≤ 4294967295 * 4294967295 := Int.mul_le_mul (by omega) hv2.2 hv2.1 (by omega)
  omega
theorem gi_end {v1 v2 top t2 g r : Int} (h : GI v1 v2 top t2 g r) (h1 : g ≤ 4294967295) (h2 : g * v2 ≤ r * 4294967296 + t2) : GF v1 v2 top t2 g :=
  ⟨r, h.1, h.2.1, h1, h2, h.2.2.2.2⟩

theorem drewN_two (w : World) (n m : Nat) : (w.drewN n).drewN m = w.drewN (n + m) := by simp [World.drewN, Nat.add_assoc]
set_option maxHeartbeats 3200000 in
theorem guess_walk (b off j m cap cap2 : Nat) (d o : Nat) (v1 v2 t0 t1 t2 : Int) (w : World) (hm : j + 2 < m) (hmm : m ≤ 1000000000)
    (hv1 : 2147483648 ≤ v1 ∧ v1 ≤ 4294967295) (hv2 : 0 ≤ v2 ∧ v2 ≤ 4294967295) (ht0 : 0 ≤ t0 ∧ t0 ≤ 4294967295) (ht1 : 0 ≤ t1 ∧ t1 ≤ 4294967295) (ht2 : 0 ≤ t2 ∧ t2 ≤ 4294967295)
    (g1 : w.cell? ⟨d, o + (j + 1), none⟩ = some (.int .u32 v1)) (g2 : w.cell? ⟨d, o + j, none⟩ = some (.int .u32 v2))
    (g3 : w.cell? ⟨b, off + (j + 2), none⟩ = some (.int .u32 t0)) (g4 : w.cell? ⟨b, off + (j + 1), none⟩ = some (.int .u32 t1)) (g5 : w.cell? ⟨b, off + j, none⟩ = some (.int .u32 t2))
    (htop : t0 * 4294967296 + t1 < (v1 + 1) * 4294967296) :
    Calls Tryd.prog 96 #[.slice (some ⟨b, off, none⟩) m cap, .slice (some ⟨d, o, none⟩) (j + 2) cap2] w fun e w' =>
      ∃ g, e = .returned (.int .u32 g) ∧ GF v1 v2 (t0 * 4294967296 + t1) t2 g ∧ ∃ q, w' = w.drewN q := by
  have HT := Lib.hid htop
  clear htop
  have k1 : IntKind.i64.wrap (((j + 2 : Nat) : Int) - 1) = ((j + 1 : Nat) : Int) := by rw [IntWalk.i64_in _ (by omega)]; omega
  have k2 : IntKind.i64.wrap (((j + 2 : Nat) : Int) - 2) = (j : Int) := by rw [IntWalk.i64_in _ (by omega)]; omega
  have s1 : IntKind.u64.wrap (t0 * 4294967296) = t0 * 4294967296 := IntWalk.u64_in _ (by omega)
  have s2 := or_join t0 t1 ht0 ht1
  have p64 : t0 * 4294967296 + t1 ≤ 18446744073709551615 := by omega
  have p0 : 0 ≤ t0 * 4294967296 + t1 := by omega
  have hq0 : (v1 == 0) = false := by simp; omega
  have htm : (t0 * 4294967296 + t1).tmod v1 = (t0 * 4294967296 + t1) % v1 := Int.tmod_eq_emod_of_nonneg p0
  have htd : IntKind.u64.wrap ((t0 * 4294967296 + t1).tdiv v1) = (t0 * 4294967296 + t1) / v1 := IntWalk.u64_quo _ _ ⟨p0, p64, by omega⟩
  have h0 : Hid (GI v1 v2 (t0 * 4294967296 + t1) t2 ((t0 * 4294967296 + t1) / v1) ((t0 * 4294967296 + t1) % v1)) := gi_start hv1 hv2.1 p0 ht2
  obtain ⟨a1, a2⟩ := hv1
  obtain ⟨a3, a4⟩ := hv2
  obtain ⟨a5, a6⟩ := ht0
  obtain ⟨a7, a8⟩ := ht1
  obtain ⟨a9, a10⟩ := ht2
  go_enter Tryd.func96, Tryd.ntmps96
  go_wp2_with fail
  go_quiet (fail)
  go_wp2_with fail
  go_quiet (fail)
  go_wp2_with fail
  go_quiet (fail)
  go_wp2_with fail
  clear k1 s1 s2 hq0 htm htd
  generalize htp : t0 * 4294967296 + t1 = top at *
  have HTP := Lib.hid htp
  clear htp
  go_loopw [9, 10] (fun g r wr => ∃ (gg rr : Int) (z : Nat), g = .int .u64 gg ∧ r = .int .u64 rr ∧ Hid (GI v1 v2 top t2 gg rr) ∧ wr = w.drewN z) (fun g _ _ => (intOf g).toNat)
  case atStart => exact ⟨_, _, _, rfl, rfl, h0, by rw [drewN_two, drewN_two]⟩
  case round =>
    clear h0
    obtain ⟨gg, rr, z, rfl, rfl, A, rfl⟩ := hrel
    have hgt : gg ≤ top := by
      have h1 := A.out.1
      have h2 : gg * 1 ≤ gg * v1 := Int.mul_le_mul_of_nonneg_left (by omega) A.out.2.1
      have h3 := A.out.2.2.1
      omega
    have g0 := A.out.2.1
    have r0 := A.out.2.2.1
    have r1 := A.out.2.2.2.1
    by_cases hA : 4294967296 ≤ gg
    · have hne : (gg / 4294967296 == 0) = false := by simp; omega
      by_cases hR : rr + v1 ≤ 4294967295
      · have S : Hid _ := gi_more A.out (by omega) a3 a9 (Or.inl hA) hR
        have hz : ((rr + v1) / 4294967296 == 0) = true := by simp; omega
        clear A g1 g2 g3 g4 g5 k2
        go_wp2_with fail
        refine ⟨?rel, ?measure⟩
        case rel =>
          exact ⟨_, _, _, _, _, _, _, _, _, _, _, _, _, _, _, _, _, _, _, _, _, _, _, _, _, _, _, _, ⟨_, _, _, rfl, rfl, S, rfl⟩, rfl⟩
        case measure => simp [intOf] <;> omega
      · have F : Hid _ := gi_stop A.out ⟨by omega, a2⟩ ⟨a3, a4⟩ a9 HT.out (Or.inl hA) (by omega)
        have hz : ((rr + v1) / 4294967296 == 0) = false := by simp; omega
        obtain ⟨_, _, f0, f1, _⟩ := id F.out
        clear A g1 g2 g3 g4 g5 k2
        go_wp2_with fail
        go_ret
        exact ⟨gg - 1, ret_int (by omega), by rw [HTP.out]; exact F.out, _, rfl⟩
    · have hne : (gg / 4294967296 == 0) = true := by simp; omega
      obtain ⟨m0, m1⟩ := mul_bounds (a := gg) (b := v2) ⟨g0, by omega⟩ ⟨a3, a4⟩
      have w1 : IntKind.u64.wrap (gg * v2) = gg * v2 := IntWalk.u64_in _ (by omega)
      have w2 : IntKind.u64.wrap (rr * 4294967296) = rr * 4294967296 := IntWalk.u64_in _ (by omega)
      have hor := or_join rr t2 ⟨r0, r1⟩ ⟨a9, a10⟩
      by_cases hB : rr * 4294967296 + t2 < gg * v2
      · have hd : decide (rr * 4294967296 + t2 < gg * v2) = true := decide_eq_true hB
        have hp := gi_pos A.out a9 (Or.inr hB)
        by_cases hR : rr + v1 ≤ 4294967295
        · have S : Hid _ := gi_more A.out (by omega) a3 a9 (Or.inr hB) hR
          have hz : ((rr + v1) / 4294967296 == 0) = true := by simp; omega
          clear A
          go_wp2_with fail
          go_roundw
          case rel => exact ⟨S, _, rfl⟩
          case measure => simp [intOf] <;> omega
        · have F : Hid _ := gi_stop A.out ⟨by omega, a2⟩ ⟨a3, a4⟩ a9 HT.out (Or.inr hB) (by omega)
          have hz : ((rr + v1) / 4294967296 == 0) = false := by simp; omega
          obtain ⟨_, _, f0, f1, _⟩ := id F.out
          clear A
          go_wp2_with fail
          go_ret
          exact ⟨gg - 1, ret_int (by omega), by rw [HTP.out]; exact F.out, _, rfl⟩
      · have hd : decide (rr * 4294967296 + t2 < gg * v2) = false := decide_eq_false hB
        have F : Hid _ := gi_end A.out (by omega) (by omega)
        clear A
        go_wp2_with fail
        go_ret
        exact ⟨gg, ret_int (by omega), by rw [HTP.out]; exact F.out, _, rfl⟩
end Go.Proofs.YtkhchaoehlefdaaDoor
