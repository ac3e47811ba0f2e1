/- Contract: shiftRight. -/
import Derived.Test.YtkhchaoehlefdaaDoorEyC
set_option linter.unusedVariables false
set_option linter.unusedSimpArgs false
namespace Go.Proofs.YtkhchaoehlefdaaDoor
open Go.RowKit

/-- One word of a shifted number. -/
theorem right_word {X Y T y S : Int} (hS : 0 < S) (hd : 4294967296 % S = 0) (hX : X = y + 4294967296 * Y) (hy : 0 ≤ y ∧ y ≤ 4294967295) (hT : Y % S = T % S) (hT0 : 0 ≤ T) :
    X / S = (T * 4294967296 + y) / S % 4294967296 + 4294967296 * (Y / S) := by
  obtain ⟨M, hM⟩ : ∃ M, (4294967296 : Int) = S * M := ⟨4294967296 / S, by rw [Int.mul_ediv_cancel' (Int.dvd_of_emod_eq_zero hd)]⟩
  have a1 := Int.mul_ediv_add_emod Y S
  have a2 := Int.mul_ediv_add_emod T S
  have r0 := Int.emod_nonneg T (show S ≠ 0 by omega)
  have r1 := Int.emod_lt_of_pos T hS
  rw [hT] at a1
  generalize T % S = r at *
  generalize Y / S = q at *
  generalize T / S = t at *
  have e1 : X = (y + 4294967296 * r) + S * (4294967296 * q) := by rw [hX, ← a1, Int.mul_add, ← Int.mul_assoc, Int.mul_comm 4294967296 S, Int.mul_assoc]; omega
  have e2 : T * 4294967296 + y = (y + 4294967296 * r) + S * (4294967296 * t) := by rw [← a2, Int.add_mul, Int.mul_assoc, Int.mul_comm t 4294967296]; omega
  rw [e1, e2, Int.add_mul_ediv_left _ _ (by omega), Int.add_mul_ediv_left _ _ (by omega), Int.add_mul_emod_self_left]
  have b0 : 0 ≤ (y + 4294967296 * r) / S := Int.ediv_nonneg (by omega) (by omega)
  have b1 : (y + 4294967296 * r) / S < 4294967296 := by
    refine Int.ediv_lt_of_lt_mul hS ?_
    have : 4294967296 * (r + 1) ≤ 4294967296 * S := Int.mul_le_mul_of_nonneg_left (by omega) (by omega)
    omega
  rw [Int.emod_eq_of_lt b0 b1]

/-- The word behind which a round stands. -/
def topW (x : Nat → Int) (m k : Nat) : Int := if k < m then x k else 0
theorem topW_mod {x : Nat → Int} {m k : Nat} {S : Int} (hk : k ≤ m) (hS : 0 < S) (hd : 4294967296 % S = 0) : V (sh x k) (m - k) % S = topW x m k % S := by
  unfold topW
  by_cases h : k < m
  · rw [if_pos h]
    obtain ⟨d, hd'⟩ : ∃ d, m - k = 1 + d := ⟨m - k - 1, by omega⟩
    obtain ⟨M, hM⟩ : ∃ M, (4294967296 : Int) = S * M := ⟨4294967296 / S, by rw [Int.mul_ediv_cancel' (Int.dvd_of_emod_eq_zero hd)]⟩
    rw [hd', V_add]
    have e1 : V (sh x k) 1 = x k := by rw [V_succ, V_zero, P_zero]; show 0 + sh x k 0 * 1 = x k; unfold sh; simp
    have e2 : P 1 = S * M := by rw [← hM]; rfl
    rw [e1, e2, Int.mul_assoc, Int.add_mul_emod_self_left]
  · have : m - k = 0 := by omega
    rw [if_neg h, this, V_zero]

/-- What is true between two rounds of shiftRight: words from k on are done. -/
def RightRel (B m : Nat) (x : Nat → Int) (S : Int) (w : World) (k : Nat) (A : Int) (wr : World) : Prop :=
  ∃ z, Own wr B m z ∧ Dg z ∧ V (sh z k) (m - k) = V (sh x k) (m - k) / S ∧ 0 ≤ A ∧ A ≤ 18446744073709551615 ∧ A % 4294967296 = topW x m k ∧ Below w.heap.size w wr

theorem rightRel_step {B m : Nat} {x : Nat → Int} {S : Int} {w wr : World} {k : Nat} {A : Int} (h : RightRel B m x S w (k + 1) A wr) (hx : Dg x) (hS : 0 < S) (hd : 4294967296 % S = 0) (hk : k < m) (hB : w.heap.size ≤ B) :
    RightRel B m x S w k (A % 4294967296 * 4294967296 + x k) (wr.setCell ⟨B, k, none⟩ (.int .u32 ((A % 4294967296 * 4294967296 + x k) / S % 4294967296))) := by
  obtain ⟨z, hO, hz, hv, a0, a1, ht, hb⟩ := h
  have b := hx k
  have t0 : 0 ≤ A % 4294967296 := by omega
  have t1 : A % 4294967296 < 4294967296 := by omega
  have q0 : 0 ≤ (A % 4294967296 * 4294967296 + x k) / S % 4294967296 := by omega
  refine ⟨upd z k ((A % 4294967296 * 4294967296 + x k) / S % 4294967296), hO.set hk _, hz.upd _ q0 (by omega), ?_, by omega, by omega, ?_, hb.setCell (p := ⟨B, k, none⟩) hB _⟩
  · obtain ⟨d, hd'⟩ : ∃ d, m - k = 1 + d := ⟨m - k - 1, by omega⟩
    have hd2 : m - (k + 1) = d := by omega
    rw [hd2] at hv
    have one : ∀ y : Nat → Int, V (sh y k) 1 = y k := fun y => by rw [V_succ, V_zero, P_zero]; show 0 + sh y k 0 * 1 = y k; unfold sh; simp
    have sh2 : ∀ y : Nat → Int, sh (sh y k) 1 = sh y (k + 1) := fun y => by funext j; unfold sh; rw [Nat.add_assoc]
    have e4 : V (sh (upd z k ((A % 4294967296 * 4294967296 + x k) / S % 4294967296)) (k + 1)) d = V (sh z (k + 1)) d := V_congr fun j hj => by unfold sh; exact upd_other (by omega)
    have hP : P 1 = 4294967296 := rfl
    rw [hd', V_add, V_add, one, one, sh2, sh2, e4, hv, upd_same, hP]
    have hm := topW_mod (x := x) (m := m) (k := k + 1) (S := S) (by omega) hS hd
    rw [hd2, ← ht] at hm
    exact (right_word hS hd rfl b hm t0).symm
  · unfold topW
    rw [if_pos hk]
    omega

set_option maxHeartbeats 1600000 in
set_option maxRecDepth 100000 in
theorem shiftRight_nr {w : World} {u : Value} {n : Nat} {p : Int} (by' : Nat) (hu : Nr w u n p) (hn : n ≤ 1000000) (hby : by' ≤ 1000000) :
    Calls Tryd.prog 95 #[u, .int .i64 by'] w fun e w' => ∃ v k, e = .returned v ∧ Nt w' w.heap.size v k (p / 2 ^ by') ∧ k ≤ n ∧ Below w.heap.size w w' := by
  have hlt := hu.lt
  have hge := hu.nonneg
  obtain ⟨a, cap, x, rfl, hc, hx, hr, ht, rfl⟩ := hu
  have HX := Lib.hid hx
  have HR := Lib.hid hr
  have e1 : ((by' : Int)).tdiv 32 = ((by' / 32 : Nat) : Int) := by rw [Int.tdiv_eq_ediv_of_nonneg (by omega)]; omega
  have e2 : ((by' : Int)).tmod 32 = ((by' % 32 : Nat) : Int) := by rw [Int.tmod_eq_emod_of_nonneg (by omega)]; omega
  have hs1 : by' / 32 ≤ 1000000 := by omega
  have hs2 : by' % 32 < 32 := by omega
  have HE := Lib.hid (pow_split by')
  generalize hsk : by' / 32 = sk at *
  generalize hsb : by' % 32 = sb at *
  have HK := Lib.hid (And.intro hsk hsb)
  clear hsk hsb
  have p0 : (0 : Int) < 2 ^ sb := Int.pow_pos (by decide)
  by_cases h0 : n ≤ sk
  · have HZ := Lib.hid (show V x n / 2 ^ by' = 0 by
      refine Int.ediv_eq_zero_of_lt hge ?_
      rw [HE.out]
      have h1 := P_mono h0
      have h2 := P_pos sk
      have h3 : P sk * 1 ≤ P sk * 2 ^ sb := Int.mul_le_mul_of_nonneg_left (by omega) (by omega)
      omega)
    clear hx hr ht hlt hge p0
    go_enter Tryd.func95, Tryd.ntmps95
    go_wp2_with fail
    go_ret
    exact ⟨_, 0, rfl, by rw [HZ.out]; exact nt_nil _ _, by omega, Below.refl _ _⟩
  · have hdv : (4294967296 : Int) % 2 ^ sb = 0 := by
      have : (4294967296 : Int) = 2 ^ sb * 2 ^ (32 - sb) := by rw [← Int.pow_add, show sb + (32 - sb) = 32 by omega]; rfl
      rw [this]; exact Int.mul_emod_right _ _
    have HS := Lib.hid p0
    have HD := Lib.hid hdv
    have HZ := Lib.hid (show V x n / 2 ^ by' = V (sh x sk) (n - sk) / 2 ^ sb by
      rw [HE.out, ← Int.ediv_ediv_of_nonneg (by have := P_pos sk; omega)]
      congr 1
      have e : V x n = V x sk + P sk * V (sh x sk) (n - sk) := by rw [← V_add]; congr 1; omega
      rw [e, Int.add_mul_ediv_left _ _ (by have := P_pos sk; omega), Int.ediv_eq_zero_of_lt (V_nonneg hx sk) (V_lt hx sk), Int.zero_add])
    have HY := Lib.hid (show Dg (sh x sk) from fun j => hx (sk + j))
    have hm0 : 0 < n - sk := by omega
    obtain ⟨m, rfl⟩ : ∃ m, n = m + sk := ⟨n - sk, by omega⟩
    have hmm : m + sk - sk = m := by omega
    have HM := Lib.hid hmm
    clear hx hr ht hlt hge p0 hdv
    go_enter Tryd.func95, Tryd.ntmps95
    go_wp2_with (at_make; refine make32 rfl _ _ _ rfl (by kernel_rfl) m _ _ rfl rfl (by omega) (by omega) (by omega) ?_; intro w1 hO hB)
    have hs0 : Hid (RightRel w.heap.size m (sh x sk) (2 ^ sb) w m 0 w1) := ⟨_, hO, Dg_zero, by rw [Nat.sub_self, V_zero, V_zero]; simp, by omega, by omega, by unfold topW; rw [if_neg (by omega)]; rfl, hB⟩
    clear hO hB
    go_loopw [7, 8] (fun c i wr => ∃ (k : Nat) (A : Int), k ≤ m ∧ i = .int .i64 ((k : Int) - 1) ∧ c = .int .u64 A ∧ Hid (RightRel w.heap.size m (sh x sk) (2 ^ sb) w k A wr)) (fun _ i _ => (intOf i + 1).toNat)
    case atStart => exact ⟨m, 0, by omega, by go_num, rfl, hs0⟩
    case round =>
      clear hs0
      obtain ⟨k, A, hk, rfl, rfl, R⟩ := hrel
      by_cases hk0 : 0 < k
      · obtain ⟨j, rfl⟩ : ∃ j, k = j + 1 := ⟨k - 1, by omega⟩
        have S := Lib.hid (rightRel_step R.out HY.out HS.out HD.out (show j < m by omega) (Nat.le_refl _))
        obtain ⟨z, hO, hz, hv, a0, a1, hT, hB⟩ := R.out
        obtain ⟨d, o, rfl, hrow⟩ := HR.out (by omega)
        have g1 : wr.cell? ⟨d, o + (j + sk), none⟩ = some (.int .u32 (sh x sk j)) := by
          have := (hrow.below hB) (j + sk) (by omega)
          rw [this]; unfold sh; rw [Nat.add_comm]
        have g2 : wr.cell? ⟨w.heap.size, j, none⟩ = some (.int .u32 (z j)) := by simpa using hO.cell (j := j) (by omega)
        have g3 : wr.frozen? ⟨w.heap.size, j, none⟩ = false := by simpa using hO.free j
        obtain ⟨b1, b2⟩ := HY.out j
        have hw : IntKind.u64.wrap (A * 4294967296) = A % 4294967296 * 4294967296 := by rw [IntKind.wrap_u64]; omega
        have hor := or_join (A % 4294967296) (sh x sk j) ⟨by omega, by omega⟩ ⟨b1, b2⟩
        clear R hO hz hv hT hB hrow HR HX HY
        generalize sh x sk j = xj at *
        generalize z j = zj at *
        go_wp2_with fail
        go_roundw
        case rel => exact ⟨j, _, by omega, rfl, rfl, S⟩
        case measure => simp [intOf] <;> omega
      · obtain rfl : k = 0 := by omega
        obtain ⟨z, hO, hz, hv, a0, a1, hT, hB⟩ := R.out
        have HV := Lib.hid hv
        have HO := Lib.hid hO
        have HB := Lib.hid hB
        clear hv hT hB
        go_wp2_with fail
        refine (trim_any _ m _ z wr (by omega) (by omega) (sl_own hO (by omega))).mono ?_
        rintro e w4 ⟨rfl, rfl⟩
        go_wp2_with fail
        go_ret
        have hl := tl_le z m
        refine ⟨_, tl z m, rfl, ?_, by omega, HB.out⟩
        have := nt_of_trim HO.out hz (Nat.le_refl w.heap.size) (Nat.le_refl m) (Nat.le_refl m)
        have e := HV.out
        rw [sh_zero, sh_zero, Nat.sub_zero] at e
        rw [HZ.out, HM.out, ← e]
        exact this
end Go.Proofs.YtkhchaoehlefdaaDoor
