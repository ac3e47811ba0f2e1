/- The iterator over groups of digits. -/
import Derived.RangeFuncNested
import Derived.RangeFuncBound
import Derived.RangeFuncCalls
import Derived.RangeFuncLeaves
import Derived.WalkKit
import Derived.OwnWalkIn
import Derived.TacticsInMore
import Derived.LoopNIn
import Derived.LoopIn
import Derived.Sort.LoopGhostIn
import Derived.Test.YtpkjpepnjlcgoaaDoorExK
namespace Go.Proofs.YtpkjpepnjlcgoaaDoor
open Go.RowKit
attribute [local go_sem] Oper.semAt_some

/-- The size of i groups. -/
def G9 (i : Nat) : Int := 1000000000 ^ i
theorem G9_zero : G9 0 = 1 := rfl
theorem G9_pos (i : Nat) : 0 < G9 i := Int.pow_pos (by decide)
theorem ediv_pow (z : Int) (i : Nat) : z / G9 i / 1000000000 = z / G9 (i + 1) := by
  unfold G9
  rw [Int.pow_succ, Int.ediv_ediv_of_nonneg (Int.pow_nonneg (by decide))]
/-- What is left of the number after i groups, in words of the iterator's own. -/
def Rest (w : World) (z : Int) (i k : Nat) (v : Value) (wr : World) : Prop :=
  ∃ b N cap x, v = .slice (some ⟨b, 0, none⟩) k cap ∧ k ≤ cap ∧ k ≤ N ∧ w.heap.size ≤ b ∧ Own wr b N x ∧ Dg x ∧ V x k = z / G9 i ∧ (0 < k → x (k - 1) ≠ 0)
/-- Blocks from B on lie as they lay. -/
def Kept (B : Nat) (w w' : World) : Prop := w.heap.size ≤ w'.heap.size ∧ ∀ k, B ≤ k → k < w.heap.size → w'.heap[k]? = w.heap[k]?

set_option maxHeartbeats 800000 in
theorem groups_in (l pb n cap : Nat) (a : Option Addr) (z : Int) (w : World) (hp : w.cell? ⟨pb, 0, none⟩ = some (.slice a n cap)) (hz : Nr w (.slice a n cap) n z) (hn : n ≤ 100000000) (hpos : 0 < z)
    (J : Nat → World → Prop) (Jx : World → Prop) (hJ : ∀ i w1 w2, J i w1 → Below w.heap.size w1 w2 → J i w2) (hJx : ∀ w1 w2, Jx w1 → Below w.heap.size w1 w2 → Jx w2)
    (hY : ∀ i w1 s k, J i w1 → w.heap.size ≤ w1.heap.size → Nr w1 s k (z / G9 (i + 1)) → k ≤ n → 0 < z / G9 i →
      YieldAt Fence.wide 3 Tryd.prog l #[.int .u32 (z / G9 i % 1000000000), s] w1 fun e w' =>
        (e = .returned (.bool true) ∧ J (i + 1) w' ∧ Kept w.heap.size w1 w' ∧ 0 < z / G9 (i + 1)) ∨ (e = .returned (.bool false) ∧ Jx w'))
    (h0 : J 0 w) :
    CallsIn Fence.wide 4 Tryd.prog 86 #[.func (.yield l) #[] #[], .pointer (some ⟨pb, 0, none⟩)] w fun e w' => e = .returned (.tuple #[]) ∧ Jx w' := by
  refine callsIn_of_wp Tryd.func86 rfl trivial ?_ rfl
  simp only [Tryd.ntmps86, List.size_toArray, List.length_cons, List.length_nil, Nat.reduceAdd, Nat.reduceSub, Array.replicate_succ, Array.replicate_zero, List.push_toArray, List.append_toArray, List.nil_append, List.cons_append]
  have HY := Lib.hid hY
  have HJ := Lib.hid hJ
  have HJx := Lib.hid hJx
  have H0 := Lib.hid h0
  have HZ := Lib.hid hz
  clear hY hJ hJx h0 hz
  gi_wp2_with fail
  refine ⟨trivial, callsIn_wide.2 ((fresh_nr HZ.out (by omega)).mono ?_)⟩
  rintro e w1 ⟨v, rfl, hN, hB⟩
  have R0 : Hid (∃ k : Nat, k ≤ n ∧ Rest w z 0 k v w1) := by
    obtain ⟨x, ⟨a', cap', rfl, hc, hd, hO⟩, hv, ht⟩ := hN
    have h0 : 0 < n := by
      rcases Nat.eq_zero_or_pos n with g | g
      · subst g; rw [V_zero] at hv; omega
      · exact g
    obtain ⟨b, N, rfl, hb, hN, hO⟩ := hO h0
    exact ⟨n, Nat.le_refl _, ⟨b, N, cap', x, rfl, hc, hN, hb, hO, hd, by rw [G9_zero, Int.ediv_one]; exact hv, ht⟩⟩
  have J0 : Hid (J 0 w1) := HJ.out 0 w w1 H0.out hB
  have S0 : w.heap.size ≤ w1.heap.size := hB.size
  clear hN hB H0
  gi_wp2_with fail
  gi_loopg [3] z.toNat (fun g v wr => ∃ i k : Nat, g = (z / G9 i).toNat ∧ 0 < z / G9 i ∧ k ≤ n ∧ Rest w z i k v wr ∧ J i wr ∧ w.heap.size ≤ wr.heap.size)
  case atStart =>
    obtain ⟨k, hk, hR⟩ := R0.out
    exact ⟨0, k, by rw [G9_zero, Int.ediv_one], by rw [G9_zero, Int.ediv_one]; exact hpos, hk, hR, J0.out, S0⟩
  case round =>
    clear R0 J0 S0
    obtain ⟨i, k, rfl, hz0, hk, ⟨b, N, cap', x, rfl, hc, hkN, hb, hO, hd, hv, ht⟩, hJi, hsz⟩ := hrel
    have C := Lib.hid (divideWords_any b 0 k N cap' x 1000000000 wr (by omega) (by omega) hd (by omega) hO)
    have HV := Lib.hid hv
    have HJi := Lib.hid hJi
    clear hv hJi hO ht
    gi_wp2_with fail
    refine ⟨trivial, callsIn_wide.2 (C.out.mono ?_)⟩
    rintro e w2 ⟨r, rfl, x', hO', hd', hs', hv', r0, r1, hC'⟩
    have hv2 : V x' k = z / G9 (i + 1) ∧ r = z / G9 i % 1000000000 := by
      simp only [Nat.zero_add, sh_zero, Nat.sub_zero] at hv'
      rw [HV.out] at hv'
      rw [← ediv_pow]
      generalize z / G9 i = q at *
      constructor <;> omega
    obtain ⟨hv2, hr⟩ := hv2
    have J2 : Hid (J i w2) := HJ.out i wr w2 HJi.out (Chg.below (Below.refl _ _) hC' hsz hb)
    have hsz2 : w.heap.size ≤ w2.heap.size := Nat.le_trans hsz hC'.size
    have hl := tl_le x' k
    have hT := Lib.hid (nt_of_trim hO' hd' hb hkN hc)
    have HV2 := Lib.hid hv2
    have HO := Lib.hid hO'
    subst hr
    clear hv2 hs' hv' C HJi HV hC'
    gi_wp2_with fail
    refine ⟨trivial, callsIn_wide.2 ((trim_any (some ⟨b, 0, none⟩) k cap' x' w2 (by omega) hc (sl_own HO.out hkN)).mono ?_)⟩
    rintro e w3 ⟨rfl, rfl⟩
    obtain ⟨fn, tmps, assign, body, hy, hR⟩ := HY.out i w2 (.slice (some ⟨b, 0, none⟩) (tl x' k) cap') (tl x' k) J2.out hsz2 (by rw [← HV2.out]; exact hT.out.nr) (by omega) hz0
    have HRd := Lib.hid hR
    clear hR HY
    gi_wp2_with fail
    refine HRd.out.mono ?_
    have HG := Lib.hid (ediv_pow z i)
    rintro e w4 (⟨rfl, hJ', hK, hp'⟩ | ⟨rfl, hJx'⟩)
    · have J4 := Lib.hid hJ'
      have hO4 : Hid (Own w4 b N x') := HO.out.same (hK.2 b hb HO.out.lt)
      have hsz4 : w.heap.size ≤ w4.heap.size := Nat.le_trans hsz2 hK.1
      clear hJ' hK HRd hy hO' r0 r1
      gi_wp2_with fail
      gi_roundg (z / G9 (i + 1)).toNat
      case measure => have := HG.out; have := hz0; generalize z / G9 i = q at *; omega
      case rel => exact ⟨i + 1, tl x' k, rfl, hp', by omega, ⟨b, N, cap', x', rfl, by omega, by omega, hb, hO4.out, hd', by rw [V_tl]; exact HV2.out, tl_top x' k⟩, J4.out, hsz4⟩
    · have J4 := Lib.hid hJx'
      clear hJx' HRd hy hO' r0 r1
      gi_wp2_with fail
      exact bodyPost_ret (results_none rfl _ _ _) rfl ⟨rfl, J4.out⟩
end Go.Proofs.YtpkjpepnjlcgoaaDoor
