/- Contract: mix. -/
import Derived.Test.YtkhchaoehlefdaaDoorEyA
import Derived.Test.YtkhchaoehlefdaaDoorExK
import Derived.Test.YtkhchaoehlefdaaDoorEzA
set_option linter.unusedVariables false
set_option linter.unusedSimpArgs false
namespace Go.Proofs.YtkhchaoehlefdaaDoor
open Go.RowKit

theorem and_low (E : Int) (h0 : 0 ≤ E) (h1 : E ≤ 18446744073709551615) : bits BinOp.and IntKind.u64 E 4294967295 = E % 4294967296 := by
  have h := bits_and_u64_nat E.toNat 4294967295 (by omega) (by omega)
  rw [Int.toNat_of_nonneg h0, show (4294967295 : Nat) = 2 ^ 32 - 1 by decide, Nat.and_two_pow_sub_one_eq_mod] at h
  refine h.trans ?_
  omega
/-- A word and what is borrowed. -/
theorem low_is (A C br : Int) (hA : 0 ≤ A ∧ A ≤ 4294967295) (hC : 0 ≤ C ∧ C ≤ 4294967295) (hb : 0 ≤ br ∧ br ≤ 1) :
    ∃ L0 L : Int, IntKind.u64.wrap (A - C) = L0 ∧ IntKind.u64.wrap (L0 - br) = L ∧ A - C - br = L % 4294967296 - L / 9223372036854775808 * 4294967296 ∧ 0 ≤ L ∧ L ≤ 18446744073709551615 ∧ L / 9223372036854775808 ≤ 1 := by
  refine ⟨_, _, rfl, rfl, ?_⟩
  rw [IntKind.wrap_u64, IntKind.wrap_u64]
  omega

theorem mix_step {o x y : Nat → Int} {p q A C br d br' : Int} {k : Nat} (h : p * V x k - q * V y k = V o k + (A - C - br) * P k)
    (e : (A + p * x k) % 4294967296 - (C + q * y k) % 4294967296 - br = d - br' * 4294967296) (o' : Nat → Int) (ho : ∀ j, j < k → o' j = o j) (hk : o' k = d) :
    p * V x (k + 1) - q * V y (k + 1) = V o' (k + 1) + ((A + p * x k) / 4294967296 - (C + q * y k) / 4294967296 - br') * P (k + 1) := by
  have e1 := Int.mul_ediv_add_emod (A + p * x k) 4294967296
  have e2 := Int.mul_ediv_add_emod (C + q * y k) 4294967296
  rw [V_succ, V_succ, V_succ, P_succ, V_congr ho, hk]
  generalize (A + p * x k) / 4294967296 = A1 at *
  generalize (C + q * y k) / 4294967296 = C1 at *
  generalize (A + p * x k) % 4294967296 = A0 at *
  generalize (C + q * y k) % 4294967296 = C0 at *
  generalize V o k = a at *
  generalize P k = t at *
  grind

/-- What is true between two rounds of mix. -/
def MixRel (B b d N M : Nat) (x y : Nat → Int) (p q r s : Int) (w : World) (k : Nat) (A C F G br lk : Int) (wr : World) : Prop :=
  ∃ x' y', Own wr b N x' ∧ Own wr d M y' ∧ Dg x' ∧ Dg y' ∧ (∀ j, k ≤ j → x' j = x j) ∧ (∀ j, k ≤ j → y' j = y j) ∧
    p * V x k - q * V y k = V x' k + (A - C - br) * P k ∧ r * V y k - s * V x k = V y' k + (F - G - lk) * P k ∧ Below B w wr

theorem mixRel_step {B b d N M : Nat} {x y : Nat → Int} {p q r s : Int} {w wr : World} {k : Nat} {A C F G br lk : Int} (h : MixRel B b d N M x y p q r s w k A C F G br lk wr)
    (hbd : b ≠ d) (hb : B ≤ b) (hd : B ≤ d) (hN : k < N) (hM : k < M) (z : Nat) (L L' : Int)
    (e : (A + p * x k) % 4294967296 - (C + q * y k) % 4294967296 - br = L % 4294967296 - L / 9223372036854775808 * 4294967296)
    (e' : (F + r * y k) % 4294967296 - (G + s * x k) % 4294967296 - lk = L' % 4294967296 - L' / 9223372036854775808 * 4294967296) :
    MixRel B b d N M x y p q r s w (k + 1) ((A + p * x k) / 4294967296) ((C + q * y k) / 4294967296) ((F + r * y k) / 4294967296) ((G + s * x k) / 4294967296) (L / 9223372036854775808) (L' / 9223372036854775808)
      (((wr.drewN z).setCell ⟨b, k, none⟩ (.int .u32 (L % 4294967296))).setCell ⟨d, k, none⟩ (.int .u32 (L' % 4294967296))) := by
  obtain ⟨x', y', hO, hO2, hx, hy, hfx, hfy, h1, h2, hB⟩ := h
  refine ⟨upd x' k (L % 4294967296), upd y' k (L' % 4294967296), ?_, ?_, hx.upd _ (by omega) (by omega), hy.upd _ (by omega) (by omega), fun j hj => ?_, fun j hj => ?_, ?_, ?_, ?_⟩
  · exact Own.setOther (Own.set (hO.same rfl) hN _) (a := ⟨d, k, none⟩) (Ne.symm hbd) _
  · exact Own.set (Own.setOther (hO2.same rfl) (a := ⟨b, k, none⟩) hbd _) hM _
  · rw [upd_other (by omega)]; exact hfx j (by omega)
  · rw [upd_other (by omega)]; exact hfy j (by omega)
  · exact mix_step h1 e _ (fun j hj => upd_other (by omega)) (upd_same _ _ _)
  · exact mix_step h2 e' _ (fun j hj => upd_other (by omega)) (upd_same _ _ _)
  · exact ((below_drewN hB z).setCell (p := ⟨b, k, none⟩) hb _).setCell (p := ⟨d, k, none⟩) hd _

theorem prod_small {a b c : Int} (ha : 0 ≤ a ∧ a ≤ 4294967295) (hb : 0 ≤ b ∧ b ≤ 4294967295) (hc : 0 ≤ c ∧ c ≤ 4294967295) : 0 ≤ c + a * b ∧ c + a * b ≤ 18446744069414584320 ∧ 0 ≤ a * b ∧ a * b ≤ 18446744065119617025 := by
  have := mul_bounds ha hb
  omega

set_option maxHeartbeats 4000000 in
set_option maxRecDepth 100000 in
theorem mix_any (B b d n m N M cap cap2 : Nat) (x y : Nat → Int) (p q r s : Int) (w : World) (hnm : n ≤ m) (hN : n ≤ N) (hM : m ≤ M) (hm : m ≤ 1000000000) (hbd : b ≠ d) (hb : B ≤ b) (hd : B ≤ d)
    (hx : Dg x) (hy : Dg y) (hO : Own w b N x) (hO2 : Own w d M y) (hp : 0 ≤ p ∧ p ≤ 4294967295) (hq : 0 ≤ q ∧ q ≤ 4294967295) (hr : 0 ≤ r ∧ r ≤ 4294967295) (hs : 0 ≤ s ∧ s ≤ 4294967295) :
    Calls Tryd.prog 86 #[.slice (some ⟨b, 0, none⟩) n cap, .slice (some ⟨d, 0, none⟩) m cap2, .int .u64 p, .int .u64 q, .int .u64 r, .int .u64 s] w fun e w' =>
      e = .returned (.tuple #[]) ∧ ∃ A C F G br lk, MixRel B b d N M x y p q r s w n A C F G br lk w' := by
  have HX := Lib.hid hx
  have HY := Lib.hid hy
  have h0 : Hid (MixRel B b d N M x y p q r s w 0 0 0 0 0 0 0 w) := ⟨x, y, hO, hO2, hx, hy, fun _ _ => rfl, fun _ _ => rfl, by simp [V_zero], by simp [V_zero], Below.refl _ _⟩
  have HH := Lib.hid (And.intro hp (And.intro hq (And.intro hr hs)))
  clear hx hy hO hO2 hp hq hr hs
  go_enter Tryd.func86, Tryd.ntmps86
  go_wp2_with fail
  go_loopw [12, 13, 14, 15, 17, 18, 24] (fun a c f g bb ll i wr => ∃ (k : Nat) (A C F G br lk : Int), k ≤ n ∧ i = .int .i64 k ∧ a = .int .u64 A ∧ c = .int .u64 C ∧ f = .int .u64 F ∧ g = .int .u64 G ∧ bb = .int .u64 br ∧ ll = .int .u64 lk ∧
      Hid ((0 ≤ A ∧ A ≤ 4294967295) ∧ (0 ≤ C ∧ C ≤ 4294967295) ∧ (0 ≤ F ∧ F ≤ 4294967295) ∧ (0 ≤ G ∧ G ≤ 4294967295) ∧ (0 ≤ br ∧ br ≤ 1) ∧ (0 ≤ lk ∧ lk ≤ 1)) ∧ Hid (MixRel B b d N M x y p q r s w k A C F G br lk wr)) (fun _ _ _ _ _ _ i _ => n - (intOf i).toNat)
  case atStart => exact ⟨0, 0, 0, 0, 0, 0, 0, by omega, rfl, rfl, rfl, rfl, rfl, rfl, rfl, by unfold Hid; omega, h0⟩
  case round =>
    clear h0
    obtain ⟨k, A, C, F, G, br, lk, hk, rfl, rfl, rfl, rfl, rfl, rfl, rfl, HB, R⟩ := hrel
    by_cases hlt : k < n
    · obtain ⟨x', y', hO, hO2, hdx, hdy, hfx, hfy, hv1, hv2, hBw⟩ := R.out
      obtain ⟨hA, hC, hF, hG, hbr, hlk⟩ := HB.out
      obtain ⟨hp, hq, hr, hs⟩ := HH.out
      have g1 : wr.cell? ⟨b, k, none⟩ = some (.int .u32 (x k)) := by rw [← hfx k (Nat.le_refl _)]; exact hO.cell (by omega)
      have g2 : wr.frozen? ⟨b, k, none⟩ = false := hO.free _
      have g3 : wr.cell? ⟨d, k, none⟩ = some (.int .u32 (y k)) := by rw [← hfy k (Nat.le_refl _)]; exact hO2.cell (by omega)
      have g4 : wr.frozen? ⟨d, k, none⟩ = false := hO2.free _
      have S := Lib.hid (fun z L L' => mixRel_step R.out hbd hb hd (show k < N by omega) (show k < M by omega) z L L')
      have b1 := HX.out k
      have b2 := HY.out k
      clear R hO hO2 hdx hdy hfx hfy hv1 hv2 hBw HX HY HH HB
      generalize x k = xk at *
      generalize y k = yk at *
      obtain ⟨p1, p2, p3, p4⟩ := prod_small hp b1 hA
      obtain ⟨q1, q2, q3, q4⟩ := prod_small hq b2 hC
      obtain ⟨r1, r2, r3, r4⟩ := prod_small hr b2 hF
      obtain ⟨s1, s2, s3, s4⟩ := prod_small hs b1 hG
      have a1 := and_low (A + p * xk) p1 (by omega)
      have a2 := and_low (C + q * yk) q1 (by omega)
      have a3 := and_low (F + r * yk) r1 (by omega)
      have a4 := and_low (G + s * xk) s1 (by omega)
      obtain ⟨L0, L, l1, l2, l3, l4, l5, l6⟩ := low_is ((A + p * xk) % 4294967296) ((C + q * yk) % 4294967296) br (by omega) (by omega) hbr
      obtain ⟨K0, K, k1, k2, k3, k4, k5, k6⟩ := low_is ((F + r * yk) % 4294967296) ((G + s * xk) % 4294967296) lk (by omega) (by omega) hlk
      have S2 := Lib.hid (fun z => S.out z L K l3 k3)
      clear S l3 k3
      obtain ⟨b10, b11⟩ := b1
      obtain ⟨b20, b21⟩ := b2
      obtain ⟨hp0, hp1⟩ := hp
      obtain ⟨hq0, hq1⟩ := hq
      obtain ⟨hr0, hr1⟩ := hr
      obtain ⟨hs0, hs1⟩ := hs
      obtain ⟨hA0, hA1⟩ := hA
      obtain ⟨hC0, hC1⟩ := hC
      obtain ⟨hF0, hF1⟩ := hF
      obtain ⟨hG0, hG1⟩ := hG
      obtain ⟨hbr0, hbr1⟩ := hbr
      obtain ⟨hlk0, hlk1⟩ := hlk
      go_wp2_with fail
      go_quiet (fail)
      go_wp2_with fail
      go_roundw
      case rel => exact ⟨k + 1, _, _, _, _, _, _, by omega, rfl, rfl, rfl, rfl, rfl, rfl, rfl, by unfold Hid; omega, S2.out nq⟩
      case measure => simp [intOf] <;> omega
    · obtain rfl : k = n := by omega
      clear HX HY HH HB
      go_wp2_with fail
      go_end0
      exact ⟨rfl, A, C, F, G, br, lk, R.out⟩
end Go.Proofs.YtkhchaoehlefdaaDoor
