/- Contract: apply. -/
import Derived.Test.YtkhchaoehlefdaaDoorEzD
import Derived.Test.YtkhchaoehlefdaaDoorEyK
set_option linter.unusedVariables false
set_option linter.unusedSimpArgs false
namespace Go.Proofs.YtkhchaoehlefdaaDoor
open Go.RowKit

/-- What is left of a number below the base's power. -/
theorem mod_fix {A Z c T : Int} (h : A = Z + c * T) (h0 : 0 ≤ A) (h1 : A < T) (z0 : 0 ≤ Z) (z1 : Z < T) : Z = A := by
  by_cases hc : c = 0
  · subst hc; rw [Int.zero_mul] at h; omega
  · exfalso
    by_cases hp : 0 < c
    · have : 1 * T ≤ c * T := Int.mul_le_mul_of_nonneg_right (by omega) (by omega)
      omega
    · have : c * T ≤ (-1) * T := Int.mul_le_mul_of_nonneg_right (by omega) (by omega)
      omega
/-- Two slices of different memory. -/
def Apart (v1 v2 : Value) : Prop := ∀ c n cap c' n' cap', 0 < n → 0 < n' → v1 = .slice (some ⟨c, 0, none⟩) n cap → v2 = .slice (some ⟨c', 0, none⟩) n' cap' → c ≠ c'
theorem apart_of {b d n m cap cap2 : Nat} (h : b ≠ d) : Apart (.slice (some ⟨b, 0, none⟩) n cap) (.slice (some ⟨d, 0, none⟩) m cap2) := by
  intro c n cap c' n' cap' _ _ e1 e2
  cases e1
  cases e2
  exact h
/-- What apply gives. -/
def ApplyP (B : Nat) (a b : Int) (w : World) (e : Ending) (w' : World) : Prop :=
  ∃ r1 r2 k1 k2, e = .returned (.tuple #[r1, r2]) ∧ Nt w' B r1 k1 a ∧ Nt w' B r2 k2 b ∧ Apart r1 r2 ∧ Below B w w'

theorem mix_fits {p q u v P' h r c x y z : Int} (hx : x = z + P' * h) (he : p * y - q * z = r + c * P') (h0 : 0 ≤ p * y - q * x) (h1 : p * y - q * x < P') (r0 : 0 ≤ r) (r1 : r < P') : r = p * y - q * x :=
  mod_fix (c := c - q * h) (by rw [hx]; grind) h0 h1 r0 r1
theorem mix_fits' {p q u v P' h r c x y z : Int} (hx : x = z + P' * h) (he : q * z - p * y = r + c * P') (h0 : 0 ≤ q * x - p * y) (h1 : q * x - p * y < P') (r0 : 0 ≤ r) (r1 : r < P') : r = q * x - p * y :=
  mod_fix (c := c + q * h) (by rw [hx]; grind) h0 h1 r0 r1

set_option maxHeartbeats 4000000 in
set_option maxRecDepth 100000 in
theorem apply_odd (B b d n m N M cap cap2 : Nat) (x y : Nat → Int) (u0 v0 u1 v1 : Int) (w : World) (hmn : m ≤ n) (hn : n ≤ N) (hM : m ≤ M) (hc : n ≤ cap) (hc2 : m ≤ cap2) (hl : n ≤ 1000000000) (hbd : b ≠ d) (hb : B ≤ b) (hd : B ≤ d) (hBw : B ≤ w.heap.size)
    (hx : Dg x) (hy : Dg y) (hO : Own w b N x) (hO2 : Own w d M y) (hG : Good (V x n) (V y m) u0 v0 u1 v1 true) (h0 : v0 ≠ 0) :
    Calls Tryd.prog 70 #[.agg #[.int .u64 u0, .int .u64 v0, .int .u64 u1, .int .u64 v1, .bool true], .slice (some ⟨b, 0, none⟩) n cap, .slice (some ⟨d, 0, none⟩) m cap2] w
      (ApplyP B (aft true u0 v0 (V x n) (V y m)) (bft true u1 v1 (V x n) (V y m)) w) := by
  obtain ⟨g1, g2, g3, g4, hG⟩ := hG
  obtain ⟨a1, a2, a3, a4⟩ := hG h0
  obtain ⟨dd, rfl⟩ : ∃ dd, n = m + dd := ⟨n - m, by omega⟩
  have hB1 : Below w.heap.size w (w.alloc (.cells #[.int .u64 u0, .int .u64 v0, .int .u64 u1, .int .u64 v1, .bool true] 91)) := (Below.refl _ _).alloc (Nat.le_refl _) _
  have HB1 := Lib.hid (hB1.mono hBw)
  have X := Lib.hid (mix_any B d b m m M N cap2 cap y x v0 u0 u1 v1 _ (Nat.le_refl m) hM (by omega) (by omega) (Ne.symm hbd) hd hb hy hx (hO2.below hB1 hO2.lt) (hO.below hB1 hO.lt) g2 g1 g3 g4)
  have hp : V x (m + dd) = V x m + P m * V (sh x m) dd := V_add x m dd
  have hy1 := V_lt hy m
  have F := Lib.hid (show ∀ x' y', Dg x' → Dg y' → (∃ c, v0 * V y m - u0 * V x m = V x' m + c * P m) → (∃ c, u1 * V x m - v1 * V y m = V y' m + c * P m) → V x' m = aft true u0 v0 (V x (m + dd)) (V y m) ∧ V y' m = bft true u1 v1 (V x (m + dd)) (V y m) from by
    intro x' y' hx' hy' ⟨c1, e1⟩ ⟨c2, e2⟩
    have hA : aft true u0 v0 (V x (m + dd)) (V y m) = v0 * V y m - u0 * V x (m + dd) := rfl
    have hB : bft true u1 v1 (V x (m + dd)) (V y m) = u1 * V x (m + dd) - v1 * V y m := rfl
    rw [hA, hB]
    exact ⟨mix_fits (u := 0) (v := 0) hp e1 (by omega) (by omega) (V_nonneg hx' m) (V_lt hx' m), mix_fits' (u := 0) (v := 0) hp e2 (by omega) (by omega) (V_nonneg hy' m) (V_lt hy' m)⟩)
  clear hG a1 a2 a3 a4 hB1 hx hy hO hO2 hp hy1 g1 g2 g3 g4
  go_enter Tryd.func70, Tryd.ntmps70
  go_wp2_with fail
  refine X.out.mono ?_
  rintro e w1 ⟨rfl, A, C, F', G, br, lk, y', x', hO, hO2, hdx, hdy, hf1, hf2, e1, e2, hB⟩
  clear X
  obtain ⟨f1, f2⟩ := F.out y' x' hdx hdy ⟨_, e1⟩ ⟨_, e2⟩
  have F1 := Lib.hid f1
  have F2 := Lib.hid f2
  have N1 := Lib.hid (nt_of_trim (cap := cap2) hO hdx hd hM hc2)
  have N2 := Lib.hid (nt_of_trim (cap := cap) hO2 hdy hb (show m ≤ N by omega) (show m ≤ cap by omega))
  have S1 := Lib.hid (sl_own hO hM)
  have S2 := Lib.hid (sl_own hO2 (show m ≤ N by omega))
  have HB := Lib.hid (HB1.out.trans hB)
  clear F hO hO2 hdx hdy hf1 hf2 e1 e2 hB f1 f2
  go_wp2_with fail
  refine (trim_any _ m cap2 y' w1 (by omega) hc2 S1.out).mono ?_
  rintro e w2 ⟨rfl, rfl⟩
  go_wp2_with fail
  refine (trim_any _ m cap x' w1 (by omega) (by omega) S2.out).mono ?_
  rintro e w2 ⟨rfl, rfl⟩
  go_wp2_with fail
  go_ret2
  exact ⟨_, _, _, _, rfl, F1.out ▸ N1.out, F2.out ▸ N2.out, apart_of (Ne.symm hbd), HB.out⟩

set_option maxHeartbeats 4000000 in
set_option maxRecDepth 100000 in
theorem apply_even (B b d n m N M cap cap2 : Nat) (x y : Nat → Int) (u0 v0 u1 v1 : Int) (w : World) (hmn : m ≤ n) (hn : n ≤ N) (hM : m ≤ M) (hc : n ≤ cap) (hc2 : m ≤ cap2) (hl : n ≤ 1000000000) (hbd : b ≠ d) (hb : B ≤ b) (hd : B ≤ d) (hBw : B ≤ w.heap.size)
    (hx : Dg x) (hy : Dg y) (hO : Own w b N x) (hO2 : Own w d M y) (hG : Good (V x n) (V y m) u0 v0 u1 v1 false) (h0 : v0 ≠ 0) :
    Calls Tryd.prog 70 #[.agg #[.int .u64 u0, .int .u64 v0, .int .u64 u1, .int .u64 v1, .bool false], .slice (some ⟨b, 0, none⟩) n cap, .slice (some ⟨d, 0, none⟩) m cap2] w
      (ApplyP B (aft false u0 v0 (V x n) (V y m)) (bft false u1 v1 (V x n) (V y m)) w) := by
  obtain ⟨g1, g2, g3, g4, hG⟩ := hG
  obtain ⟨a1, a2, a3, a4⟩ := hG h0
  obtain ⟨dd, rfl⟩ : ∃ dd, n = m + dd := ⟨n - m, by omega⟩
  have hB1 : Below w.heap.size w (w.alloc (.cells #[.int .u64 u0, .int .u64 v0, .int .u64 u1, .int .u64 v1, .bool false] 91)) := (Below.refl _ _).alloc (Nat.le_refl _) _
  have HB1 := Lib.hid (hB1.mono hBw)
  have X := Lib.hid (mix_any B b d m m N M cap cap2 x y u0 v0 v1 u1 _ (Nat.le_refl m) (by omega) hM (by omega) hbd hb hd hx hy (hO.below hB1 hO.lt) (hO2.below hB1 hO2.lt) g1 g2 g4 g3)
  have hp : V x (m + dd) = V x m + P m * V (sh x m) dd := V_add x m dd
  have hy1 := V_lt hy m
  have F := Lib.hid (show ∀ x' y', Dg x' → Dg y' → (∃ c, u0 * V x m - v0 * V y m = V x' m + c * P m) → (∃ c, v1 * V y m - u1 * V x m = V y' m + c * P m) → V x' m = aft false u0 v0 (V x (m + dd)) (V y m) ∧ V y' m = bft false u1 v1 (V x (m + dd)) (V y m) from by
    intro x' y' hx' hy' ⟨c1, e1⟩ ⟨c2, e2⟩
    have hA : aft false u0 v0 (V x (m + dd)) (V y m) = u0 * V x (m + dd) - v0 * V y m := rfl
    have hB : bft false u1 v1 (V x (m + dd)) (V y m) = v1 * V y m - u1 * V x (m + dd) := rfl
    rw [hA, hB]
    exact ⟨mix_fits' (u := 0) (v := 0) hp e1 (by omega) (by omega) (V_nonneg hx' m) (V_lt hx' m), mix_fits (u := 0) (v := 0) hp e2 (by omega) (by omega) (V_nonneg hy' m) (V_lt hy' m)⟩)
  clear hG a1 a2 a3 a4 hB1 hx hy hO hO2 hp hy1 g1 g2 g3 g4
  go_enter Tryd.func70, Tryd.ntmps70
  go_wp2_with fail
  refine X.out.mono ?_
  rintro e w1 ⟨rfl, A, C, F', G, br, lk, x', y', hO, hO2, hdx, hdy, hf1, hf2, e1, e2, hB⟩
  clear X
  obtain ⟨f1, f2⟩ := F.out x' y' hdx hdy ⟨_, e1⟩ ⟨_, e2⟩
  have F1 := Lib.hid f1
  have F2 := Lib.hid f2
  have N1 := Lib.hid (nt_of_trim (cap := cap) hO hdx hb (show m ≤ N by omega) (show m ≤ cap by omega))
  have N2 := Lib.hid (nt_of_trim (cap := cap2) hO2 hdy hd hM hc2)
  have S1 := Lib.hid (sl_own hO (show m ≤ N by omega))
  have S2 := Lib.hid (sl_own hO2 hM)
  have HB := Lib.hid (HB1.out.trans hB)
  clear F hO hO2 hdx hdy hf1 hf2 e1 e2 hB f1 f2
  go_wp2_with fail
  refine (trim_any _ m cap x' w1 (by omega) (by omega) S1.out).mono ?_
  rintro e w2 ⟨rfl, rfl⟩
  go_wp2_with fail
  refine (trim_any _ m cap2 y' w1 (by omega) hc2 S2.out).mono ?_
  rintro e w2 ⟨rfl, rfl⟩
  go_wp2_with fail
  go_ret2
  exact ⟨_, _, _, _, rfl, F1.out ▸ N1.out, F2.out ▸ N2.out, apart_of hbd, HB.out⟩
end Go.Proofs.YtkhchaoehlefdaaDoor
