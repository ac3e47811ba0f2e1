/- The document's integers: Gcd. -/
import Derived.Deep.LoopGhost
import Derived.Test.YtkhchaoehlefdaaDoorZaG
set_option linter.unusedVariables false
set_option linter.unusedSimpArgs false
set_option maxRecDepth 100000
namespace Go.Proofs.YtkhchaoehlefdaaDoor
open Go.RowKit

/-! ### Common divisors -/
theorem zgcd_rest (x y : Nat) : Nat.gcd (y % x) x = Nat.gcd x y := (Nat.gcd_rec x y).symm
theorem zgcd_rest' (x y : Nat) : Nat.gcd y (x % y) = Nat.gcd x y := by rw [Nat.gcd_comm y, ← Nat.gcd_rec, Nat.gcd_comm]
theorem gcd_both {x y : Nat} (h : x % 2 = 0) (k : y % 2 = 0) : Nat.gcd (x / 2) (y / 2) * 2 = Nat.gcd x y := by
  have e1 : x = 2 * (x / 2) := by omega
  have e2 : y = 2 * (y / 2) := by omega
  rw [Nat.mul_comm, ← Nat.gcd_mul_left, ← e1, ← e2]
theorem gcd_left {x y : Nat} (h : x % 2 = 0) (k : ¬ y % 2 = 0) : Nat.gcd (x / 2) y = Nat.gcd x y := by
  have e1 : x = 2 * (x / 2) := by omega
  have hc : Nat.Coprime 2 y := by
    unfold Nat.Coprime
    rw [Nat.gcd_rec, show y % 2 = 1 by omega]; rfl
  conv => rhs; rw [e1]
  exact (Nat.Coprime.gcd_mul_left_cancel (x / 2) hc).symm
theorem gcd_right {x y : Nat} (h : ¬ x % 2 = 0) (k : y % 2 = 0) : Nat.gcd x (y / 2) = Nat.gcd x y := by
  rw [Nat.gcd_comm, gcd_left k h, Nat.gcd_comm]
theorem gcd_less {x y : Nat} (h : y ≤ x) : Nat.gcd (x - y) y = Nat.gcd x y := Nat.gcd_sub_self_left h
theorem gcd_less' {x y : Nat} (h : x ≤ y) : Nat.gcd x (y - x) = Nat.gcd x y := Nat.gcd_sub_self_right h
theorem Bd_two (n : Nat) : Bd n = ((2 ^ (16 * n) : Nat) : Int) := by
  induction n with
  | zero => rfl
  | succ n ih =>
    rw [Bd_succ, ih, show 16 * (n + 1) = 16 * n + 16 by omega, Nat.pow_add]
    have : (2 : Nat) ^ 16 = 65536 := by decide
    rw [this]
    generalize (2 : Nat) ^ (16 * n) = t
    omega
theorem twos_lt {g T m : Nat} (hg : 0 < g) (h : g * 2 ^ T < 2 ^ m) : T < m := by
  have h1 : 2 ^ T ≤ g * 2 ^ T := Nat.le_mul_of_pos_left _ hg
  exact (Nat.pow_lt_pow_iff_right (by decide : 1 < 2)).1 (Nat.lt_of_le_of_lt h1 h)

/-- A number in memory, in normal form. -/
def DN (w : World) (a : Option Addr) (k c : Nat) (X : Nat) : Prop := ∃ l, InS w (.slice a k c) l ∧ l.length = k ∧ D16 l ∧ Nl l ∧ Vd l = (X : Int)
theorem DN.below {w w' : World} {a : Option Addr} {k c X : Nat} (h : DN w a k c X) (j : Below w.heap.size w w') : DN w' a k c X := by
  obtain ⟨l, h1, h2⟩ := h
  exact ⟨l, h1.below j, h2⟩
theorem DN.pos {w : World} {a : Option Addr} {k c X : Nat} (h : DN w a k c X) : 0 < k ↔ 0 < X := by
  obtain ⟨l, h1, rfl, h3, h4, h5⟩ := h
  have := h4.pos h3
  omega
theorem DN.len {w : World} {a : Option Addr} {k c X n : Nat} (h : DN w a k c X) (j : (X : Int) < Bd n) : k ≤ n := by
  obtain ⟨l, h1, rfl, h3, h4, h5⟩ := h
  exact h4.len h3 (by omega)
theorem DN.lt {w : World} {a : Option Addr} {k c X : Nat} (h : DN w a k c X) : (X : Int) < Bd k := by
  obtain ⟨l, h1, rfl, h3, h4, h5⟩ := h
  have := Vd_lt h3
  omega
theorem ZI.dn {w : World} {g : Bool} {a : Option Addr} {n c : Nat} {z : Int} (h : ZI w (.agg #[.bool g, .slice a n c]) n z) : DN w a n c z.natAbs := by
  obtain ⟨l, h1, h2, h3, h4, h5, h6⟩ := h.open
  exact ⟨l, h2, h1, h3, h4, h5⟩
/-- What returns such a number. -/
def Df (w : World) (X : Nat) (e : Ending) (w' : World) : Prop := ∃ a c k, e = .returned (.slice a k c) ∧ DN w' a k c X ∧ Below w.heap.size w w'
theorem LessP.df {w : World} {z : Int} {n X : Nat} {e : Ending} {w' : World} (h : LessP w z n e w') (k : z = (X : Int)) : Df w X e w' := by
  obtain ⟨a, c, j, o, rfl, h1, h2, h3, h4, h5, h6, h7⟩ := h
  exact ⟨a, c, j, rfl, ⟨o, h1, h2, h4, h5, by rw [h6, k]⟩, h7⟩
theorem half_dn {w : World} {a : Option Addr} {k c X : Nat} (h : DN w a k c X) (hk : k ≤ 100000000) : Calls Tryd.prog 50 #[.slice a k c] w (Df w (X / 2)) := by
  obtain ⟨l, h1, h2, h3, h4, h5⟩ := h
  exact (half_any _ l k w h1 h3 h2 hk).mono fun e w' p => p.df (by rw [h5]; rfl)
theorem less_dn {w : World} {a b : Option Addr} {k c m d X Y : Nat} (h : DN w a k c X) (j : DN w b m d Y) (hk : k ≤ 100000000) (hXY : Y ≤ X) : Calls Tryd.prog 45 #[.slice a k c, .slice b m d] w (Df w (X - Y)) := by
  obtain ⟨l, h1, h2, h3, h4, h5⟩ := h
  obtain ⟨l', j1, j2, j3, j4, j5⟩ := j
  exact (less_any _ _ l l' w h1 j1 h3 j3 (j4.len j3 (by have := Vd_lt h3; omega)) (by omega) k h2 hk).mono fun e w' p => p.df (by rw [h5, j5]; omega)
theorem even_dn {w : World} {a : Option Addr} {k c X : Nat} (h : DN w a k c X) : Calls Tryd.prog 49 #[.slice a k c] w fun e w' => e = .returned (.bool (decide (X % 2 = 0))) ∧ w = w' := by
  obtain ⟨l, h1, h2, h3, h4, h5⟩ := h
  refine (even_any _ l w h1 h3).mono fun e w' p => ⟨?_, p.2⟩
  rw [p.1, h5]
  exact ret_bool (decide_eq_decide.2 (by omega))
theorem order_dn {w : World} {a b : Option Addr} {k c m d X Y : Nat} (h : DN w a k c X) (j : DN w b m d Y) (hk : k ≤ 100000000) (hm : m ≤ 100000000) : Calls Tryd.prog 44 #[.slice a k c, .slice b m d] w fun e w' => e = .returned (.int .i64 (ord X Y)) ∧ w = w' := by
  obtain ⟨l, h1, h2, h3, h4, h5⟩ := h
  obtain ⟨l', j1, j2, j3, j4, j5⟩ := j
  rw [← h5, ← j5]
  exact zorder_any _ _ l l' w h1 j1 h3 j3 (by omega) (by omega)
/-- What byFew returns, as numbers. -/
def Ff (w : World) (X Y : Nat) (e : Ending) (w' : World) : Prop := ∃ a c k a2 c2 k2, e = .returned (.tuple #[.slice a k c, .slice a2 k2 c2]) ∧ DN w' a k c (X / Y) ∧ DN w' a2 k2 c2 (X % Y) ∧ Below w.heap.size w w'
theorem byFew_dn {w : World} {a b : Option Addr} {k c m d X Y : Nat} (h : DN w a k c X) (j : DN w b m d Y) (hk : k ≤ 100000000) (hm : m ≤ 3) (hY : 0 < Y) : Calls Tryd.prog 48 #[.slice a k c, .slice b m d] w (Ff w X Y) := by
  obtain ⟨l, h1, h2, h3, h4, h5⟩ := h
  obtain ⟨l', j1, j2, j3, j4, j5⟩ := j
  refine (byFew_any _ _ l l' k w h1 j1 h3 j3 h2 hk (by omega) (by omega)).mono ?_
  rintro e w' ⟨a, c, k, o, a2, c2, k2, o2, rfl, ⟨g1, g2, g3, g4, g5, g6⟩, ⟨i1, i2, i3, i4, i5, i6⟩, hB⟩
  exact ⟨a, c, k, a2, c2, k2, rfl, ⟨o, g1, g2, g4, g5, by rw [g6, h5, j5]; rfl⟩, ⟨o2, i1, i2, i4, i5, by rw [i6, h5, j5]; rfl⟩, hB⟩

theorem sum_dn {w : World} {a b : Option Addr} {k c m d X Y : Nat} (h : DN w a k c X) (j : DN w b m d Y) (hk : k ≤ 100000000) (hm : m ≤ 100000000) : Calls Tryd.prog 43 #[.slice a k c, .slice b m d] w (SumP w ((X + Y : Nat) : Int) (max k m + 1)) := by
  obtain ⟨l, h1, h2, h3, h4, h5⟩ := h
  obtain ⟨l', j1, j2, j3, j4, j5⟩ := j
  have := zsum_any _ _ l l' w h1 j1 h3 j3 (max k m) (by rw [h2, j2]) (by omega)
  rw [h5, j5] at this
  exact this
/-- Between two rounds of Gcd. -/
def GcdI (G n g : Nat) (x y t : Value) (wr : World) : Prop :=
  ∃ (a b : Option Addr) (k m c d X Y T : Nat), x = .slice a k c ∧ y = .slice b m d ∧ t = .int .i64 T ∧ DN wr a k c X ∧ DN wr b m d Y ∧
    Nat.gcd X Y * 2 ^ T = G ∧ 2 * (X + Y) + (if X < Y then 1 else 0) ≤ g ∧ X < 2 ^ (16 * n) ∧ Y < 2 ^ (16 * n) ∧ T ≤ 16 * n

set_option maxHeartbeats 6400000 in
theorem zGcd_any (g h : Bool) (a b : Option Addr) (n m c d : Nat) (p q : Int) (w : World) (hp : ZI w (.agg #[.bool g, .slice a n c]) n p) (hq : ZI w (.agg #[.bool h, .slice b m d]) m q) (hn : n ≤ 10000000) (hm : m ≤ 10000000) :
    Calls Tryd.prog 17 #[.agg #[.bool g, .slice a n c], .agg #[.bool h, .slice b m d]] w (Zf w (Nat.gcd p.natAbs q.natAbs) (max n m)) := by
  have hA := hp.lt
  have hB := hq.lt
  have hDa := hp.dn
  have hDb := hq.dn
  obtain ⟨N, hN⟩ : ∃ N, N = max n m := ⟨_, rfl⟩
  obtain ⟨G, hG⟩ : ∃ G, G = Nat.gcd p.natAbs q.natAbs := ⟨_, rfl⟩
  have bA : p.natAbs < 2 ^ (16 * N) := by
    have e1 := Bd_mono (show n ≤ N by omega)
    have e2 := Bd_two N
    omega
  have bB : q.natAbs < 2 ^ (16 * N) := by
    have e1 := Bd_mono (show m ≤ N by omega)
    have e2 := Bd_two N
    omega
  have HGb : Hid (G < 2 ^ (16 * N)) := Lib.hid (by
    rw [hG]
    rcases Nat.eq_zero_or_pos p.natAbs with e | e
    · rw [e, Nat.gcd_zero_left]; exact bB
    · exact Nat.lt_of_le_of_lt (Nat.gcd_le_left _ e) bA)
  rw [← hG, ← hN]
  have hNn : N ≤ 10000000 := by omega
  have h0 : ∀ W, Below w.heap.size w W → GcdI G N (2 * (p.natAbs + q.natAbs) + 1) (.slice a n c) (.slice b m d) (.int .i64 0) W := fun W k =>
    ⟨a, b, n, m, c, d, _, _, 0, rfl, rfl, rfl, hDa.below k, hDb.below k, by rw [hG]; simp, by split <;> omega, bA, bB, by omega⟩
  have H0 := Lib.hid h0
  have HN := Lib.hid hN
  clear h0 hDa hDb bA bB hA hB hG hN
  have hsz : ((((w.alloc (.cells #[.bool g, .slice a n c] 28)).alloc (.cells #[.bool h, .slice b m d] 28)).alloc (.cells #[.bool false, .slice none 0 0] 28))).heap.size = w.heap.size + 1 + 1 + 1 := by simp
  have HW := Lib.hid (Below.three w (.cells #[.bool g, .slice a n c] 28) (.cells #[.bool h, .slice b m d] 28) (.cells #[.bool false, .slice none 0 0] 28))
  have X := Lib.hid (BoxZ.new' (w := (w.alloc (.cells #[.bool g, .slice a n c] 28)).alloc (.cells #[.bool h, .slice b m d] 28)) (b := w.heap.size + 1 + 1) (g := false) (a := none) (n := 0) (c := 0) (by simp))
  clear hsz hp hq
  go_enter Tryd.func17, Tryd.ntmps17
  go_wp2_with fail
  generalize (((w.alloc (.cells #[.bool g, .slice a n c] 28)).alloc (.cells #[.bool h, .slice b m d] 28)).alloc (.cells #[.bool false, .slice none 0 0] 28)) = W at *
  have XW := X
  clear X
  generalize hM0 : 2 * (p.natAbs + q.natAbs) + 1 = M0 at H0
  clear hM0
  go_loopg [5, 6, 7] M0 (fun g x y t wr => Hid (GcdI G N g x y t wr ∧ Below W.heap.size W wr))
  case atStart => exact Lib.hid ⟨H0.out _ HW.out, Below.refl _ _⟩
  case round =>
    clear H0
    obtain ⟨⟨ax, ay, kx, ky, cx, cy, X, Y, T, rfl, rfl, rfl, hDX, hDY, hG, hM, hXb', hYb', hT⟩, hBW⟩ := hrel.out
    have DX := Lib.hid hDX
    have DY := Lib.hid hDY
    have HG := Lib.hid hG
    have HB := Lib.hid hBW
    have hXb := Lib.hid hXb'
    have hYb := Lib.hid hYb'
    have sx : kx ≤ 100000000 := by have := hDX.len (n := N) (by rw [Bd_two]; omega); omega
    have sy : ky ≤ 100000000 := by have := hDY.len (n := N) (by rw [Bd_two]; omega); omega
    have px0 := hDX.pos
    have py0 := hDY.pos
    clear hrel hDX hDY hG hXb' hYb' hBW
    by_cases hX : 0 < X
    · by_cases hY : 0 < Y
      · by_cases h2 : ky ≤ 3
        · have kx0 : 0 < kx := px0.2 hX
          have ky0 : 0 < ky := py0.2 hY
          by_cases h1 : kx ≤ 3
          · have HFX := Lib.hid (show Calls Tryd.prog 47 #[.slice ax kx cx] wr fun e w' => e = .returned (.bool true) ∧ wr = w' from by have := few_any ax kx cx wr (by omega); rwa [decide_eq_true h1] at this)
            have FY := Lib.hid (show Calls Tryd.prog 47 #[.slice ay ky cy] wr fun e w' => e = .returned (.bool true) ∧ wr = w' from by have := few_any ay ky cy wr (by omega); rwa [decide_eq_true h2] at this)
            have BF := Lib.hid (byFew_dn DX.out DY.out (by omega) h2 hY)
            have hr := Nat.mod_lt X hY
            have hr2 := Nat.mod_le X Y
            have hM2 : 2 * (Y + X % Y) + (if Y < X % Y then 1 else 0) ≤ gk - 1 := by
              rw [if_neg (by omega)]
              by_cases e : X < Y
              · rw [if_pos e] at hM; omega
              · rw [if_neg e] at hM; omega
            go_wp2_with (first | (go_at_call 47; first | ((with_reducible refine HFX.out.mono ?_); rintro e w' ⟨rfl, rfl⟩) | ((with_reducible refine FY.out.mono ?_); rintro e w' ⟨rfl, rfl⟩)) | (go_at_call 48; ((with_reducible refine BF.out.mono ?_); rintro e w1 ⟨a1, c1, k1, a2, c2, k2, rfl, hQ, hR, hB⟩; have R2 := Lib.hid hR; have T1 := Lib.hid hB; clear hQ hR hB)))
            clear HFX FY BF
            go_roundg (gk - 1)
            case rel => exact Lib.hid ⟨⟨ay, a2, ky, k2, cy, c2, Y, (X % Y), T, rfl, rfl, by first | rfl | (simp only [Value.int.injEq, true_and]; omega), DY.out.below T1.out, R2.out, by rw [zgcd_rest']; exact HG.out, hM2, hYb.out, by have := hYb.out; omega, hT⟩, Below.up HB.out T1.out⟩
            all_goals omega
          · have HFX := Lib.hid (show Calls Tryd.prog 47 #[.slice ax kx cx] wr fun e w' => e = .returned (.bool false) ∧ wr = w' from by have := few_any ax kx cx wr (by omega); rwa [decide_eq_false h1] at this)
            have FY := Lib.hid (show Calls Tryd.prog 47 #[.slice ay ky cy] wr fun e w' => e = .returned (.bool true) ∧ wr = w' from by have := few_any ay ky cy wr (by omega); rwa [decide_eq_true h2] at this)
            have BF := Lib.hid (byFew_dn DX.out DY.out (by omega) h2 hY)
            have hr := Nat.mod_lt X hY
            have hr2 := Nat.mod_le X Y
            have hM2 : 2 * (Y + X % Y) + (if Y < X % Y then 1 else 0) ≤ gk - 1 := by
              rw [if_neg (by omega)]
              by_cases e : X < Y
              · rw [if_pos e] at hM; omega
              · rw [if_neg e] at hM; omega
            go_wp2_with (first | (go_at_call 47; first | ((with_reducible refine HFX.out.mono ?_); rintro e w' ⟨rfl, rfl⟩) | ((with_reducible refine FY.out.mono ?_); rintro e w' ⟨rfl, rfl⟩)) | (go_at_call 48; ((with_reducible refine BF.out.mono ?_); rintro e w1 ⟨a1, c1, k1, a2, c2, k2, rfl, hQ, hR, hB⟩; have R2 := Lib.hid hR; have T1 := Lib.hid hB; clear hQ hR hB)))
            clear HFX FY BF
            go_roundg (gk - 1)
            case rel => exact Lib.hid ⟨⟨ay, a2, ky, k2, cy, c2, Y, (X % Y), T, rfl, rfl, by first | rfl | (simp only [Value.int.injEq, true_and]; omega), DY.out.below T1.out, R2.out, by rw [zgcd_rest']; exact HG.out, hM2, hYb.out, by have := hYb.out; omega, hT⟩, Below.up HB.out T1.out⟩
            all_goals omega
        · have kx0 : 0 < kx := px0.2 hX
          have ky0 : 0 < ky := py0.2 hY
          by_cases h1 : kx ≤ 3
          ·
            have FX := Lib.hid (show Calls Tryd.prog 47 #[.slice ax kx cx] wr fun e w' => e = .returned (.bool true) ∧ wr = w' from by have := few_any ax kx cx wr (by omega); rwa [decide_eq_true h1] at this)
            have FY := Lib.hid (show Calls Tryd.prog 47 #[.slice ay ky cy] wr fun e w' => e = .returned (.bool false) ∧ wr = w' from by have := few_any ay ky cy wr (by omega); rwa [decide_eq_false h2] at this)
            have BF := Lib.hid (byFew_dn DY.out DX.out (by omega) h1 hX)
            have hlt : X < Y := by
              have e1 := DX.out.lt
              have e2 := Bd_mono h1
              rcases Nat.lt_or_ge X Y with e | e
              · exact e
              · exact absurd (DY.out.len (n := 3) (by omega)) h2
            have hr := Nat.mod_lt Y hX
            rw [if_pos hlt] at hM
            go_wp2_with (first | (go_at_call 47; first | ((with_reducible refine FX.out.mono ?_); rintro e w' ⟨rfl, rfl⟩) | ((with_reducible refine FY.out.mono ?_); rintro e w' ⟨rfl, rfl⟩)) | (go_at_call 48; ((with_reducible refine BF.out.mono ?_); rintro e w1 ⟨a1, c1, k1, a2, c2, k2, rfl, hQ, hR, hB⟩; have R2 := Lib.hid hR; have T1 := Lib.hid hB; clear hQ hR hB)))
            clear FX FY BF
            go_roundg (gk - 1)
            case rel => exact Lib.hid ⟨⟨a2, ax, k2, kx, c2, cx, (Y % X), X, T, rfl, rfl, by first | rfl | (simp only [Value.int.injEq, true_and]; omega), R2.out, DX.out.below T1.out, by rw [zgcd_rest]; exact HG.out, by rw [if_pos hr]; omega, by have := hXb.out; omega, hXb.out, hT⟩, Below.up HB.out T1.out⟩
            all_goals omega
          · by_cases px : X % 2 = 0
            · by_cases py : Y % 2 = 0
              ·
                have PX := Lib.hid (even_dn DX.out)
                have PY := Lib.hid (even_dn DY.out)
                rw [decide_eq_true px] at PX
                rw [decide_eq_true py] at PY
                have HFX := Lib.hid (show Calls Tryd.prog 47 #[.slice ax kx cx] wr fun e w' => e = .returned (.bool false) ∧ wr = w' from by have := few_any ax kx cx wr (by omega); rwa [decide_eq_false h1] at this)
                have HFY := Lib.hid (show Calls Tryd.prog 47 #[.slice ay ky cy] wr fun e w' => e = .returned (.bool false) ∧ wr = w' from by have := few_any ay ky cy wr (by omega); rwa [decide_eq_false h2] at this)
                have hT2 : T + 1 ≤ 16 * N := by
                  have e1 := gcd_both px py
                  have e2 : 0 < Nat.gcd (X / 2) (Y / 2) := Nat.gcd_pos_of_pos_left _ (by omega)
                  have e3 : Nat.gcd (X / 2) (Y / 2) * 2 ^ (T + 1) = G := by rw [← HG.out, ← e1, Nat.pow_succ]; grind
                  have e4 := twos_lt e2 (m := 16 * N) (by rw [e3]; exact HGb.out)
                  omega
                have e5 : Nat.gcd (X / 2) (Y / 2) * 2 ^ (T + 1) = G := by rw [← HG.out, ← gcd_both px py, Nat.pow_succ]; grind
                have E5 := Lib.hid e5
                clear e5
                have hM2 : 2 * (X / 2 + Y / 2) + (if X / 2 < Y / 2 then 1 else 0) ≤ gk - 1 := by split <;> omega
                go_wp2_with (first | (go_at_call 47; first | ((with_reducible refine HFX.out.mono ?_); rintro e w' ⟨rfl, rfl⟩) | ((with_reducible refine HFY.out.mono ?_); rintro e w' ⟨rfl, rfl⟩)) | (go_at_call 49; first | ((with_reducible refine PX.out.mono ?_); rintro e w' ⟨rfl, rfl⟩) | ((with_reducible refine PY.out.mono ?_); rintro e w' ⟨rfl, rfl⟩)) | (go_at_call 50; first
                  | ((with_reducible refine (half_dn DX.out sx).mono ?_); rintro e w1 ⟨a1, c1, k1, rfl, hR, hB⟩; have R1 := Lib.hid hR; have T1 := Lib.hid hB; clear hR hB)
                  | ((with_reducible refine (half_dn (DY.out.below T1.out) sy).mono ?_); rintro e w2 ⟨a2, c2, k2, rfl, hR, hB⟩; have R2 := Lib.hid hR; have T2 := Lib.hid hB; clear hR hB)))
                clear PX PY HFX HFY
                go_roundg (gk - 1)
                case rel => exact Lib.hid ⟨⟨a1, a2, k1, k2, c1, c2, (X / 2), (Y / 2), (T + 1), rfl, rfl, by first | rfl | (simp only [Value.int.injEq, true_and]; omega), R1.out.below T2.out, R2.out, E5.out, hM2, by have := hXb.out; omega, by have := hYb.out; omega, hT2⟩, Below.up HB.out (Below.up T1.out T2.out)⟩
                all_goals omega
              ·
                have PX := Lib.hid (even_dn DX.out)
                have PY := Lib.hid (even_dn DY.out)
                rw [decide_eq_true px] at PX
                rw [decide_eq_false py] at PY
                have HFX := Lib.hid (show Calls Tryd.prog 47 #[.slice ax kx cx] wr fun e w' => e = .returned (.bool false) ∧ wr = w' from by have := few_any ax kx cx wr (by omega); rwa [decide_eq_false h1] at this)
                have HFY := Lib.hid (show Calls Tryd.prog 47 #[.slice ay ky cy] wr fun e w' => e = .returned (.bool false) ∧ wr = w' from by have := few_any ay ky cy wr (by omega); rwa [decide_eq_false h2] at this)
                have E5 := Lib.hid (show Nat.gcd (X / 2) Y * 2 ^ T = G by rw [gcd_left px py]; exact HG.out)
                have hM2 : 2 * (X / 2 + Y) + (if X / 2 < Y then 1 else 0) ≤ gk - 1 := by split <;> omega
                go_wp2_with (first | (go_at_call 47; first | ((with_reducible refine HFX.out.mono ?_); rintro e w' ⟨rfl, rfl⟩) | ((with_reducible refine HFY.out.mono ?_); rintro e w' ⟨rfl, rfl⟩)) | (go_at_call 49; first | ((with_reducible refine PX.out.mono ?_); rintro e w' ⟨rfl, rfl⟩) | ((with_reducible refine PY.out.mono ?_); rintro e w' ⟨rfl, rfl⟩)) | (go_at_call 50; ((with_reducible refine (half_dn DX.out sx).mono ?_); rintro e w1 ⟨a1, c1, k1, rfl, hR, hB⟩; have R1 := Lib.hid hR; have T1 := Lib.hid hB; clear hR hB)))
                clear PX PY HFX HFY
                go_roundg (gk - 1)
                case rel => exact Lib.hid ⟨⟨a1, ay, k1, ky, c1, cy, (X / 2), Y, T, rfl, rfl, by first | rfl | (simp only [Value.int.injEq, true_and]; omega), R1.out, DY.out.below T1.out, E5.out, hM2, by have := hXb.out; omega, hYb.out, hT⟩, Below.up HB.out T1.out⟩
                all_goals omega
            · by_cases py : Y % 2 = 0
              ·
                have PX := Lib.hid (even_dn DX.out)
                have PY := Lib.hid (even_dn DY.out)
                rw [decide_eq_false px] at PX
                rw [decide_eq_true py] at PY
                have HFX := Lib.hid (show Calls Tryd.prog 47 #[.slice ax kx cx] wr fun e w' => e = .returned (.bool false) ∧ wr = w' from by have := few_any ax kx cx wr (by omega); rwa [decide_eq_false h1] at this)
                have HFY := Lib.hid (show Calls Tryd.prog 47 #[.slice ay ky cy] wr fun e w' => e = .returned (.bool false) ∧ wr = w' from by have := few_any ay ky cy wr (by omega); rwa [decide_eq_false h2] at this)
                have E5 := Lib.hid (show Nat.gcd X (Y / 2) * 2 ^ T = G by rw [gcd_right px py]; exact HG.out)
                have hM2 : 2 * (X + Y / 2) + (if X < Y / 2 then 1 else 0) ≤ gk - 1 := by split <;> omega
                go_wp2_with (first | (go_at_call 47; first | ((with_reducible refine HFX.out.mono ?_); rintro e w' ⟨rfl, rfl⟩) | ((with_reducible refine HFY.out.mono ?_); rintro e w' ⟨rfl, rfl⟩)) | (go_at_call 49; first | ((with_reducible refine PX.out.mono ?_); rintro e w' ⟨rfl, rfl⟩) | ((with_reducible refine PY.out.mono ?_); rintro e w' ⟨rfl, rfl⟩)) | (go_at_call 50; ((with_reducible refine (half_dn DY.out sy).mono ?_); rintro e w1 ⟨a1, c1, k1, rfl, hR, hB⟩; have R1 := Lib.hid hR; have T1 := Lib.hid hB; clear hR hB)))
                clear PX PY HFX HFY
                go_roundg (gk - 1)
                case rel => exact Lib.hid ⟨⟨ax, a1, kx, k1, cx, c1, X, (Y / 2), T, rfl, rfl, by first | rfl | (simp only [Value.int.injEq, true_and]; omega), DX.out.below T1.out, R1.out, E5.out, hM2, hXb.out, by have := hYb.out; omega, hT⟩, Below.up HB.out T1.out⟩
                all_goals omega
              · by_cases hle : Y ≤ X
                ·
                  have PX := Lib.hid (even_dn DX.out)
                  have PY := Lib.hid (even_dn DY.out)
                  rw [decide_eq_false px] at PX
                  rw [decide_eq_false py] at PY
                  have HFX := Lib.hid (show Calls Tryd.prog 47 #[.slice ax kx cx] wr fun e w' => e = .returned (.bool false) ∧ wr = w' from by have := few_any ax kx cx wr (by omega); rwa [decide_eq_false h1] at this)
                  have HFY := Lib.hid (show Calls Tryd.prog 47 #[.slice ay ky cy] wr fun e w' => e = .returned (.bool false) ∧ wr = w' from by have := few_any ay ky cy wr (by omega); rwa [decide_eq_false h2] at this)
                  have OR := Lib.hid (order_dn DX.out DY.out sx sy)
                  have ho : 0 ≤ ord (X : Int) Y := by unfold ord; rw [if_neg (by omega)]; split <;> omega
                  generalize ord (X : Int) Y = od at *
                  have E5 := Lib.hid (show Nat.gcd (X - Y) Y * 2 ^ T = G by rw [gcd_less hle]; exact HG.out)
                  have hM2 : 2 * (X - Y + Y) + (if X - Y < Y then 1 else 0) ≤ gk - 1 := by split <;> omega
                  have hle' : Y ≤ X := by omega
                  go_wp2_with (first | (go_at_call 47; first | ((with_reducible refine HFX.out.mono ?_); rintro e w' ⟨rfl, rfl⟩) | ((with_reducible refine HFY.out.mono ?_); rintro e w' ⟨rfl, rfl⟩)) | (go_at_call 49; first | ((with_reducible refine PX.out.mono ?_); rintro e w' ⟨rfl, rfl⟩) | ((with_reducible refine PY.out.mono ?_); rintro e w' ⟨rfl, rfl⟩)) | (go_at_call 44; (with_reducible refine OR.out.mono ?_); rintro e w' ⟨rfl, rfl⟩) | (go_at_call 45; ((with_reducible refine (less_dn DX.out DY.out sx hle').mono ?_); rintro e w1 ⟨a1, c1, k1, rfl, hR, hB⟩; have R1 := Lib.hid hR; have T1 := Lib.hid hB; clear hR hB)))
                  clear PX PY HFX HFY OR
                  go_roundg (gk - 1)
                  case rel => exact Lib.hid ⟨⟨a1, ay, k1, ky, c1, cy, (X - Y), Y, T, rfl, rfl, by first | rfl | (simp only [Value.int.injEq, true_and]; omega), R1.out, DY.out.below T1.out, E5.out, hM2, by have := hXb.out; omega, hYb.out, hT⟩, Below.up HB.out T1.out⟩
                  all_goals omega
                ·
                  have PX := Lib.hid (even_dn DX.out)
                  have PY := Lib.hid (even_dn DY.out)
                  rw [decide_eq_false px] at PX
                  rw [decide_eq_false py] at PY
                  have HFX := Lib.hid (show Calls Tryd.prog 47 #[.slice ax kx cx] wr fun e w' => e = .returned (.bool false) ∧ wr = w' from by have := few_any ax kx cx wr (by omega); rwa [decide_eq_false h1] at this)
                  have HFY := Lib.hid (show Calls Tryd.prog 47 #[.slice ay ky cy] wr fun e w' => e = .returned (.bool false) ∧ wr = w' from by have := few_any ay ky cy wr (by omega); rwa [decide_eq_false h2] at this)
                  have OR := Lib.hid (order_dn DX.out DY.out sx sy)
                  have ho : ord (X : Int) Y < 0 := by rw [ord_lt (by omega)]; decide
                  generalize ord (X : Int) Y = od at *
                  have E5 := Lib.hid (show Nat.gcd X (Y - X) * 2 ^ T = G by rw [gcd_less' (by omega)]; exact HG.out)
                  have hM2 : 2 * (X + (Y - X)) + (if X < Y - X then 1 else 0) ≤ gk - 1 := by split <;> omega
                  have hle' : X ≤ Y := by omega
                  go_wp2_with (first | (go_at_call 47; first | ((with_reducible refine HFX.out.mono ?_); rintro e w' ⟨rfl, rfl⟩) | ((with_reducible refine HFY.out.mono ?_); rintro e w' ⟨rfl, rfl⟩)) | (go_at_call 49; first | ((with_reducible refine PX.out.mono ?_); rintro e w' ⟨rfl, rfl⟩) | ((with_reducible refine PY.out.mono ?_); rintro e w' ⟨rfl, rfl⟩)) | (go_at_call 44; (with_reducible refine OR.out.mono ?_); rintro e w' ⟨rfl, rfl⟩) | (go_at_call 45; ((with_reducible refine (less_dn DY.out DX.out sy hle').mono ?_); rintro e w1 ⟨a1, c1, k1, rfl, hR, hB⟩; have R1 := Lib.hid hR; have T1 := Lib.hid hB; clear hR hB)))
                  clear PX PY HFX HFY OR
                  go_roundg (gk - 1)
                  case rel => exact Lib.hid ⟨⟨ax, a1, kx, k1, cx, c1, X, (Y - X), T, rfl, rfl, by first | rfl | (simp only [Value.int.injEq, true_and]; omega), DX.out.below T1.out, R1.out, E5.out, hM2, hXb.out, by have := hYb.out; omega, hT⟩, Below.up HB.out T1.out⟩
                  all_goals omega
      · have hz : X = 0 ∨ Y = 0 := .inr (by omega)
        have hk1 : 0 < kx := px0.2 hX
        have sm := sum_dn DX.out DY.out sx sy
        obtain ⟨L, hL⟩ : ∃ L, L = max kx ky + 1 := ⟨_, rfl⟩
        rw [← hL] at sm
        have SM := Lib.hid sm
        have hG2 : Hid ((X + Y) * 2 ^ T = G) := Lib.hid (by rw [← HG.out]; rcases hz with h | h <;> subst h <;> simp)
        have hkN : L ≤ N + 1 := by
          have e1 := DX.out.len (n := N) (by rw [Bd_two]; have := hXb.out; omega)
          have e2 := DY.out.len (n := N) (by rw [Bd_two]; have := hYb.out; omega)
          omega
        clear hL sm
        obtain rfl : ky = 0 := by omega
        go_wp2_with (go_at_call 43; ((with_reducible refine SM.out.mono ?_); rintro e w1 ⟨a1, c1, o1, rfl, g1, g2, g3, g4, hB⟩; have G1 := Lib.hid g1; have G3 := Lib.hid g3; have G4 := Lib.hid g4; have T1 := Lib.hid (Below.up HB.out hB); clear g1 g3 g4 hB))
        clear SM DX DY HG hz px0 py0
        go_loopw [14, 15] (fun gv iv wr => ∃ (a1 : Option Addr) (k1 c1 i : Nat) (l : List Int), gv = .slice a1 k1 c1 ∧ iv = .int .i64 i ∧ i ≤ T ∧ k1 ≤ N + 1 ∧ Hid (InS wr (.slice a1 k1 c1) l ∧ l.length = k1 ∧ D16 l ∧ Vd l = (((X + Y) * 2 ^ i : Nat) : Int) ∧ Below W.heap.size W wr)) (fun _ iv _ => T - (intOf iv).toNat)
        case atStart => exact ⟨a1, _, c1, 0, o1, rfl, rfl, by omega, hkN, Lib.hid ⟨G1.out, g2, G3.out, by rw [G4.out]; simp, T1.out⟩⟩
        case round =>
          clear G1 G3 G4 T1 g2
          obtain ⟨a2, k2, c2, i, l2, rfl, rfl, hi, hk2, HI⟩ := hrel
          by_cases hlt : i < T
          · obtain ⟨i1, i2, i3, i4, i5⟩ := HI.out
            have DB := Lib.hid (show Calls Tryd.prog 51 #[.slice a2 k2 c2, .int .i64 0] wr (LessP wr (2 * Vd l2 + 0) (k2 + 1)) from double_zany _ l2 k2 0 wr i1 i3 i2 (by omega) (by omega))
            have hV : Hid (2 * Vd l2 + 0 = (((X + Y) * 2 ^ (i + 1) : Nat) : Int)) := Lib.hid (by rw [i4, Nat.pow_succ, ← Nat.mul_assoc]; generalize (X + Y) * 2 ^ i = t; omega)
            have hle : (X + Y) * 2 ^ (i + 1) < 2 ^ (16 * N) := by
              have e1 : (X + Y) * 2 ^ (i + 1) ≤ (X + Y) * 2 ^ T := Nat.mul_le_mul_left _ (Nat.pow_le_pow_right (by decide) (by omega))
              have := HGb.out
              rw [hG2.out] at e1
              omega
            have HLe := Lib.hid hle
            have B5 := Lib.hid i5
            clear HI i1 i2 i3 i4 i5 hle
            go_wp2_with (go_at_call 51; ((with_reducible refine DB.out.mono ?_); rintro e w2 ⟨a3, c3, k3, o3, rfl, g1, g2, g3, g4, g5, g6, g7⟩))
            have hk3 : k3 ≤ N := by
              have := g5.len g4 (k := N) (by rw [g6, hV.out, Bd_two]; have := HLe.out; omega)
              omega
            have S := Lib.hid (show InS w2 (.slice a3 k3 c3) o3 ∧ o3.length = k3 ∧ D16 o3 ∧ Vd o3 = (((X + Y) * 2 ^ (i + 1) : Nat) : Int) ∧ Below W.heap.size W w2 from ⟨g1, g2, g4, by rw [g6, hV.out], Below.up B5.out g7⟩)
            clear g1 g2 g3 g4 g5 g6 g7 DB hV B5 HLe
            go_wp2_with fail
            go_roundw
            case rel => exact ⟨a3, k3, c3, i + 1, o3, rfl, by go_num, by omega, by omega, S⟩
            case measure => simp [intOf] <;> omega
          · obtain rfl : i = T := by omega
            obtain ⟨i1, i2, i3, i4, i5⟩ := HI.out
            have MD := Lib.hid (made_any false a2 c2 l2 k2 wr i1 i3 (by omega))
            have hV : Hid (sg false (Vd l2) = (G : Int)) := Lib.hid (by rw [sg_false, i4, hG2.out])
            have B5 := Lib.hid i5
            clear HI i1 i2 i3 i4 i5
            go_wp2_with fail
            refine MD.out.mono ?_
            rintro e w2 ⟨g2, a3, c3, k3, rfl, hR, hk3, hB⟩
            have T2 := Lib.hid (Below.up B5.out hB)
            have R2 := Lib.hid (hR.z hV.out)
            have zb := XW.out.below T2.out
            obtain ⟨zu, zv, zc, zd, ze, zf⟩ := zb.open
            have ZB := Lib.hid zb
            clear zb hR hB MD B5
            go_wp2_with fail
            have f1 := ZV.put ZB.out R2.out
            have hk4 : k3 ≤ N := R2.out.len (by have := Bd_pos N; omega) (by rw [Bd_two]; have := HGb.out; omega)
            exact bodyPost_ret (v := .agg #[.bool g2, .slice a3 k3 c3]) (by simp [results, Tryd.results17, go_sem, f1.1, f1.2.1, zc, zd]) rfl (fin_Z ZB.out R2.out (by omega) hk4 (Below.up HW.out T2.out))
    · have hz : X = 0 ∨ Y = 0 := .inl (by omega)
      have sm := sum_dn DX.out DY.out sx sy
      obtain ⟨L, hL⟩ : ∃ L, L = max kx ky + 1 := ⟨_, rfl⟩
      rw [← hL] at sm
      have SM := Lib.hid sm
      have hG2 : Hid ((X + Y) * 2 ^ T = G) := Lib.hid (by rw [← HG.out]; rcases hz with h | h <;> subst h <;> simp)
      have hkN : L ≤ N + 1 := by
        have e1 := DX.out.len (n := N) (by rw [Bd_two]; have := hXb.out; omega)
        have e2 := DY.out.len (n := N) (by rw [Bd_two]; have := hYb.out; omega)
        omega
      clear hL sm
      obtain rfl : kx = 0 := by omega
      go_wp2_with (go_at_call 43; ((with_reducible refine SM.out.mono ?_); rintro e w1 ⟨a1, c1, o1, rfl, g1, g2, g3, g4, hB⟩; have G1 := Lib.hid g1; have G3 := Lib.hid g3; have G4 := Lib.hid g4; have T1 := Lib.hid (Below.up HB.out hB); clear g1 g3 g4 hB))
      clear SM DX DY HG hz px0 py0
      go_loopw [14, 15] (fun gv iv wr => ∃ (a1 : Option Addr) (k1 c1 i : Nat) (l : List Int), gv = .slice a1 k1 c1 ∧ iv = .int .i64 i ∧ i ≤ T ∧ k1 ≤ N + 1 ∧ Hid (InS wr (.slice a1 k1 c1) l ∧ l.length = k1 ∧ D16 l ∧ Vd l = (((X + Y) * 2 ^ i : Nat) : Int) ∧ Below W.heap.size W wr)) (fun _ iv _ => T - (intOf iv).toNat)
      case atStart => exact ⟨a1, _, c1, 0, o1, rfl, rfl, by omega, hkN, Lib.hid ⟨G1.out, g2, G3.out, by rw [G4.out]; simp, T1.out⟩⟩
      case round =>
        clear G1 G3 G4 T1 g2
        obtain ⟨a2, k2, c2, i, l2, rfl, rfl, hi, hk2, HI⟩ := hrel
        by_cases hlt : i < T
        · obtain ⟨i1, i2, i3, i4, i5⟩ := HI.out
          have DB := Lib.hid (show Calls Tryd.prog 51 #[.slice a2 k2 c2, .int .i64 0] wr (LessP wr (2 * Vd l2 + 0) (k2 + 1)) from double_zany _ l2 k2 0 wr i1 i3 i2 (by omega) (by omega))
          have hV : Hid (2 * Vd l2 + 0 = (((X + Y) * 2 ^ (i + 1) : Nat) : Int)) := Lib.hid (by rw [i4, Nat.pow_succ, ← Nat.mul_assoc]; generalize (X + Y) * 2 ^ i = t; omega)
          have hle : (X + Y) * 2 ^ (i + 1) < 2 ^ (16 * N) := by
            have e1 : (X + Y) * 2 ^ (i + 1) ≤ (X + Y) * 2 ^ T := Nat.mul_le_mul_left _ (Nat.pow_le_pow_right (by decide) (by omega))
            have := HGb.out
            rw [hG2.out] at e1
            omega
          have HLe := Lib.hid hle
          have B5 := Lib.hid i5
          clear HI i1 i2 i3 i4 i5 hle
          go_wp2_with (go_at_call 51; ((with_reducible refine DB.out.mono ?_); rintro e w2 ⟨a3, c3, k3, o3, rfl, g1, g2, g3, g4, g5, g6, g7⟩))
          have hk3 : k3 ≤ N := by
            have := g5.len g4 (k := N) (by rw [g6, hV.out, Bd_two]; have := HLe.out; omega)
            omega
          have S := Lib.hid (show InS w2 (.slice a3 k3 c3) o3 ∧ o3.length = k3 ∧ D16 o3 ∧ Vd o3 = (((X + Y) * 2 ^ (i + 1) : Nat) : Int) ∧ Below W.heap.size W w2 from ⟨g1, g2, g4, by rw [g6, hV.out], Below.up B5.out g7⟩)
          clear g1 g2 g3 g4 g5 g6 g7 DB hV B5 HLe
          go_wp2_with fail
          go_roundw
          case rel => exact ⟨a3, k3, c3, i + 1, o3, rfl, by go_num, by omega, by omega, S⟩
          case measure => simp [intOf] <;> omega
        · obtain rfl : i = T := by omega
          obtain ⟨i1, i2, i3, i4, i5⟩ := HI.out
          have MD := Lib.hid (made_any false a2 c2 l2 k2 wr i1 i3 (by omega))
          have hV : Hid (sg false (Vd l2) = (G : Int)) := Lib.hid (by rw [sg_false, i4, hG2.out])
          have B5 := Lib.hid i5
          clear HI i1 i2 i3 i4 i5
          go_wp2_with fail
          refine MD.out.mono ?_
          rintro e w2 ⟨g2, a3, c3, k3, rfl, hR, hk3, hB⟩
          have T2 := Lib.hid (Below.up B5.out hB)
          have R2 := Lib.hid (hR.z hV.out)
          have zb := XW.out.below T2.out
          obtain ⟨zu, zv, zc, zd, ze, zf⟩ := zb.open
          have ZB := Lib.hid zb
          clear zb hR hB MD B5
          go_wp2_with fail
          have f1 := ZV.put ZB.out R2.out
          have hk4 : k3 ≤ N := R2.out.len (by have := Bd_pos N; omega) (by rw [Bd_two]; have := HGb.out; omega)
          exact bodyPost_ret (v := .agg #[.bool g2, .slice a3 k3 c3]) (by simp [results, Tryd.results17, go_sem, f1.1, f1.2.1, zc, zd]) rfl (fin_Z ZB.out R2.out (by omega) hk4 (Below.up HW.out T2.out))
end Go.Proofs.YtkhchaoehlefdaaDoor
