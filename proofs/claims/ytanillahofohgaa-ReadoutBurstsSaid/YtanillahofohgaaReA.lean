/- Layer 5: the check is linear: bits that are inverted, all among sixteen consecutive ones, are always seen. -/
import Derived.Test.YtanillahofohgaaRbH
set_option linter.unusedVariables false
set_option linter.unusedSimpArgs false
namespace Go.Proofs.Ytanillahofohgaa
open Go.RowKit Go.Shelf

theorem xx (a b c : Nat) : (a ^^^ c) ^^^ (b ^^^ c) = a ^^^ b := by
  rw [Nat.xor_comm b c, Nat.xor_assoc, ← Nat.xor_assoc c c b, Nat.xor_self, Nat.zero_xor]
theorem xr (a b c : Nat) : (a ^^^ b) ^^^ c = (a ^^^ c) ^^^ b := by
  rw [Nat.xor_assoc, Nat.xor_comm b c, ← Nat.xor_assoc]
theorem cS_xor {a b : Nat} (ha : a < 65536) (hb : b < 65536) : cS (a ^^^ b) = cS a ^^^ cS b := by
  have t := xor_top a b
  have d := xor_double a b
  unfold cS
  rcases top01 ha with h1 | h1 <;> rcases top01 hb with h2 | h2
  · rw [h1, h2] at t
    have t' : (a ^^^ b) / 32768 = 0 := t
    rw [if_neg (by omega), if_neg (by omega), if_neg (by omega), d]
  · rw [h1, h2] at t
    have t' : (a ^^^ b) / 32768 = 1 := t
    rw [if_pos (by omega), if_neg (by omega), if_pos (by omega), d, Nat.xor_assoc]
  · rw [h1, h2] at t
    have t' : (a ^^^ b) / 32768 = 1 := t
    rw [if_pos (by omega), if_pos (by omega), if_neg (by omega), d, xr]
  · rw [h1, h2] at t
    have t' : (a ^^^ b) / 32768 = 0 := t
    rw [if_neg (by omega), if_pos (by omega), if_pos (by omega), d, xx]
theorem cI_xor {a b : Nat} (ha : a < 65536) (hb : b < 65536) : ∀ j, cI j (a ^^^ b) = cI j a ^^^ cI j b
  | 0 => rfl
  | j + 1 => by
    show cS (cI j (a ^^^ b)) = cS (cI j a) ^^^ cS (cI j b)
    rw [cI_xor ha hb j, cS_xor (cI_lt ha j) (cI_lt hb j)]
theorem cS_zero {n : Nat} (hn : n < 65536) (h : cS n = 0) : n = 0 := by
  unfold cS at h
  split at h
  · have e : 2 * n % 65536 = 4129 := by
      have := congrArg (fun x => x ^^^ 4129) h
      simpa [Nat.xor_assoc] using this
    omega
  · omega
theorem cI_none {n : Nat} (hn : n < 65536) : ∀ j, cI j n = 0 → n = 0
  | 0, h => h
  | j + 1, h => cI_none hn j (cS_zero (cI_lt hn j) h)
theorem cI_zero : ∀ j, cI j 0 = 0
  | 0 => rfl
  | j + 1 => by
    show cS (cI j 0) = 0
    rw [cI_zero j]
    rfl
theorem cI_add (n : Nat) : ∀ i j, cI (i + j) n = cI i (cI j n)
  | 0, j => by rw [Nat.zero_add]; rfl
  | i + 1, j => by
    rw [Nat.succ_add]
    show cS (cI (i + j) n) = cS (cI i (cI j n))
    rw [cI_add n i j]
theorem cI_one : ∀ j, j < 16 → cI j 1 = 2 ^ j := by decide
theorem mul_xor (a b : Nat) : (a ^^^ b) * 256 = a * 256 ^^^ b * 256 := by
  have h := Nat.shiftLeft_xor_distrib (a := a) (b := b) (i := 8)
  simpa only [Nat.shiftLeft_eq] using h
theorem cB_xor {n x d : Nat} (hn : n < 65536) (hx : x < 256) (hd : d < 256) : cB n (x ^^^ d) = cB n x ^^^ cI 8 (d * 256) := by
  unfold cB
  rw [mul_xor, ← Nat.xor_assoc]
  exact cI_xor (xor16 hn (by omega)) (by omega) 8
theorem crcL_xor {a b : Nat} (ha : a < 65536) (hb : b < 65536) : ∀ (v : List UInt8), crcL (a ^^^ b) v = crcL a v ^^^ cI (8 * v.length) b
  | [] => rfl
  | x :: v => by
    have hx := byte_lt x
    have e : cB (a ^^^ b) x.toNat = cB a x.toNat ^^^ cI 8 b := by
      unfold cB
      rw [xr]
      exact cI_xor (xor16 ha (by omega)) hb 8
    rw [crcL_cons, crcL_cons, e, crcL_xor (cB_lt ha hx) (cI_lt hb 8) v, List.length_cons, ← cI_add]
    rfl
theorem crcL_set {d : Nat} (hd : d < 256) : ∀ (l : List UInt8) (n i : Nat) (y : UInt8) (hn : n < 65536) (h : i < l.length) (hy : y.toNat = l[i].toNat ^^^ d), crcL n (l.set i y) = crcL n l ^^^ cI (8 * (l.length - i)) (d * 256)
  | [], _, _, _, _, h, _ => by simp at h
  | x :: v, n, 0, y, hn, _, hy => by
    have hx := byte_lt x
    have hc : d * 256 < 65536 := by omega
    have hy' : y.toNat = x.toNat ^^^ d := hy
    show crcL n (y :: v) = _
    rw [crcL_cons, crcL_cons, hy', cB_xor hn hx hd, crcL_xor (cB_lt hn hx) (cI_lt hc 8) v, ← cI_add]
    rfl
  | x :: v, n, i + 1, y, hn, h, hy => by
    have h' : i < v.length := by simpa using h
    show crcL n (x :: v.set i y) = _
    rw [crcL_cons, crcL_cons, crcL_set hd v _ i y (cB_lt hn (byte_lt x)) h' hy, List.length_cons, Nat.add_sub_add_right]

/-- A bit is inverted. -/
def flip (q : Nat) (l : List UInt8) : List UInt8 := l.set (q / 8) (flB ((l[q / 8]?).getD 0) (q % 8))
theorem flip_len (q : Nat) (l : List UInt8) : (flip q l).length = l.length := by unfold flip; rw [List.length_set]
theorem bit_of : ∀ r, r < 8 → 128 / 2 ^ r < 256 ∧ 128 / 2 ^ r * 256 = 2 ^ (15 - r) := by decide
theorem flip_crc (l : List UInt8) (n q : Nat) (hn : n < 65536) (h : q < 8 * l.length) : crcL n (flip q l) = crcL n l ^^^ cI (8 * l.length + 15 - q) 1 := by
  have hi : q / 8 < l.length := by omega
  obtain ⟨r1, r2⟩ := bit_of (q % 8) (Nat.mod_lt _ (by decide))
  unfold flip
  rw [List.getElem?_eq_getElem hi, Option.getD_some]
  rw [crcL_set r1 l n (q / 8) _ hn hi (flB_nat _ _), r2, ← cI_one _ (by omega), ← cI_add]
  congr 2
  omega
/-- Bits are inverted, one after the other: those of `P`, where `g` says. -/
def fl (P : Nat → Bool) (g : Nat → Nat) : Nat → List UInt8 → List UInt8
  | 0, l => l
  | k + 1, l => if P k then flip (g k) (fl P g k l) else fl P g k l
theorem fl_succ (P : Nat → Bool) (g : Nat → Nat) (k : Nat) (l : List UInt8) : fl P g (k + 1) l = if P k then flip (g k) (fl P g k l) else fl P g k l := rfl
theorem fl_len (P : Nat → Bool) (g : Nat → Nat) (l : List UInt8) : ∀ k, (fl P g k l).length = l.length
  | 0 => rfl
  | k + 1 => by
    rw [fl_succ]
    split
    · rw [flip_len, fl_len P g l k]
    · exact fl_len P g l k
/-- The bits that are inverted, as a number. -/
def acc (P : Nat → Bool) : Nat → Nat
  | 0 => 0
  | k + 1 => if P k then acc P k ^^^ 2 ^ (15 - k) else acc P k
theorem acc_lt (P : Nat → Bool) : ∀ k, acc P k < 65536
  | 0 => Nat.zero_lt_succ _
  | k + 1 => by
    unfold acc
    split
    · refine xor16 (acc_lt P k) ?_
      have : 2 ^ (15 - k) ≤ 2 ^ 15 := Nat.pow_le_pow_right (by decide) (by omega)
      omega
    · exact acc_lt P k
theorem acc_bit (P : Nat → Bool) (j : Nat) (hj : j < 16) : ∀ k, k ≤ 16 → (acc P k).testBit (15 - j) = (decide (j < k) && P j)
  | 0, _ => by simp [acc]
  | k + 1, hk => by
    have ih := acc_bit P j hj k (by omega)
    unfold acc
    by_cases e : j = k
    · subst e
      have e1 : decide (j < j + 1) = true := decide_eq_true (by omega)
      have e2 : decide (j < j) = false := decide_eq_false (by omega)
      rw [e2] at ih
      split
      · rename_i hp
        rw [Nat.testBit_xor, ih, Nat.testBit_two_pow, e1, hp]
        simp
      · rename_i hp
        rw [ih, e1]
        simpa using hp
    · have e1 : decide (j < k + 1) = decide (j < k) := by
        by_cases hjk : j < k
        · rw [decide_eq_true hjk, decide_eq_true (by omega)]
        · rw [decide_eq_false hjk, decide_eq_false (by omega)]
      rw [e1]
      split
      · rw [Nat.testBit_xor, ih, Nat.testBit_two_pow, decide_eq_false (show ¬ (15 - k = 15 - j) by omega)]
        simp
      · exact ih
theorem acc_none {P : Nat → Bool} (h : acc P 16 = 0) (j : Nat) (hj : j < 16) : P j = false := by
  have := acc_bit P j hj 16 (Nat.le_refl _)
  rw [h, decide_eq_true hj] at this
  simpa using this.symm
theorem fl_none {P : Nat → Bool} (g : Nat → Nat) (l : List UInt8) : ∀ k, (∀ j, j < k → P j = false) → fl P g k l = l
  | 0, _ => rfl
  | k + 1, h => by
    rw [fl_succ, h k (by omega)]
    exact fl_none g l k fun j hj => h j (by omega)
theorem fl_crc (P : Nat → Bool) (g : Nat → Nat) (l : List UInt8) (n e : Nat) (hn : n < 65536) (hg : ∀ j, P j = true → g j < 8 * l.length ∧ 8 * l.length + j = g j + e) :
    ∀ k, k ≤ 16 → crcL n (fl P g k l) = crcL n l ^^^ cI e (acc P k)
  | 0, _ => by
    show crcL n l = crcL n l ^^^ cI e 0
    rw [cI_zero, Nat.xor_zero]
  | k + 1, hk => by
    have ih := fl_crc P g l n e hn hg k (by omega)
    rw [fl_succ]
    unfold acc
    by_cases hp : P k = true
    · rw [if_pos hp, if_pos hp]
      obtain ⟨g1, g2⟩ := hg k hp
      have h15 : 2 ^ (15 - k) < 65536 := by
        have : 2 ^ (15 - k) ≤ 2 ^ 15 := Nat.pow_le_pow_right (by decide) (by omega)
        omega
      rw [flip_crc _ n _ hn (by rw [fl_len]; exact g1), fl_len, ih, cI_xor (acc_lt P k) h15, Nat.xor_assoc]
      congr 2
      rw [← cI_one _ (by omega), ← cI_add]
      congr 1
      omega
    · rw [if_neg hp, if_neg hp]
      exact ih
theorem cI_small {n : Nat} (hn : n < 256) : ∀ j, j ≤ 8 → cI j n = n * 2 ^ j
  | 0, _ => by simp [cI]
  | j + 1, hj => by
    show cS (cI j n) = _
    have h2 : 2 ^ j ≤ 2 ^ 7 := Nat.pow_le_pow_right (by decide) (by omega)
    have h3 : n * 2 ^ j ≤ 255 * 2 ^ 7 := Nat.mul_le_mul (by omega) h2
    rw [cI_small hn j (by omega), code_low _ (by omega), Nat.pow_succ, Nat.mul_comm 2, Nat.mul_assoc]
/-- A string that ends with its check. -/
theorem two_val (x y : UInt8) : beV [x, y] = x.toNat * 256 ^^^ y.toNat := by
  have hx := byte_lt x
  have hy := byte_lt y
  have e1 : beV [x, y] = x.toNat * 256 + y.toNat := by unfold beV; simp
  rw [e1]
  have := Nat.shiftLeft_add_eq_or_of_lt (b := y.toNat) (i := 8) (by omega) x.toNat
  rw [Nat.shiftLeft_eq] at this
  rw [show (256 : Nat) = 2 ^ 8 from rfl, this]
  apply Nat.eq_of_testBit_eq
  intro i
  rw [Nat.testBit_or, Nat.testBit_xor]
  by_cases hi : i < 8
  · have : (x.toNat * 2 ^ 8).testBit i = false := by rw [Nat.mul_comm, Nat.testBit_two_pow_mul]; simp; omega
    rw [this]; simp
  · have : y.toNat.testBit i = false := Nat.testBit_lt_two_pow (Nat.lt_of_lt_of_le (show y.toNat < 2 ^ 8 by omega) (Nat.pow_le_pow_right (by decide) (by omega)))
    rw [this]; simp
theorem crcL_two (r : Nat) (x y : UInt8) (hr : r < 65536) : crcL r [x, y] = cI 8 (cI 8 (r ^^^ beV [x, y])) := by
  have hx := byte_lt x
  have hy := byte_lt y
  have e2 : cI 8 y.toNat = y.toNat * 256 := cI_small hy 8 (Nat.le_refl _)
  rw [crcL_cons, crcL_cons, crcL_nil, cB_def, cB_def, two_val, ← Nat.xor_assoc]
  have h1 : r ^^^ x.toNat * 256 < 65536 := xor16 hr (by omega)
  generalize r ^^^ x.toNat * 256 = z at *
  rw [← e2, ← cI_xor h1 (by omega)]
theorem two_of {l : List UInt8} (h : l.length = 2) : ∃ x y, l = [x, y] := by
  match l, h with
  | [x, y], _ => exact ⟨x, y, rfl⟩
theorem crcL_end {u v : List UInt8} (hv : v.length = 2) (h : beV v = crc0 u) : crc0 (u ++ v) = 0 := by
  obtain ⟨x, y, rfl⟩ := two_of hv
  unfold crc0 at h ⊢
  rw [crcL_append, crcL_two _ _ _ (crcL_lt (by decide) u), h, Nat.xor_self, cI_zero, cI_zero]
theorem flip_take (q m : Nat) (l : List UInt8) (h : q / 8 < m) : (flip q l).take m = flip q (l.take m) := by
  unfold flip
  rw [List.take_set, List.getElem?_take, if_pos h]
theorem flip_take_no (q m : Nat) (l : List UInt8) (h : m ≤ q / 8) : (flip q l).take m = l.take m := by
  unfold flip
  rw [List.take_set, List.set_eq_of_length_le (by rw [List.length_take]; omega)]
theorem flip_drop (q m : Nat) (l : List UInt8) (h : 8 * m ≤ q) : (flip q l).drop m = flip (q - 8 * m) (l.drop m) := by
  unfold flip
  rw [List.drop_set, if_neg (by omega), List.getElem?_drop, show (q - 8 * m) / 8 = q / 8 - m by omega, show m + (q / 8 - m) = q / 8 by omega, show (q - 8 * m) % 8 = q % 8 by omega]
theorem flip_drop_no (q m : Nat) (l : List UInt8) (h : q < 8 * m) : (flip q l).drop m = l.drop m := by
  unfold flip
  rw [List.drop_set, if_pos (by omega)]
theorem fl_take (P : Nat → Bool) (g : Nat → Nat) (m : Nat) (l : List UInt8) : ∀ k, (fl P g k l).take m = fl (fun j => P j && decide (g j < 8 * m)) g k (l.take m)
  | 0 => rfl
  | k + 1 => by
    rw [fl_succ, fl_succ, ← fl_take P g m l k]
    by_cases hp : P k = true
    · rw [if_pos hp]
      by_cases hg : g k < 8 * m
      · rw [hp, decide_eq_true hg, if_pos (show (true && true) = true from rfl), flip_take _ _ _ (by omega)]
      · rw [hp, decide_eq_false hg, if_neg (show ¬ (true && false) = true from nofun), flip_take_no _ _ _ (by omega)]
    · have hp' : P k = false := by simpa using hp
      rw [hp', if_neg (by simp), if_neg (by simp)]
theorem fl_drop (P : Nat → Bool) (g : Nat → Nat) (m : Nat) (l : List UInt8) : ∀ k, (fl P g k l).drop m = fl (fun j => P j && decide (8 * m ≤ g j)) (fun j => g j - 8 * m) k (l.drop m)
  | 0 => rfl
  | k + 1 => by
    rw [fl_succ, fl_succ, ← fl_drop P g m l k]
    by_cases hp : P k = true
    · rw [if_pos hp]
      by_cases hg : 8 * m ≤ g k
      · rw [hp, decide_eq_true hg, if_pos (show (true && true) = true from rfl), flip_drop _ _ _ hg]
      · rw [hp, decide_eq_false hg, if_neg (show ¬ (true && false) = true from nofun), flip_drop_no _ _ _ (by omega)]
    · have hp' : P k = false := by simpa using hp
      rw [hp', if_neg (by simp), if_neg (by simp)]
/-- The bit k of sixteen, from the highest one on. -/
def bitB (B k : Nat) : Bool := B.testBit (15 - k)
theorem some_bit {B : Nat} (h : B < 65536) (h0 : B ≠ 0) : ∃ j, j < 16 ∧ bitB B j = true := by
  refine Classical.byContradiction fun hc => h0 ?_
  apply Nat.eq_of_testBit_eq
  intro i
  rw [Nat.zero_testBit]
  by_cases hi : i < 16
  · have := fun hb => hc ⟨15 - i, by omega, hb⟩
    unfold bitB at this
    rw [show 15 - (15 - i) = i by omega] at this
    simpa using this
  · exact Nat.testBit_lt_two_pow (Nat.lt_of_lt_of_le (show B < 2 ^ 16 by omega) (Nat.pow_le_pow_right (by decide) (by omega)))
theorem xor_none {a b : Nat} (ha : a = 0) (h : a ^^^ b = 0) : b = 0 := by rw [ha, Nat.zero_xor] at h; exact h
/-- A frame of which bits are inverted, all among sixteen consecutive ones, is none, whatever follows. -/
theorem burst_seen (f : Fr) (r : List UInt8) (A B : Nat) (ho : f.ok = true) (hB : B < 65536) (h0 : B ≠ 0) (hA : A + 16 ≤ 8 * (packL f).length) : unpOk (fl (bitB B) (fun k => A + k) 16 (packL f) ++ r) = false := by
  cases hu : unpOk (fl (bitB B) (fun k => A + k) 16 (packL f) ++ r) with
  | false => rfl
  | true =>
    exfalso
    obtain ⟨l, hl⟩ : ∃ l, l = fl (bitB B) (fun k => A + k) 16 (packL f) := ⟨_, rfl⟩
    have hlen : l.length = (packL f).length := by rw [hl, fl_len]
    have hpl := packL_len f
    have hh := headL_len f
    have hbl := hbL_len f.hs
    have m6 := beL_len (crc0 (headL f)) 2
    have m7 := beL_len (crc0 (hbL f.hs)) 2
    have hn : hdN (packL f ++ r) = f.hs.length := (pack_back f r ho).2.2.2.2
    rw [← hl] at hu
    unfold unpOk headIs thereB at hu
    simp only [Bool.and_eq_true, decide_eq_true_eq] at hu
    obtain ⟨⟨-, -, -, h1⟩, h2, -, h3⟩ := hu
    unfold hdSum at h1
    rw [decide_eq_true_eq] at h1
    -- the head
    have t0 : (packL f).take 18 = shutL (headL f) := by
      unfold packL
      rw [List.take_append_of_le_length (by rw [shutL_len]; omega), List.take_of_length_le (by rw [shutL_len]; omega)]
    have c0 : crc0 ((packL f).take 18) = 0 := by
      rw [t0]
      exact crcL_end m6 (by rw [beV_beL, Nat.mod_eq_of_lt (crc0_lt _)])
    have s1 : l.take 18 = (l ++ r).take 16 ++ ((l ++ r).drop 16).take 2 := by
      rw [← List.take_append_of_le_length (l₁ := l) (l₂ := r) (by omega), show 18 = 16 + 2 from rfl, List.take_add]
    have c1 : crc0 (l.take 18) = 0 := by
      rw [s1]
      exact crcL_end (by rw [List.length_take, List.length_drop, List.length_append]; omega) h1
    have q1 : l.take 18 = fl (fun j => bitB B j && decide (A + j < 8 * 18)) (fun k => A + k) 16 ((packL f).take 18) := by rw [hl, fl_take]
    have z1 : acc (fun j => bitB B j && decide (A + j < 8 * 18)) 16 = 0 := by
      have e := fl_crc (fun j => bitB B j && decide (A + j < 8 * 18)) (fun k => A + k) ((packL f).take 18) 65535 (8 * 18 - A) (by decide) (fun j hj => by
        simp only [Bool.and_eq_true, decide_eq_true_eq] at hj
        rw [List.length_take]
        omega) 16 (Nat.le_refl _)
      rw [← q1] at e
      unfold crc0 at c0 c1
      rw [c0, c1, Nat.zero_xor] at e
      exact cI_none (acc_lt _ _) _ e.symm
    have u1 : l.take 18 = (packL f).take 18 := by rw [q1]; exact fl_none _ _ _ fun j hj => acc_none z1 j hj
    -- the rest
    have hN : hdN (l ++ r) = f.hs.length := by
      rw [← hn]
      unfold hdN
      have v1 : ∀ x : List UInt8, 18 ≤ x.length → ((x ++ r).drop 14).take 2 = ((x.take 18).drop 14).take 2 := fun x hx => by
        rw [List.drop_take, List.take_take, List.drop_append_of_le_length (by omega), List.take_append_of_le_length (by rw [List.length_drop]; omega)]
        rfl
      rw [v1 l (by omega), v1 (packL f) (by omega), u1]
    rw [hN] at h2 h3
    have d0 : (packL f).drop 18 = shutL (hbL f.hs) := by
      unfold packL
      rw [List.drop_append_of_le_length (by rw [shutL_len]; omega), List.drop_eq_nil_of_le (by rw [shutL_len]; omega)]
      rfl
    have c2 : crc0 ((packL f).drop 18) = 0 := by
      rw [d0]
      exact crcL_end m7 (by rw [beV_beL, Nat.mod_eq_of_lt (crc0_lt _)])
    have x1 : (l ++ r).drop 18 = l.drop 18 ++ r := List.drop_append_of_le_length (by omega)
    have ld : (l.drop 18).length = 4 * f.hs.length + 2 := by rw [List.length_drop]; omega
    have s2 : l.drop 18 = ((l ++ r).drop 18).take (4 * f.hs.length) ++ (((l ++ r).drop 18).drop (4 * f.hs.length)).take 2 := by
      rw [← List.take_add, x1, List.take_append_of_le_length (by omega), List.take_of_length_le (by omega)]
    have c3 : crc0 (l.drop 18) = 0 := by
      rw [s2]
      refine crcL_end ?_ h3
      rw [x1, List.length_take, List.length_drop, List.length_append]
      omega
    have q2 : l.drop 18 = fl (fun j => bitB B j && decide (8 * 18 ≤ A + j)) (fun k => A + k - 8 * 18) 16 ((packL f).drop 18) := by rw [hl, fl_drop]
    have z2 : acc (fun j => bitB B j && decide (8 * 18 ≤ A + j)) 16 = 0 := by
      have hj16 : ∀ j, bitB B j = true → j < 16 ∨ bitB B 15 = true := fun j hj => by
        by_cases h : j < 16
        · exact Or.inl h
        · refine Or.inr ?_
          unfold bitB at hj ⊢
          rw [show 15 - j = 15 - 15 by omega] at hj
          exact hj
      have e := fl_crc (fun j => bitB B j && decide (8 * 18 ≤ A + j) && decide (j < 16)) (fun k => A + k - 8 * 18) ((packL f).drop 18) 65535 (8 * (4 * f.hs.length + 2) + 8 * 18 - A) (by decide) (fun j hj => by
        simp only [Bool.and_eq_true, decide_eq_true_eq] at hj
        rw [List.length_drop]
        omega) 16 (Nat.le_refl _)
      have fe : ∀ k, k ≤ 16 → fl (fun j => bitB B j && decide (8 * 18 ≤ A + j) && decide (j < 16)) (fun k => A + k - 8 * 18) k ((packL f).drop 18) = fl (fun j => bitB B j && decide (8 * 18 ≤ A + j)) (fun k => A + k - 8 * 18) k ((packL f).drop 18) := by
        intro k
        induction k with
        | zero => intro _; rfl
        | succ k ih =>
          intro hk
          rw [fl_succ, fl_succ, ih (by omega), decide_eq_true (show k < 16 by omega), Bool.and_true]
      have ae : ∀ k, k ≤ 16 → acc (fun j => bitB B j && decide (8 * 18 ≤ A + j) && decide (j < 16)) k = acc (fun j => bitB B j && decide (8 * 18 ≤ A + j)) k := by
        intro k
        induction k with
        | zero => intro _; rfl
        | succ k ih =>
          intro hk
          unfold acc
          rw [ih (by omega), decide_eq_true (show k < 16 by omega), Bool.and_true]
      rw [fe 16 (Nat.le_refl _), ae 16 (Nat.le_refl _), ← q2] at e
      unfold crc0 at c2 c3
      rw [c2, c3, Nat.zero_xor] at e
      exact cI_none (acc_lt _ _) _ e.symm
    obtain ⟨j, hj, hb⟩ := some_bit hB h0
    have y1 := acc_none z1 j hj
    have y2 := acc_none z2 j hj
    rw [hb, Bool.true_and, decide_eq_false_iff_not] at y1 y2
    omega
end Go.Proofs.Ytanillahofohgaa
