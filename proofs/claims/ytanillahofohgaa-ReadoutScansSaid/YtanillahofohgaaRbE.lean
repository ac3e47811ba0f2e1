/- Layer 5: a packed frame, unpacked. -/
import Derived.Test.YtanillahofohgaaRbD
set_option linter.unusedVariables false
set_option linter.unusedSimpArgs false
set_option maxRecDepth 100000
namespace Go.Proofs.Ytanillahofohgaa
open Go.RowKit

theorem beV_from (l : List UInt8) : ∀ n, l.foldl (fun n b => n * 256 + b.toNat) n = n * 256 ^ l.length + beV l := by
  induction l with
  | nil => intro n; simp [beV]
  | cons b l ih =>
    intro n
    unfold beV
    rw [List.foldl_cons, List.foldl_cons, ih, ih]
    rw [List.length_cons, Nat.pow_succ]
    rw [show (0 * 256 + b.toNat) = b.toNat by omega, Nat.add_mul, Nat.mul_assoc, Nat.mul_comm 256 (256 ^ l.length)]
    omega
theorem beV_cons (b : UInt8) (l : List UInt8) : beV (b :: l) = b.toNat * 256 ^ l.length + beV l := by
  have h := beV_from l b.toNat
  unfold beV
  rw [List.foldl_cons, show (0 * 256 + b.toNat) = b.toNat by omega, h]
  rfl
theorem beV_beL (n : Nat) : ∀ s, beV (beL n s) = n % 256 ^ s
  | 0 => by unfold beL beV; simp; omega
  | s + 1 => by
    rw [beL_succ, beV_cons, beL_len, beV_beL n s, Nat.mod_pow_succ]
    have : (UInt8.ofNat (n / 256 ^ s % 256)).toNat = n / 256 ^ s % 256 := by simp
    rw [this, Nat.mul_comm]
    omega
theorem beV_int (n : Int) (s : Nat) (h0 : 0 ≤ n) (h : n < 256 ^ s) : ((beV (beL n.toNat s) : Nat) : Int) = n := by
  obtain ⟨k, rfl⟩ : ∃ k : Nat, n = (k : Int) := ⟨n.toNat, by omega⟩
  rw [Int.toNat_natCast, beV_beL, Nat.mod_eq_of_lt (by
    have h2 : ((k : Nat) : Int) < ((256 ^ s : Nat) : Int) := by simpa using h
    omega)]
theorem mid {a b c : List UInt8} {i j : Nat} (ha : a.length = i) (hb : b.length = j) : ((a ++ (b ++ c)).drop i).take j = b := by
  subst ha hb
  simp
theorem pre {a c : List UInt8} {i : Nat} (ha : a.length = i) : (a ++ c).take i = a := by
  subst ha
  simp
theorem rawL_hb : ∀ (l : Hits) (r : List UInt8), (∀ x ∈ l, (0 ≤ x.1 ∧ x.1 < 65536) ∧ (0 ≤ x.2 ∧ x.2 < 65536)) → rawL (hbL l ++ r) l.length = l
  | [], r, _ => rfl
  | x :: l, r, h => by
    have hx := h x (List.mem_cons_self ..)
    have e : hbL (x :: l) ++ r = beL x.1.toNat 2 ++ (beL x.2.toNat 2 ++ (hbL l ++ r)) := by simp [hbL, List.append_assoc]
    have l1 := beL_len x.1.toNat 2
    have l2 := beL_len x.2.toNat 2
    rw [List.length_cons, e]
    show (((beV ((beL x.1.toNat 2 ++ (beL x.2.toNat 2 ++ (hbL l ++ r))).take 2) : Nat) : Int), ((beV (((beL x.1.toNat 2 ++ (beL x.2.toNat 2 ++ (hbL l ++ r))).drop 2).take 2) : Nat) : Int)) :: rawL ((beL x.1.toNat 2 ++ (beL x.2.toNat 2 ++ (hbL l ++ r))).drop 4) l.length = x :: l
    rw [pre l1, mid l1 l2, beV_int _ _ hx.1.1 (by have := hx.1.2; omega), beV_int _ _ hx.2.1 (by have := hx.2.2; omega)]
    rw [show (beL x.1.toNat 2 ++ (beL x.2.toNat 2 ++ (hbL l ++ r))).drop 4 = hbL l ++ r by
      rw [← List.append_assoc, List.drop_append_of_le_length (by simp [l1, l2]), List.drop_eq_nil_of_le (by simp [l1, l2])]; rfl]
    rw [rawL_hb l r fun y hy => h y (List.mem_cons_of_mem _ hy)]

/-- What lies where in a packed frame. -/
theorem pack_back (f : Fr) (r : List UInt8) (ho : f.ok = true) : 18 ≤ (packL f ++ r).length ∧ hdOk (packL f ++ r) = true ∧ unpOk (packL f ++ r) = true ∧ unpF (packL f ++ r) = f ∧ hdN (packL f ++ r) = f.hs.length := by
  obtain ⟨o1, o2, o3, o4, o5, o6⟩ := ok_bd ho
  have hb := hitsB_mem f.hs (-1) o6 (by omega)
  have hlen := packL_len f
  have m1 := beL_len f.l.toNat 1
  have m2 := beL_len f.s.toNat 1
  have m3 := beL_len f.e.toNat 4
  have m4 := beL_len f.t.toNat 6
  have m5 := beL_len f.hs.length 2
  have m6 := beL_len (crc0 (headL f)) 2
  have m7 := beL_len (crc0 (hbL f.hs)) 2
  have hh := headL_len f
  have hbl := hbL_len f.hs
  obtain ⟨q, hq⟩ : ∃ q, q = hbL f.hs ++ (beL (crc0 (hbL f.hs)) 2 ++ r) := ⟨_, rfl⟩
  have e0 : packL f ++ r = headL f ++ (beL (crc0 (headL f)) 2 ++ q) := by rw [hq]; simp [packL, shutL, List.append_assoc]
  have e1 : packL f ++ r = [90, 195] ++ (beL f.l.toNat 1 ++ (beL f.s.toNat 1 ++ (beL f.e.toNat 4 ++ (beL f.t.toNat 6 ++ (beL f.hs.length 2 ++ (beL (crc0 (headL f)) 2 ++ q)))))) := by
    rw [e0]; generalize beL (crc0 (headL f)) 2 ++ q = z; simp [headL, List.append_assoc]
  have e2 : packL f ++ r = ([90, 195] ++ beL f.l.toNat 1) ++ (beL f.s.toNat 1 ++ (beL f.e.toNat 4 ++ (beL f.t.toNat 6 ++ (beL f.hs.length 2 ++ (beL (crc0 (headL f)) 2 ++ q))))) := by rw [e1]; simp [List.append_assoc]
  have e3 : packL f ++ r = ([90, 195] ++ beL f.l.toNat 1 ++ beL f.s.toNat 1) ++ (beL f.e.toNat 4 ++ (beL f.t.toNat 6 ++ (beL f.hs.length 2 ++ (beL (crc0 (headL f)) 2 ++ q)))) := by rw [e1]; simp [List.append_assoc]
  have e4 : packL f ++ r = ([90, 195] ++ beL f.l.toNat 1 ++ beL f.s.toNat 1 ++ beL f.e.toNat 4) ++ (beL f.t.toNat 6 ++ (beL f.hs.length 2 ++ (beL (crc0 (headL f)) 2 ++ q))) := by rw [e1]; simp [List.append_assoc]
  have e5 : packL f ++ r = ([90, 195] ++ beL f.l.toNat 1 ++ beL f.s.toNat 1 ++ beL f.e.toNat 4 ++ beL f.t.toNat 6) ++ (beL f.hs.length 2 ++ (beL (crc0 (headL f)) 2 ++ q)) := by rw [e1]; simp [List.append_assoc]
  have d1 : (((beV (((packL f ++ r).drop 2).take 1)) : Nat) : Int) = f.l := by rw [e1, mid (by rfl) m1, beV_int _ _ o1.1 (by omega)]
  have d2 : (((beV (((packL f ++ r).drop 3).take 1)) : Nat) : Int) = f.s := by rw [e2, mid (by simp [m1]) m2, beV_int _ _ o2.1 (by omega)]
  have d3 : (((beV (((packL f ++ r).drop 4).take 4)) : Nat) : Int) = f.e := by rw [e3, mid (by simp [m1, m2]) m3, beV_int _ _ o3.1 (by omega)]
  have d4 : (((beV (((packL f ++ r).drop 8).take 6)) : Nat) : Int) = f.t := by rw [e4, mid (by simp [m1, m2, m3]) m4, beV_int _ _ o4.1 (by omega)]
  have d5 : hdN (packL f ++ r) = f.hs.length := by unfold hdN; rw [e5, mid (by simp [m1, m2, m3, m4]) m5, beV_beL, Nat.mod_eq_of_lt (by omega)]
  have d6 : hdSum (packL f ++ r) = true := by
    unfold hdSum
    rw [e0, mid hh m6, pre hh, beV_beL, Nat.mod_eq_of_lt (crc0_lt _)]
    exact decide_eq_true rfl
  have d7 : (packL f ++ r).drop 18 = q := by
    rw [e0, ← List.append_assoc, List.drop_append_of_le_length (by simp [hh, m6]), List.drop_eq_nil_of_le (by simp [hh, m6])]; rfl
  have d8 : (packL f ++ r).take 2 = [90, 195] := by rw [e1]; exact pre rfl
  have dl : 18 ≤ (packL f ++ r).length := by rw [List.length_append]; omega
  have hok : hdOk (packL f ++ r) = true := by
    unfold hdOk
    have : headB f.l f.s f.e f.t f.hs.length = true := by
      unfold Fr.ok at ho
      simp only [Bool.and_eq_true] at ho
      exact ho.1
    rw [d5]
    show headB ((beV (((packL f ++ r).drop 2).take 1) : Nat) : Int) ((beV (((packL f ++ r).drop 3).take 1) : Nat) : Int) ((beV (((packL f ++ r).drop 4).take 4) : Nat) : Int) ((beV (((packL f ++ r).drop 8).take 6) : Nat) : Int) _ = true
    rw [d1, d2, d3, d4]
    exact this
  have draw : rawL q f.hs.length = f.hs := by
    rw [hq]
    exact rawL_hb _ _ fun x hx => by have := hb x hx; omega
  refine ⟨dl, hok, ?_, ?_, d5⟩
  · unfold unpOk headIs thereB
    rw [hok, d6, d7, d5, draw, o6, decide_eq_true dl, decide_eq_true d8]
    have t1 : q.take (4 * f.hs.length) = hbL f.hs := by rw [hq]; exact pre hbl
    have t2 : (q.drop (4 * f.hs.length)).take 2 = beL (crc0 (hbL f.hs)) 2 := by rw [hq]; exact mid hbl m7
    have t3 : 4 * f.hs.length + 2 ≤ q.length := by rw [hq]; simp [hbl, m7]
    rw [t1, t2, beV_beL, Nat.mod_eq_of_lt (crc0_lt _), decide_eq_true t3, decide_eq_true rfl]
    rfl
  · unfold unpF
    rw [d7, d5, draw]
    show (⟨((beV (((packL f ++ r).drop 2).take 1) : Nat) : Int), ((beV (((packL f ++ r).drop 3).take 1) : Nat) : Int), ((beV (((packL f ++ r).drop 4).take 4) : Nat) : Int), ((beV (((packL f ++ r).drop 8).take 6) : Nat) : Int), f.hs⟩ : Fr) = f
    rw [d1, d2, d3, d4]
end Go.Proofs.Ytanillahofohgaa
