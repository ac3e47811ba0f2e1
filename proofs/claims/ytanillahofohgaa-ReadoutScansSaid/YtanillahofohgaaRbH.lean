/- Layer 5: what is unpacked, packed again. -/
import Derived.Test.YtanillahofohgaaRbE
set_option linter.unusedVariables false
set_option linter.unusedSimpArgs false
set_option maxRecDepth 100000
namespace Go.Proofs.Ytanillahofohgaa
open Go.RowKit

theorem beL_cons (b : UInt8) (l : List UInt8) : beL (beV (b :: l)) (l.length + 1) = b :: beL (beV (b :: l)) l.length := by
  rw [beL_succ, beV_cons]
  have h : beV l < 256 ^ l.length := by have := beV_lt l l.length (Nat.le_refl _); rwa [List.take_of_length_le (Nat.le_refl _)] at this
  congr 1
  have hp : 0 < 256 ^ l.length := Nat.pow_pos (by decide)
  rw [Nat.add_comm, Nat.add_mul_div_right _ _ hp, Nat.div_eq_of_lt h, Nat.zero_add, Nat.mod_eq_of_lt (byte_lt b)]
  simp
theorem beL_mod (s : Nat) : ∀ n k, beL (k * 256 ^ s + n) s = beL n s := by
  induction s with
  | zero => intro n k; unfold beL; rfl
  | succ s ih =>
    intro n k
    have hp : 0 < 256 ^ s := Nat.pow_pos (by decide)
    have e : k * 256 ^ (s + 1) + n = (k * 256) * 256 ^ s + n := by rw [Nat.pow_succ, Nat.mul_comm (256 ^ s) 256, Nat.mul_assoc]
    rw [beL_succ, beL_succ, e, ih]
    congr 2
    rw [Nat.add_comm, Nat.add_mul_div_right _ _ hp, Nat.add_mul_mod_self_right]
theorem beL_beV (l : List UInt8) : beL (beV l) l.length = l := by
  induction l with
  | nil => unfold beL; rfl
  | cons b l ih => rw [List.length_cons, beL_cons, beV_cons, beL_mod, ih]
theorem beL_beV' {l : List UInt8} {s : Nat} (h : l.length = s) : beL (((beV l : Nat) : Int)).toNat s = l := by
  rw [Int.toNat_natCast, ← h, beL_beV]
theorem slen (m : List UInt8) (i j : Nat) (h : i + j ≤ m.length) : ((m.drop i).take j).length = j := by
  rw [List.length_take, List.length_drop]; omega
theorem drop_split (m : List UInt8) (i j : Nat) : m.drop i = (m.drop i).take j ++ m.drop (i + j) := by
  rw [← List.drop_drop, List.take_append_drop]
theorem hbL_raw : ∀ (n : Nat) (m : List UInt8), 4 * n ≤ m.length → hbL (rawL m n) = m.take (4 * n)
  | 0, m, _ => by simp [rawL, hbL]
  | n + 1, m, h => by
    have h1 : (m.take 2).length = 2 := by rw [List.length_take]; omega
    have h2 := slen m 2 2 (by omega)
    have ih := hbL_raw n (m.drop 4) (by rw [List.length_drop]; omega)
    show hbL (_ :: rawL (m.drop 4) n) = _
    unfold hbL at ih ⊢
    rw [List.flatMap_cons, ih]
    show beL (((beV (m.take 2) : Nat) : Int)).toNat 2 ++ beL (((beV ((m.drop 2).take 2) : Nat) : Int)).toNat 2 ++ (m.drop 4).take (4 * n) = m.take (4 * (n + 1))
    rw [beL_beV' h1, beL_beV' h2]
    have e : m.take (4 * (n + 1)) = m.take 4 ++ (m.drop 4).take (4 * n) := by
      rw [show 4 * (n + 1) = 4 + 4 * n by omega, List.take_add]
    rw [e, show m.take 4 = m.take 2 ++ (m.drop 2).take 2 from by rw [show 4 = 2 + 2 from rfl, List.take_add]]
theorem unpF_hs (m : List UInt8) : (unpF m).hs = rawL (m.drop 18) (hdN m) := rfl
theorem unpF_ok (m : List UInt8) : (unpF m).ok = (hdOk m && hitsB (-1) (rawL (m.drop 18) (hdN m))) := by
  unfold Fr.ok hdOk
  rw [unpF_hs, rawL_len]
  rfl
theorem headL_unp (m : List UInt8) (h : 16 ≤ m.length) : headL (unpF m) = [90, 195] ++ (m.drop 2).take 14 := by
  have s1 := slen m 2 1 (by omega)
  have s2 := slen m 3 1 (by omega)
  have s3 := slen m 4 4 (by omega)
  have s4 := slen m 8 6 (by omega)
  have s5 := slen m 14 2 (by omega)
  have e : headL (unpF m) = [90, 195] ++ beL (((beV ((m.drop 2).take 1) : Nat) : Int)).toNat 1 ++ beL (((beV ((m.drop 3).take 1) : Nat) : Int)).toNat 1 ++ beL (((beV ((m.drop 4).take 4) : Nat) : Int)).toNat 4 ++ beL (((beV ((m.drop 8).take 6) : Nat) : Int)).toNat 6 ++ beL (rawL (m.drop 18) (hdN m)).length 2 := rfl
  have e5 : beL (rawL (m.drop 18) (hdN m)).length 2 = (m.drop 14).take 2 := by
    rw [rawL_len]
    have := beL_beV' s5
    rwa [Int.toNat_natCast] at this
  rw [e, e5, beL_beV' s1, beL_beV' s2, beL_beV' s3, beL_beV' s4]
  have j : (m.drop 2).take 14 = (m.drop 2).take 1 ++ ((m.drop 3).take 1 ++ ((m.drop 4).take 4 ++ ((m.drop 8).take 6 ++ (m.drop 14).take 2))) := by
    rw [show (14 : Nat) = 1 + 13 from rfl, List.take_add, List.drop_drop, show 2 + 1 = 3 from rfl]
    congr 1
    rw [show (13 : Nat) = 1 + 12 from rfl, List.take_add, List.drop_drop, show 3 + 1 = 4 from rfl]
    congr 1
    rw [show (12 : Nat) = 4 + 8 from rfl, List.take_add, List.drop_drop, show 4 + 4 = 8 from rfl]
    congr 1
    rw [show (8 : Nat) = 6 + 2 from rfl, List.take_add, List.drop_drop]
  rw [j]
  simp only [List.append_assoc]

/-- What the document asks of bytes. -/
def refOk (m : List UInt8) : Bool := (unpF m).ok && decide (packL (unpF m) = m.take (20 + 4 * hdN m))
theorem packL_unp (m : List UInt8) (h : 20 + 4 * hdN m ≤ m.length) : packL (unpF m) = (([90, 195] ++ (m.drop 2).take 14) ++ beL (crc0 ([90, 195] ++ (m.drop 2).take 14)) 2) ++ ((m.drop 18).take (4 * hdN m) ++ beL (crc0 ((m.drop 18).take (4 * hdN m))) 2) := by
  unfold packL shutL
  rw [headL_unp m (by omega), unpF_hs, hbL_raw _ _ (by rw [List.length_drop]; omega)]
theorem take_split (m : List UInt8) (n : Nat) : m.take (20 + 4 * n) = ((m.take 2 ++ (m.drop 2).take 14) ++ (m.drop 16).take 2) ++ ((m.drop 18).take (4 * n) ++ ((m.drop 18).drop (4 * n)).take 2) := by
  rw [show 20 + 4 * n = 2 + (14 + (2 + (4 * n + 2))) by omega, List.take_add]
  rw [show List.take (14 + (2 + (4 * n + 2))) (m.drop 2) = (m.drop 2).take 14 ++ List.take (2 + (4 * n + 2)) (m.drop 16) by rw [List.take_add, List.drop_drop]]
  rw [show List.take (2 + (4 * n + 2)) (m.drop 16) = (m.drop 16).take 2 ++ List.take (4 * n + 2) (m.drop 18) by rw [List.take_add, List.drop_drop]]
  rw [show List.take (4 * n + 2) (m.drop 18) = (m.drop 18).take (4 * n) ++ ((m.drop 18).drop (4 * n)).take 2 by rw [List.take_add]]
  simp only [List.append_assoc]
theorem beL_iff {l : List UInt8} {c : Nat} (hl : l.length = 2) (hc : c < 65536) : (beL c 2 = l) ↔ beV l = c := by
  constructor
  · intro h
    rw [← h, beV_beL, Nat.mod_eq_of_lt (by omega)]
  · intro h
    rw [← h]
    have := beL_beV l
    rwa [hl] at this
theorem refOk_iff (m : List UInt8) (h : 20 + 4 * hdN m ≤ m.length) : refOk m = unpOk m := by
  have q1 := slen m 16 2 (by omega)
  have q2 : (((m.drop 18).drop (4 * hdN m)).take 2).length = 2 := slen (m.drop 18) (4 * hdN m) 2 (by rw [List.length_drop]; omega)
  have q3 : (m.take 2).length = 2 := by rw [List.length_take]; omega
  have key : packL (unpF m) = m.take (20 + 4 * hdN m) ↔ m.take 2 = [90, 195] ∧ beV ((m.drop 16).take 2) = crc0 (m.take 16) ∧ beV (((m.drop 18).drop (4 * hdN m)).take 2) = crc0 ((m.drop 18).take (4 * hdN m)) := by
    rw [packL_unp m h, take_split]
    have e16 : m.take 16 = m.take 2 ++ (m.drop 2).take 14 := by rw [show 16 = 2 + 14 from rfl, List.take_add]
    constructor
    · intro he
      obtain ⟨a1, a2⟩ := List.append_inj he (by simp [beL_len, q1, q3]; omega)
      obtain ⟨a3, a4⟩ := List.append_inj a1 (by simp [q3]; omega)
      obtain ⟨a5, _⟩ := List.append_inj a3 (by simp [q3])
      obtain ⟨_, a6⟩ := List.append_inj a2 rfl
      refine ⟨a5.symm, ?_, (beL_iff q2 (crc0_lt _)).1 a6⟩
      rw [e16, ← a5]
      exact (beL_iff q1 (crc0_lt _)).1 a4
    · rintro ⟨b1, b2, b3⟩
      rw [e16, b1] at b2
      rw [b1, (beL_iff q1 (crc0_lt _)).2 b2, (beL_iff q2 (crc0_lt _)).2 b3]
  have hd : decide (packL (unpF m) = m.take (20 + 4 * hdN m)) = (decide (m.take 2 = [90, 195]) && (decide (beV ((m.drop 16).take 2) = crc0 (m.take 16)) && decide (beV (((m.drop 18).drop (4 * hdN m)).take 2) = crc0 ((m.drop 18).take (4 * hdN m))))) := by
    rw [Bool.eq_iff_iff]
    simp only [Bool.and_eq_true, decide_eq_true_eq]
    exact key
  unfold refOk unpOk headIs thereB
  rw [unpF_ok, hd]
  have t1 : decide (18 ≤ m.length) = true := decide_eq_true (by omega)
  have t2 : decide (4 * hdN m + 2 ≤ (m.drop 18).length) = true := decide_eq_true (by rw [List.length_drop]; omega)
  rw [t1, t2]
  unfold hdSum
  generalize decide (m.take 2 = [90, 195]) = x1
  generalize hitsB (-1) (rawL (m.drop 18) (hdN m)) = x2
  generalize hdOk m = x3
  generalize decide (beV ((m.drop 16).take 2) = crc0 (m.take 16)) = x4
  generalize decide (beV (((m.drop 18).drop (4 * hdN m)).take 2) = crc0 ((m.drop 18).take (4 * hdN m))) = x5
  cases x1 <;> cases x2 <;> cases x3 <;> cases x4 <;> cases x5 <;> rfl
theorem unpOk_len {m : List UInt8} (h : unpOk m = true) : 20 + 4 * hdN m ≤ m.length := by
  unfold unpOk headIs thereB at h
  simp only [Bool.and_eq_true, decide_eq_true_eq, List.length_drop] at h
  omega
theorem unpOk_pack {m : List UInt8} (h : unpOk m = true) : (unpF m).ok = true ∧ packL (unpF m) = m.take (20 + 4 * hdN m) := by
  rw [← refOk_iff m (unpOk_len h)] at h
  unfold refOk at h
  simpa using h
end Go.Proofs.Ytanillahofohgaa
