/- Plain facts: numbers by digits to the base 65536, as lists; the lowest first. -/
import Derived.Test.YtkhchaoehlefdaaDoorExA
set_option linter.unusedVariables false
set_option linter.unusedSimpArgs false
namespace Go.Proofs.YtkhchaoehlefdaaDoor

def gI (l : List Int) (i : Nat) : Int := (l[i]?).getD 0
theorem gI_at {l : List Int} {i : Nat} (h : i < l.length) : gI l i = l[i] := by unfold gI; rw [List.getElem?_eq_getElem h]; rfl
theorem gI_out {l : List Int} {i : Nat} (h : l.length ≤ i) : gI l i = 0 := by unfold gI; rw [List.getElem?_eq_none h]; rfl
theorem gI_cons_zero (x : Int) (l : List Int) : gI (x :: l) 0 = x := rfl
theorem gI_cons_succ (x : Int) (l : List Int) (i : Nat) : gI (x :: l) (i + 1) = gI l i := by simp [gI]
theorem gI_nil (i : Nat) : gI [] i = 0 := by simp [gI]
theorem gI_take {l : List Int} {k i : Nat} (h : i < k) : gI (l.take k) i = gI l i := by unfold gI; rw [List.getElem?_take_of_lt h]
theorem gI_append {l m : List Int} {i : Nat} (h : i < l.length) : gI (l ++ m) i = gI l i := by unfold gI; rw [List.getElem?_append_left h]
theorem gI_snoc (l : List Int) (x : Int) : gI (l ++ [x]) l.length = x := by simp [gI]

def Bd (n : Nat) : Int := 65536 ^ n
theorem Bd_zero : Bd 0 = 1 := rfl
theorem Bd_succ (n : Nat) : Bd (n + 1) = 65536 * Bd n := by unfold Bd; rw [Int.pow_succ, Int.mul_comm]
theorem Bd_pos (n : Nat) : 0 < Bd n := Int.pow_pos (by decide)
theorem Bd_add (n m : Nat) : Bd (n + m) = Bd n * Bd m := Int.pow_add _ _ _
theorem Bd_mono {n m : Nat} (h : n ≤ m) : Bd n ≤ Bd m := by
  obtain ⟨k, rfl⟩ := Nat.exists_eq_add_of_le h
  rw [Bd_add]
  have h1 := Bd_pos n
  have h2 := Bd_pos k
  have := Int.mul_le_mul_of_nonneg_left (show 1 ≤ Bd k by omega) (Int.le_of_lt h1)
  omega
theorem Bd_lt {n m : Nat} (h : Bd n < Bd m) : n < m := by
  rcases Nat.lt_or_ge n m with g | g
  · exact g
  · have := Bd_mono g; omega
/-- Two digits make a word. -/
theorem Bd_P (n : Nat) : Bd (2 * n) = P n := by
  induction n with
  | zero => rfl
  | succ n ih => rw [show 2 * (n + 1) = 2 * n + 1 + 1 by omega, Bd_succ, Bd_succ, P_succ, ih]; omega

/-- The value of digits. -/
def Vd : List Int → Int
  | [] => 0
  | x :: l => x + 65536 * Vd l
theorem Vd_nil : Vd [] = 0 := rfl
theorem Vd_cons (x : Int) (l : List Int) : Vd (x :: l) = x + 65536 * Vd l := rfl
theorem Vd_append (l m : List Int) : Vd (l ++ m) = Vd l + Bd l.length * Vd m := by
  induction l with
  | nil => simp [Vd_nil, Bd_zero]
  | cons x l ih => rw [List.cons_append, Vd_cons, Vd_cons, ih, List.length_cons, Bd_succ]; grind
theorem Vd_snoc (l : List Int) (x : Int) : Vd (l ++ [x]) = Vd l + x * Bd l.length := by
  rw [Vd_append, Vd_cons, Vd_nil]; grind
def D16 (l : List Int) : Prop := ∀ x ∈ l, 0 ≤ x ∧ x ≤ 65535
theorem D16_nil : D16 [] := fun _ h => by cases h
theorem D16.tail {x : Int} {l : List Int} (h : D16 (x :: l)) : D16 l := fun y hy => h y (List.mem_cons_of_mem _ hy)
theorem D16.head {x : Int} {l : List Int} (h : D16 (x :: l)) : 0 ≤ x ∧ x ≤ 65535 := h x List.mem_cons_self
theorem D16.app {l m : List Int} (h : D16 l) (k : D16 m) : D16 (l ++ m) := fun x hx => by
  rcases List.mem_append.1 hx with hx | hx
  · exact h x hx
  · exact k x hx
theorem D16.one {x : Int} (h : 0 ≤ x ∧ x ≤ 65535) : D16 [x] := fun y hy => by rw [List.mem_singleton.1 hy]; exact h
theorem D16.snoc {l : List Int} {x : Int} (h : D16 l) (k : 0 ≤ x ∧ x ≤ 65535) : D16 (l ++ [x]) := h.app (D16.one k)
theorem D16.take {l : List Int} (h : D16 l) (k : Nat) : D16 (l.take k) := fun x hx => h x (List.mem_of_mem_take hx)
theorem D16.drop {l : List Int} (h : D16 l) (k : Nat) : D16 (l.drop k) := fun x hx => h x (List.mem_of_mem_drop hx)
theorem D16.gI {l : List Int} (h : D16 l) (i : Nat) : 0 ≤ gI l i ∧ gI l i ≤ 65535 := by
  rcases Nat.lt_or_ge i l.length with g | g
  · rw [gI_at g]; exact h _ (List.getElem_mem g)
  · rw [gI_out g]; omega
theorem Vd_nonneg {l : List Int} (h : D16 l) : 0 ≤ Vd l := by
  induction l with
  | nil => exact Int.le_refl 0
  | cons x l ih => rw [Vd_cons]; have := ih h.tail; have := h.head; omega
theorem Vd_lt {l : List Int} (h : D16 l) : Vd l < Bd l.length := by
  induction l with
  | nil => exact Int.zero_lt_one
  | cons x l ih => rw [Vd_cons, List.length_cons, Bd_succ]; have := ih h.tail; have := h.head; omega

/-- The value of the first k digits. -/
def Vk (l : List Int) (k : Nat) : Int := Vd (l.take k)
theorem Vk_zero (l : List Int) : Vk l 0 = 0 := rfl
theorem Vk_all {l : List Int} {k : Nat} (h : l.length ≤ k) : Vk l k = Vd l := by unfold Vk; rw [List.take_of_length_le h]
theorem Vk_succ (l : List Int) (k : Nat) : Vk l (k + 1) = Vk l k + gI l k * Bd k := by
  unfold Vk
  rcases Nat.lt_or_ge k l.length with g | g
  · rw [List.take_succ_eq_append_getElem g, Vd_snoc, gI_at g, List.length_take, Nat.min_eq_left (by omega)]
  · rw [gI_out g, List.take_of_length_le g, List.take_of_length_le (by omega)]; simp
theorem Vk_nonneg {l : List Int} (h : D16 l) (k : Nat) : 0 ≤ Vk l k := Vd_nonneg (h.take k)
theorem Vk_lt {l : List Int} (h : D16 l) (k : Nat) : Vk l k < Bd k := by
  have h1 := Vd_lt (h.take k)
  have h2 : Bd (l.take k).length ≤ Bd k := Bd_mono (by rw [List.length_take]; omega)
  unfold Vk; omega
/-- The value of the digits from place k on. -/
def Vt (l : List Int) (k : Nat) : Int := Vd (l.drop k)
theorem Vt_zero (l : List Int) : Vt l 0 = Vd l := rfl
theorem Vt_out {l : List Int} {k : Nat} (h : l.length ≤ k) : Vt l k = 0 := by unfold Vt; rw [List.drop_eq_nil_of_le h]; rfl
theorem Vt_step (l : List Int) (k : Nat) : Vt l k = gI l k + 65536 * Vt l (k + 1) := by
  rcases Nat.lt_or_ge k l.length with g | g
  · unfold Vt; rw [List.drop_eq_getElem_cons g, Vd_cons, gI_at g]
  · rw [Vt_out g, Vt_out (by omega), gI_out g]; rfl
theorem Vt_nonneg {l : List Int} (h : D16 l) (k : Nat) : 0 ≤ Vt l k := Vd_nonneg (h.drop k)
theorem Vk_Vt (l : List Int) (k : Nat) : Vd l = Vk l k + Bd k * Vt l k := by
  rcases Nat.lt_or_ge k l.length with g | g
  · have := Vd_append (l.take k) (l.drop k)
    rw [List.take_append_drop, List.length_take, Nat.min_eq_left (by omega)] at this
    exact this
  · rw [Vk_all g, Vt_out g]; simp

/-- No zero at the end. -/
def Nl (l : List Int) : Prop := ∀ k, l.length = k + 1 → gI l k ≠ 0
theorem Nl_nil : Nl [] := fun k h => by simp at h
theorem Nl.tail {x : Int} {l : List Int} (h : Nl (x :: l)) : Nl l := fun k hk => by
  have := h (k + 1) (by simp [hk])
  rwa [gI_cons_succ] at this
def cutN (l : List Int) : Nat → Nat
  | 0 => 0
  | n + 1 => if gI l n = 0 then cutN l n else n + 1
theorem cutN_le (l : List Int) (n : Nat) : cutN l n ≤ n := by
  induction n with
  | zero => exact Nat.le_refl 0
  | succ n ih => unfold cutN; split <;> omega
theorem cutN_stop {l : List Int} {n : Nat} (h : gI l n ≠ 0) : cutN l (n + 1) = n + 1 := by simp [cutN, h]
theorem cutN_go {l : List Int} {n : Nat} (h : gI l n = 0) : cutN l (n + 1) = cutN l n := by simp [cutN, h]
theorem cutN_top (l : List Int) (n : Nat) : 0 < cutN l n → gI l (cutN l n - 1) ≠ 0 := by
  induction n with
  | zero => intro h; exact absurd h (by simp [cutN])
  | succ n ih =>
    unfold cutN
    split
    · exact ih
    · intro _; simpa using ‹¬ gI l n = 0›
theorem Vk_cut (l : List Int) (n : Nat) : Vk l (cutN l n) = Vk l n := by
  induction n with
  | zero => rfl
  | succ n ih =>
    unfold cutN
    split
    · rename_i h; rw [ih, Vk_succ, h]; simp
    · rfl
def cutL (l : List Int) : List Int := l.take (cutN l l.length)
theorem cutL_len (l : List Int) : (cutL l).length = cutN l l.length := by
  unfold cutL; rw [List.length_take]; have := cutN_le l l.length; omega
theorem cutL_le (l : List Int) : (cutL l).length ≤ l.length := by rw [cutL_len]; exact cutN_le _ _
theorem Vd_cut (l : List Int) : Vd (cutL l) = Vd l := by
  have := Vk_cut l l.length
  rw [Vk_all (Nat.le_refl _)] at this
  exact this
theorem D16.cut {l : List Int} (h : D16 l) : D16 (cutL l) := h.take _
theorem Nl_cut (l : List Int) : Nl (cutL l) := by
  intro k hk
  rw [cutL_len] at hk
  have := cutN_top l l.length (by omega)
  rw [hk] at this
  unfold cutL
  rw [gI_take (by omega)]
  simpa using this
theorem Vd_top {l : List Int} (h : D16 l) (n : Nl l) {k : Nat} (hk : l.length = k + 1) : Bd k ≤ Vd l := by
  have h1 := Vk_Vt l k
  have h2 := Vk_nonneg h k
  have h3 := Vt_step l k
  rw [Vt_out (show l.length ≤ k + 1 by omega)] at h3
  have h4 := h.gI k
  have h5 := n k hk
  have h6 := Bd_pos k
  have := Int.mul_le_mul_of_nonneg_left (show 1 ≤ Vt l k by omega) (Int.le_of_lt h6)
  omega
theorem Nl.len {l : List Int} (h : D16 l) (n : Nl l) {k : Nat} (hv : Vd l < Bd k) : l.length ≤ k := by
  rcases Nat.eq_zero_or_pos l.length with g | g
  · omega
  · obtain ⟨j, hj⟩ : ∃ j, l.length = j + 1 := ⟨l.length - 1, by omega⟩
    have := Vd_top h n hj
    have := Bd_lt (n := j) (m := k) (by omega)
    omega
theorem Nl.pos {l : List Int} (h : D16 l) (n : Nl l) : 0 < l.length ↔ 0 < Vd l := by
  constructor
  · intro g
    obtain ⟨j, hj⟩ : ∃ j, l.length = j + 1 := ⟨l.length - 1, by omega⟩
    have := Vd_top h n hj
    have := Bd_pos j
    omega
  · intro g
    rcases Nat.eq_zero_or_pos l.length with e | e
    · rw [List.length_eq_zero_iff.1 e, Vd_nil] at g; omega
    · exact e
theorem Vd_inj : ∀ {l m : List Int}, D16 l → D16 m → l.length = m.length → Vd l = Vd m → l = m
  | [], [], _, _, _, _ => rfl
  | [], _ :: _, _, _, h, _ => by simp at h
  | _ :: _, [], _, _, h, _ => by simp at h
  | x :: l, y :: m, hl, hm, h, e => by
    rw [Vd_cons, Vd_cons] at e
    have h1 := hl.head
    have h2 := hm.head
    have e1 : x = y := by omega
    have e2 : Vd l = Vd m := by omega
    rw [e1, Vd_inj hl.tail hm.tail (by simpa using h) e2]
/-- A number has one normal form. -/
theorem Nl_inj {l m : List Int} (hl : D16 l) (nl : Nl l) (hm : D16 m) (nm : Nl m) (e : Vd l = Vd m) : l = m := by
  refine Vd_inj hl hm ?_ e
  have h1 := nl.len hl (k := m.length) (by rw [e]; exact Vd_lt hm)
  have h2 := nm.len hm (k := l.length) (by rw [← e]; exact Vd_lt hl)
  omega
/-- Which one is less, by the highest digit that differs. -/
theorem Vd_less {l m : List Int} (hl : D16 l) (hm : D16 m) {i : Nat} (e : Vt l (i + 1) = Vt m (i + 1)) (h : gI l i < gI m i) : Vd l < Vd m := by
  have h1 := Vk_Vt l i
  have h2 := Vk_Vt m i
  have h3 := Vt_step l i
  have h4 := Vt_step m i
  have h5 := Vk_lt hl i
  have h6 := Vk_nonneg hm i
  have h7 := Bd_pos i
  have := Int.mul_le_mul_of_nonneg_left (show Vt l i + 1 ≤ Vt m i by omega) (Int.le_of_lt h7)
  rw [Int.mul_add] at this
  omega
end Go.Proofs.YtkhchaoehlefdaaDoor
