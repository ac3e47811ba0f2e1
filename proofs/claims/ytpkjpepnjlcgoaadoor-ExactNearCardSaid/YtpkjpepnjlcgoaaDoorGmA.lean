/- Plain facts: the simplest number between two, by continued fractions. Integers in variables that are stored into; next, sizes. A law for a region that draws its order and stores at its end into what it has loaded: what is loaded may be read first, if each store waits for it. Contract: simplest, the simplest number between the sizes of two. Contracts: Normal, Whole of 0, Between. -/
import Derived.Test.YtpkjpepnjlcgoaaDoorExA
import Derived.Test.YtpkjpepnjlcgoaaDoorEzI
import Derived.Test.YtpkjpepnjlcgoaaDoorEzM
import Derived.Test.YtpkjpepnjlcgoaaDoorEzN
import Derived.BigRegion
import Derived.OrdersHeld
import Derived.Deep.RegionHeld
import Derived.Deep.CutRange
import Derived.Deep.LoopGhost
import Derived.Test.YtpkjpepnjlcgoaaDoorFmA

section
set_option linter.unusedVariables false
set_option linter.unusedSimpArgs false
namespace Go.Proofs.YtpkjpepnjlcgoaaDoor

/-- S / T is the simplest number from A / B to C / D: it has the least denominator, and the least numerator. -/
def Simp (A B C D S T : Int) : Prop := 0 < S ∧ 0 < T ∧ A * T ≤ S * B ∧ S * D ≤ C * T ∧ ∀ P Q, 0 < Q → A * Q ≤ P * B → P * D ≤ C * Q → T ≤ Q ∧ S ≤ P

theorem mul_mono_l {a b k : Int} (hk : 0 ≤ k) (h : a ≤ b) : k * a ≤ k * b := Int.mul_le_mul_of_nonneg_left h hk
theorem lt_of_mul_lt {a b k : Int} (hk : 0 < k) (h : k * a < k * b) : a < b := Int.lt_of_mul_lt_mul_left h (Int.le_of_lt hk)
theorem le_of_mul_le {a b k : Int} (hk : 0 < k) (h : k * a ≤ k * b) : a ≤ b := Int.le_of_mul_le_mul_left h hk

theorem simp_whole {b c d w : Int} (hb : 0 < b) (hw : 0 < w) (hle : w * b * d ≤ c * b) : Simp (w * b) b c d w 1 := by
  refine ⟨hw, by omega, by rw [Int.mul_one]; exact Int.le_refl _, ?_, ?_⟩
  · rw [Int.mul_one]
    refine le_of_mul_le hb ?_
    have e1 : b * (w * d) = w * b * d := by grind
    have e2 : b * c = c * b := by grind
    omega
  · intro P Q hQ h1 _
    refine ⟨by omega, ?_⟩
    have h2 : w * Q ≤ P := by
      refine le_of_mul_le hb ?_
      have e1 : b * (w * Q) = w * b * Q := by grind
      have e2 : b * P = P * b := by grind
      omega
    have h3 := mul_mono_l (Int.le_of_lt hw) (show 1 ≤ Q by omega)
    omega

theorem simp_above {a b c d w r : Int} (hb : 0 < b) (hw : 0 ≤ w) (ha : a = w * b + r) (hr : 0 < r) (hr2 : r < b) (hle : (w + 1) * d ≤ c) : Simp a b c d (w + 1) 1 := by
  refine ⟨by omega, by omega, ?_, by omega, ?_⟩
  · have e1 : (w + 1) * b = w * b + b := by grind
    omega
  · intro P Q hQ h1 _
    refine ⟨by omega, ?_⟩
    have h2 : w * Q < P := by
      refine lt_of_mul_lt hb ?_
      have e1 : b * (w * Q) + r * Q = a * Q := by rw [ha]; grind
      have e2 : b * P = P * b := by grind
      have e3 := Int.mul_pos hr hQ
      omega
    have h3 := mul_mono_l hw (show 1 ≤ Q by omega)
    omega

theorem simp_step {a b c d w r S T : Int} (hb : 0 < b) (hw : 0 ≤ w) (ha : a = w * b + r) (hr : 0 < r) (h : Simp d (c - w * d) b r S T) : Simp a b c d (w * S + T) S := by
  obtain ⟨hS, hT, h1, h2, h3⟩ := h
  have hwS := Int.mul_nonneg hw (Int.le_of_lt hS)
  refine ⟨by omega, hS, ?_, ?_, ?_⟩
  · have e1 : a * S = b * (w * S) + S * r := by rw [ha]; grind
    have e2 : (w * S + T) * b = b * (w * S) + b * T := by grind
    omega
  · have e1 : (w * S + T) * d = S * (w * d) + d * T := by grind
    have e2 : S * (c - w * d) = c * S - S * (w * d) := by grind
    omega
  · intro P Q hQ g1 g2
    have h4 : w * Q < P := by
      refine lt_of_mul_lt hb ?_
      have e1 : b * (w * Q) + r * Q = a * Q := by rw [ha]; grind
      have e2 : b * P = P * b := by grind
      have e3 := Int.mul_pos hr hQ
      omega
    have k := h3 Q (P - w * Q) (by omega) (by
      have e1 : d * (P - w * Q) = P * d - d * (w * Q) := by grind
      have e2 : Q * (c - w * d) = c * Q - d * (w * Q) := by grind
      omega) (by
      have e1 : b * (P - w * Q) = P * b - b * (w * Q) := by grind
      have e2 : a * Q = b * (w * Q) + Q * r := by rw [ha]; grind
      omega)
    refine ⟨k.2, ?_⟩
    have h5 := mul_mono_l hw k.2
    omega

/-- What holds ahead of each round: A / B to C / D is where the search began, a / b to c / d is where it is. -/
structure Cf (M A B C D a b c d nu ln de ld : Int) : Prop where
  pa : 0 < a
  pb : 0 < b
  pc : 0 < c
  pd : 0 < d
  le : a * d ≤ c * b
  n0 : 0 ≤ nu
  l0 : 0 ≤ ln
  e0 : 0 ≤ de
  d0 : 0 ≤ ld
  ev : (nu * a + ln * b = A ∧ de * a + ld * b = B ∧ nu * c + ln * d = C ∧ de * c + ld * d = D) ∨ (nu * a + ln * b = C ∧ de * a + ld * b = D ∧ nu * c + ln * d = A ∧ de * c + ld * d = B)
  bA : A ≤ M
  bB : B ≤ M
  bC : C ≤ M
  bD : D ≤ M
  ba : a ≤ M
  bb : b ≤ M
  bc : c ≤ M
  bd : d ≤ M
  sim : ∀ S T, Simp a b c d S T → Simp A B C D (nu * S + ln * T) (de * S + ld * T)

theorem Cf.start {M A B C D : Int} (hA : 0 < A) (hB : 0 < B) (hC : 0 < C) (hD : 0 < D) (h : A * D ≤ C * B) (bA : A ≤ M) (bB : B ≤ M) (bC : C ≤ M) (bD : D ≤ M) : Cf M A B C D A B C D 1 0 0 1 :=
  ⟨hA, hB, hC, hD, h, by omega, by omega, by omega, by omega, .inl ⟨by omega, by omega, by omega, by omega⟩, bA, bB, bC, bD, bA, bB, bC, bD, fun S T h => by
    rw [Int.one_mul, Int.zero_mul, Int.zero_mul, Int.one_mul, Int.add_zero, Int.zero_add]; exact h⟩

/-- The last numerator and denominator are no greater than what they are made of. -/
theorem part_le {x y u v X M : Int} (hx : 0 ≤ x) (hy : 0 ≤ y) (hu : 0 < u) (hv : 0 < v) (h : x * u + y * v = X) (hX : X ≤ M) : x ≤ M ∧ y ≤ M := by
  have h1 := mul_mono_l hx (show 1 ≤ u by omega)
  have h2 := mul_mono_l hy (show 1 ≤ v by omega)
  have h3 := Int.mul_nonneg hx (Int.le_of_lt hu)
  have h4 := Int.mul_nonneg hy (Int.le_of_lt hv)
  omega
theorem Cf.parts {M A B C D a b c d nu ln de ld : Int} (h : Cf M A B C D a b c d nu ln de ld) : nu ≤ M ∧ ln ≤ M ∧ de ≤ M ∧ ld ≤ M := by
  have := h.bA; have := h.bB; have := h.bC; have := h.bD
  rcases h.ev with ⟨e1, e2, e3, e4⟩ | ⟨e1, e2, e3, e4⟩
  · obtain ⟨p1, p2⟩ := part_le h.n0 h.l0 h.pa h.pb e1 h.bA
    obtain ⟨p3, p4⟩ := part_le h.e0 h.d0 h.pa h.pb e2 h.bB
    exact ⟨p1, p2, p3, p4⟩
  · obtain ⟨p1, p2⟩ := part_le h.n0 h.l0 h.pa h.pb e1 h.bC
    obtain ⟨p3, p4⟩ := part_le h.e0 h.d0 h.pa h.pb e2 h.bD
    exact ⟨p1, p2, p3, p4⟩

section
variable {M A B C D a b c d nu ln de ld w r : Int}
theorem Cf.w0 (h : Cf M A B C D a b c d nu ln de ld) (hd : a = w * b + r) (hr : 0 ≤ r) (hr2 : r < b) : 0 ≤ w ∧ w ≤ M := by
  have hb := h.pb
  have ha := h.pa
  have h1 := h.ba
  constructor
  · rcases Int.lt_or_le w 0 with g | g
    · have e := mul_mono_l (Int.le_of_lt hb) (show w ≤ -1 by omega)
      have e2 : b * w = w * b := Int.mul_comm ..
      omega
    · exact g
  · rcases Int.lt_or_le w 0 with g | g
    · omega
    · have e := mul_mono_l g (show 1 ≤ b by omega)
      omega
theorem Cf.done1 (h : Cf M A B C D a b c d nu ln de ld) (hd : a = w * b) : Simp A B C D (w * nu + ln) (w * de + ld) := by
  have ha := h.pa
  have hw : 0 < w := by
    rcases Int.lt_or_le 0 w with g | g
    · exact g
    · have e := Int.mul_nonpos_of_nonpos_of_nonneg g (Int.le_of_lt h.pb)
      omega
  have hle := h.le
  subst hd
  have := h.sim w 1 (simp_whole h.pb hw hle)
  rw [Int.mul_one, Int.mul_one, Int.mul_comm nu, Int.mul_comm de] at this
  exact this
theorem Cf.done2 (h : Cf M A B C D a b c d nu ln de ld) (hd : a = w * b + r) (hr : 0 < r) (hr2 : r < b) (hle : (w + 1) * d ≤ c) : Simp A B C D ((w + 1) * nu + ln) ((w + 1) * de + ld) := by
  have := h.sim (w + 1) 1 (simp_above h.pb (h.w0 hd (by omega) hr2).1 hd hr hr2 hle)
  rw [Int.mul_one, Int.mul_one, Int.mul_comm nu, Int.mul_comm de] at this
  exact this
theorem Cf.next (h : Cf M A B C D a b c d nu ln de ld) (hd : a = w * b + r) (hr : 0 < r) (hr2 : r < b) : Cf M A B C D d (c - w * d) b r (w * nu + ln) nu (w * de + ld) de := by
  have hw := (h.w0 hd (by omega) hr2).1
  have hle := h.le
  have hwd := Int.mul_nonneg hw (Int.le_of_lt h.pd)
  have k1 : d * r ≤ b * (c - w * d) := by
    have e1 : a * d = b * (w * d) + d * r := by rw [hd]; grind
    have e2 : b * (c - w * d) = c * b - b * (w * d) := by grind
    omega
  have k2 : 0 < c - w * d := by
    have e := Int.mul_pos h.pd hr
    rcases Int.lt_or_le 0 (c - w * d) with g | g
    · exact g
    · have := Int.mul_nonpos_of_nonneg_of_nonpos (Int.le_of_lt h.pb) g
      omega
  have hn := Int.mul_nonneg hw h.n0
  have he := Int.mul_nonneg hw h.e0
  have := h.n0; have := h.l0; have := h.e0; have := h.d0
  have := h.bb; have := h.bc; have := h.bd
  refine ⟨h.pd, k2, h.pb, hr, k1, by omega, h.n0, by omega, h.e0, ?_, h.bA, h.bB, h.bC, h.bD, h.bd, by omega, h.bb, by omega, ?_⟩
  · have e1 : (w * nu + ln) * d + nu * (c - w * d) = nu * c + ln * d := by grind
    have e2 : (w * de + ld) * d + de * (c - w * d) = de * c + ld * d := by grind
    have e3 : (w * nu + ln) * b + nu * r = nu * a + ln * b := by rw [hd]; grind
    have e4 : (w * de + ld) * b + de * r = de * a + ld * b := by rw [hd]; grind
    rw [e1, e2, e3, e4]
    rcases h.ev with ⟨f1, f2, f3, f4⟩ | ⟨f1, f2, f3, f4⟩
    · exact .inr ⟨f3, f4, f1, f2⟩
    · exact .inl ⟨f3, f4, f1, f2⟩
  · intro S T hs
    have k := h.sim _ _ (simp_step h.pb hw hd hr hs)
    have e1 : nu * (w * S + T) + ln * S = (w * nu + ln) * S + nu * T := by grind
    have e2 : de * (w * S + T) + ld * S = (w * de + ld) * S + de * T := by grind
    rw [e1, e2] at k
    exact k
end
end Go.Proofs.YtpkjpepnjlcgoaaDoor
end

section
set_option linter.unusedVariables false
set_option linter.unusedSimpArgs false
set_option maxRecDepth 100000
namespace Go.Proofs.YtpkjpepnjlcgoaaDoor
open Go.RowKit

/-- A variable that holds an integer of at most seven words. -/
def BV (w : World) (b : Nat) (z : Int) : Prop := ∃ g a n c, n ≤ 7 ∧ w.heap[b]? = some (.cells #[.bool g, .slice a n c] 24 (0, 0)) ∧ AI w (.agg #[.bool g, .slice a n c]) n z
theorem BV.box {w : World} {b : Nat} {z : Int} (h : BV w b z) : Box2 w b := by
  obtain ⟨g, a, n, c, _, e, _⟩ := h
  exact ⟨g, a, n, c, e⟩
theorem BV.below {w w' : World} {b : Nat} {z : Int} (h : BV w b z) (k : Below w.heap.size w w') : BV w' b z := by
  have hl := h.box.lt
  obtain ⟨g, a, n, c, hn, e, hi⟩ := h
  exact ⟨g, a, n, c, hn, (k.block b hl).trans e, hi.below k⟩
theorem BV.other {w : World} {b b2 i : Nat} {z : Int} {u : Value} (h : BV w b z) (k : Box2 w b2) (hb : b2 ≠ b) : BV (w.setCell ⟨b2, i, none⟩ u) b z := by
  obtain ⟨g, a, n, c, hn, e, hi⟩ := h
  exact ⟨g, a, n, c, hn, (Below.heap_setCell _ _ _ _ (Ne.symm hb)).trans e, hi.set k⟩
theorem BV.put {w : World} {b : Nat} {g : Bool} {a : Option Addr} {n c : Nat} {z : Int} (h : Box2 w b) (k : AI w (.agg #[.bool g, .slice a n c]) n z) (hn : n ≤ 7) :
    BV ((w.setCell ⟨b, 0, none⟩ (.bool g)).setCell ⟨b, 1, none⟩ (.slice a n c)) b z := by
  have k1 := AI.put h k (p := ⟨b, 0, none⟩) rfl (.bool g)
  have k2 := AI.put (h.set0 g) k1 (p := ⟨b, 1, none⟩) rfl (.slice a n c)
  obtain ⟨g', a', n', c', e⟩ := h
  exact ⟨g, a, n, c, hn, heap_set (i := 1) (heap_set (i := 0) e (.bool g)) (.slice a n c), k2⟩
theorem BV.open {w : World} {b : Nat} {z : Int} (h : BV w b z) : ∃ g a n c, n ≤ 7 ∧ IV w b g a n c z := by
  have hl := h.box.lt
  obtain ⟨g, a, n, c, hn, e, hi⟩ := h
  exact ⟨g, a, n, c, hn, by unfold World.cell?; rw [e]; rfl, by unfold World.cell?; rw [e]; rfl, hl, hi⟩
theorem BV.new {w : World} {g : Bool} {a : Option Addr} {n c : Nat} {z : Int} (h : AI w (.agg #[.bool g, .slice a n c]) n z) (hn : n ≤ 7) : BV (w.alloc (.cells #[.bool g, .slice a n c] 24)) w.heap.size z :=
  ⟨g, a, n, c, hn, World.alloc_heap_new w _, h.alloc _⟩
theorem BV.new' {w : World} {b : Nat} {g : Bool} {a : Option Addr} {n c : Nat} {z : Int} (h : AI w (.agg #[.bool g, .slice a n c]) n z) (hn : n ≤ 7) (hb : w.heap.size = b) : BV (w.alloc (.cells #[.bool g, .slice a n c] 24)) b z := hb ▸ BV.new h hn
/-- A variable that holds this integer. -/
def BX (w : World) (b : Nat) (g : Bool) (a : Option Addr) (n c : Nat) (z : Int) : Prop := w.heap[b]? = some (.cells #[.bool g, .slice a n c] 24 (0, 0)) ∧ AI w (.agg #[.bool g, .slice a n c]) n z
theorem BX.put {w : World} {b : Nat} {g : Bool} {a : Option Addr} {n c : Nat} {z : Int} (h : Box2 w b) (k : AI w (.agg #[.bool g, .slice a n c]) n z) : BX ((w.setCell ⟨b, 0, none⟩ (.bool g)).setCell ⟨b, 1, none⟩ (.slice a n c)) b g a n c z := by
  have k1 := AI.put h k (p := ⟨b, 0, none⟩) rfl (.bool g)
  have k2 := AI.put (h.set0 g) k1 (p := ⟨b, 1, none⟩) rfl (.slice a n c)
  obtain ⟨g', a', n', c', e⟩ := h
  exact ⟨heap_set (i := 1) (heap_set (i := 0) e (.bool g)) (.slice a n c), k2⟩
theorem BX.box {w : World} {b : Nat} {g : Bool} {a : Option Addr} {n c : Nat} {z : Int} (h : BX w b g a n c z) : Box2 w b := ⟨g, a, n, c, h.1⟩
theorem BX.other {w : World} {b b2 i : Nat} {g : Bool} {a : Option Addr} {n c : Nat} {z : Int} {u : Value} (h : BX w b g a n c z) (k : Box2 w b2) (hb : b2 ≠ b) : BX (w.setCell ⟨b2, i, none⟩ u) b g a n c z :=
  ⟨(Below.heap_setCell _ _ _ _ (Ne.symm hb)).trans h.1, h.2.set k⟩
theorem BX.flag {w : World} {b : Nat} {g : Bool} {a : Option Addr} {n c : Nat} {z z' : Int} (h : BX w b g a n c z) (g' : Bool) (k : AI w (.agg #[.bool g', .slice a n c]) n z') : BX (w.setCell ⟨b, 0, none⟩ (.bool g')) b g' a n c z' :=
  ⟨heap_set (i := 0) h.1 _, k.set h.box⟩
theorem BX.cells {w : World} {b : Nat} {g : Bool} {a : Option Addr} {n c : Nat} {z : Int} (h : BX w b g a n c z) : w.cell? ⟨b, 0, none⟩ = some (.bool g) ∧ w.cell? ⟨b, 1, none⟩ = some (.slice a n c) ∧ w.frozen? ⟨b, 0, none⟩ = false ∧ w.frozen? ⟨b, 1, none⟩ = false :=
  ⟨by unfold World.cell?; rw [h.1]; rfl, by unfold World.cell?; rw [h.1]; rfl, by simp [World.frozen?, h.1], by simp [World.frozen?, h.1]⟩
theorem setCell_self {w : World} {b o : Nat} {v : Value} (h : w.cell? ⟨b, o, none⟩ = some v) : w.setCell ⟨b, o, none⟩ v = w := by
  unfold World.setCell
  cases w with
  | mk heap tape drawn os output =>
    congr 1
    apply Array.ext
    · simp
    · intro k h1 h2
      simp only [Array.getElem_modify]
      split
      · rename_i hk
        subst hk
        unfold World.cell? at h
        simp only [Array.getElem?_eq_getElem h2] at h
        split
        · rename_i c e fz he
          rw [he] at h
          simp only at h
          have h' : c[o]? = some v := by simpa using h
          have e2 : c.setIfInBounds o v = c := by
            apply Array.ext'
            rw [Array.toList_setIfInBounds]
            apply List.ext_getElem?
            intro i
            rw [List.getElem?_set]
            split
            · rename_i hi; subst hi
              have h3 : (c.toList)[o]? = some v := by simpa using h'
              have hlt := (List.getElem?_eq_some_iff.1 h3).1
              rw [if_pos hlt, h3]
            · rfl
          simp [e2, he]
        · rfl
      · rfl
theorem BX.drew {w : World} {b : Nat} {g : Bool} {a : Option Addr} {n c : Nat} {z : Int} (h : BX w b g a n c z) : BX w.drew b g a n c z := ⟨h.1, h.2.below (Below.refl _ _).drew⟩
theorem Box2.keep2 {w : World} {b b2 i : Nat} {u : Value} (h : Box2 w b) (hb : b2 ≠ b) : Box2 (w.setCell ⟨b2, i, none⟩ u) b := h.other (p := ⟨b2, i, none⟩) hb u
theorem Box4.keep2 {w : World} {b b2 i : Nat} {u : Value} (h : Box4 w b) (hb : b2 ≠ b) : Box4 (w.setCell ⟨b2, i, none⟩ u) b := by
  obtain ⟨g, a, n, c, g', a', n', c', e⟩ := h
  exact ⟨g, a, n, c, g', a', n', c', (Below.heap_setCell _ _ _ _ (Ne.symm hb)).trans e⟩

/-- An integer in normal form has no more words than its value asks for. -/
theorem RI.lena {w : World} {base : Nat} {v : Value} {n : Nat} {z : Int} (h : RI w base v n z) {k : Nat} (hz : (z.natAbs : Int) < P k) : n ≤ k := RI.len h (by omega) (by omega)
/-- An integer of two fields is returned, no longer than its value asks for. -/
def Gn (w : World) (z : Int) (n : Nat) (e : Ending) (w' : World) : Prop := ∃ g a c k, e = .returned (.agg #[.bool g, .slice a k c]) ∧ AI w' (.agg #[.bool g, .slice a k c]) k z ∧ k ≤ n ∧ (∀ j, (z.natAbs : Int) < P j → k ≤ j) ∧ Below w.heap.size w w'
theorem RI.gn {w w' : World} {r : Value} {k n : Nat} {z : Int} (h : RI w' w.heap.size r k z) (hk : k ≤ n) (hB : Below w.heap.size w w') : Gn w z n (.returned r) w' := by
  have hl := fun j => RI.lena h (k := j)
  obtain ⟨g, a, c, rfl⟩ := h.form
  exact ⟨g, a, c, k, rfl, h.ai, hk, hl, hB⟩
theorem mul_gn (u v : Value) (n m : Nat) (p q : Int) (w : World) (hu : AI w u n p) (hv : AI w v m q) (hn : n ≤ 1000) (hm : m ≤ 1000) (h : n < 40 ∨ m < 40) :
    Calls Tryd.prog 10 #[u, v] w (Gn w (p * q) (n + m)) := (Mul_any u v n m p q w hu hv (by omega) (by omega) h).mono (by rintro e w' ⟨r, k, rfl, h1, h2, h3⟩; exact h1.gn h2 h3)
theorem add_gn (u v : Value) (n m : Nat) (p q : Int) (w : World) (hu : AI w u n p) (hv : AI w v m q) (hn : n ≤ 1000) (hm : m ≤ 1000) :
    Calls Tryd.prog 49 #[u, v] w (Gn w (p + q) (max n m + 1)) := (Add_any u v n m p q w hu hv (by omega) (by omega)).mono (by rintro e w' ⟨r, k, rfl, h1, h2, h3⟩; exact h1.gn h2 h3)
theorem sub_gn (u v : Value) (n m : Nat) (p q : Int) (w : World) (hu : AI w u n p) (hv : AI w v m q) (hn : n ≤ 1000) (hm : m ≤ 1000) :
    Calls Tryd.prog 48 #[u, v] w (Gn w (p - q) (max n m + 1)) := (Sub_any u v n m p q w hu hv (by omega) (by omega)).mono (by rintro e w' ⟨r, k, rfl, h1, h2, h3⟩; exact h1.gn h2 h3)
theorem div_gn (u v : Value) (n m : Nat) (p q : Int) (w : World) (hu : AI w u n p) (hv : AI w v m q) (hn : n ≤ 1000) (hm : m ≤ 1000) (hq : q ≠ 0) :
    Calls Tryd.prog 30 #[u, v] w fun e w' => ∃ g a c g2 a2 c2 k j Q R, e = .returned (.tuple #[.agg #[.bool g, .slice a k c], .agg #[.bool g2, .slice a2 j c2], .int .i64 0]) ∧ AI w' (.agg #[.bool g, .slice a k c]) k Q ∧ AI w' (.agg #[.bool g2, .slice a2 j c2]) j R ∧ DvS p q Q R ∧
      (∀ i, (Q.natAbs : Int) < P i → k ≤ i) ∧ (∀ i, (R.natAbs : Int) < P i → j ≤ i) ∧ Below w.heap.size w w' := by
  refine (Div_any u v n m p q w hu hv (by omega) (by omega) hq).mono ?_
  rintro e w' ⟨r, s, k, j, Q, R, rfl, h1, h2, h3, h4, h5, h6⟩
  have l1 := fun i => RI.lena h1 (k := i)
  have l2 := fun i => RI.lena h2 (k := i)
  obtain ⟨g, a, c, rfl⟩ := h1.form
  obtain ⟨g2, a2, c2, rfl⟩ := h2.form
  exact ⟨g, a, c, g2, a2, c2, k, j, Q, R, rfl, h1.ai, h2.ai, h3, l1, l2, h6⟩
/-- The size of an integer: its sign taken off. -/
theorem AI.abs {w : World} {g : Bool} {a : Option Addr} {n c : Nat} {z : Int} (h : AI w (.agg #[.bool g, .slice a n c]) n z) : AI w (.agg #[.bool false, .slice a n c]) n (z.natAbs : Int) := by
  obtain ⟨g', a', c', x, e, hc, hd, hs, hz⟩ := h
  simp only [Value.agg.injEq, Array.mk.injEq, List.cons.injEq, and_true, Value.bool.injEq, Value.slice.injEq] at e
  obtain ⟨rfl, rfl, _, rfl⟩ := e
  refine ⟨false, a, c, x, rfl, hc, hd, hs, ?_⟩
  have := V_nonneg hd n
  rw [sg_false]
  cases g <;> simp [sg] at hz <;> omega

theorem IV4x {w : World} {g0 g1 g2 g3 : Bool} {a0 a1 a2 a3 : Option Addr} {n0 n1 n2 n3 c0 c1 c2 c3 : Nat} :
    Box2 ((((w.alloc (.cells #[.bool g0, .slice a0 n0 c0] 24)).alloc (.cells #[.bool g1, .slice a1 n1 c1] 24)).alloc (.cells #[.bool g2, .slice a2 n2 c2] 24)).alloc (.cells #[.bool g3, .slice a3 n3 c3] 24)) (w.heap.size + 1 + 1 + 1) := by
  have h := Box2.new (((w.alloc (.cells #[.bool g0, .slice a0 n0 c0] 24)).alloc (.cells #[.bool g1, .slice a1 n1 c1] 24)).alloc (.cells #[.bool g2, .slice a2 n2 c2] 24)) g3 a3 n3 c3
  rw [World.size_alloc, World.size_alloc, World.size_alloc] at h
  exact h

set_option maxHeartbeats 3200000 in
theorem next_any (ga gb gc : Bool) (aa ab ac : Option Addr) (n m l ca cb cc : Nat) (p q r : Int) (w : World)
    (ha : AI w (.agg #[.bool ga, .slice aa n ca]) n p) (hb : AI w (.agg #[.bool gb, .slice ab m cb]) m q) (hc : AI w (.agg #[.bool gc, .slice ac l cc]) l r) (hn : n ≤ 39) (hm : m ≤ 300) (hl : l ≤ 300) :
    Calls Tryd.prog 77 #[.agg #[.bool ga, .slice aa n ca], .agg #[.bool gb, .slice ab m cb], .agg #[.bool gc, .slice ac l cc]] w (Gn w (p * q + r) (max (n + m) l + 1)) := by
  have V0 := Lib.hid (show IV ((((w.alloc (.cells #[.bool ga, .slice aa n ca] 24)).alloc (.cells #[.bool gb, .slice ab m cb] 24)).alloc (.cells #[.bool gc, .slice ac l cc] 24)).alloc (.cells #[.bool false, .slice none 0 0] 24)) w.heap.size ga aa n ca p from (IV3a ha gb gc ab ac m l cb cc).alloc _)
  have V1 := Lib.hid (show IV ((((w.alloc (.cells #[.bool ga, .slice aa n ca] 24)).alloc (.cells #[.bool gb, .slice ab m cb] 24)).alloc (.cells #[.bool gc, .slice ac l cc] 24)).alloc (.cells #[.bool false, .slice none 0 0] 24)) (w.heap.size + 1) gb ab m cb q from (IV3b hb ga gc aa ac n l ca cc).alloc _)
  have V2 := Lib.hid (show IV ((((w.alloc (.cells #[.bool ga, .slice aa n ca] 24)).alloc (.cells #[.bool gb, .slice ab m cb] 24)).alloc (.cells #[.bool gc, .slice ac l cc] 24)).alloc (.cells #[.bool false, .slice none 0 0] 24)) (w.heap.size + 1 + 1) gc ac l cc r from (IV3c hc ga gb aa ab n m ca cb).alloc _)
  have V3 := Lib.hid (show Box2 ((((w.alloc (.cells #[.bool ga, .slice aa n ca] 24)).alloc (.cells #[.bool gb, .slice ab m cb] 24)).alloc (.cells #[.bool gc, .slice ac l cc] 24)).alloc (.cells #[.bool false, .slice none 0 0] 24)) (w.heap.size + 1 + 1 + 1) from IV4x)
  have HW := Lib.hid (show Below w.heap.size w ((((w.alloc (.cells #[.bool ga, .slice aa n ca] 24)).alloc (.cells #[.bool gb, .slice ab m cb] 24)).alloc (.cells #[.bool gc, .slice ac l cc] 24)).alloc (.cells #[.bool false, .slice none 0 0] 24)) from (by repeat (first | exact Below.refl _ _ | exact Nat.le_refl _ | (apply Below.alloc) | (refine Below.setCell ?_ (by first | exact Nat.le_refl _ | (simp <;> omega)) _) | (simp <;> omega))))
  clear ha hb hc
  go_enter Tryd.func77, Tryd.ntmps77
  go_wp2_with fail
  refine wp_at (fun W => Below w.heap.size w W ∧ IV W w.heap.size ga aa n ca p ∧ IV W (w.heap.size + 1) gb ab m cb q ∧ IV W (w.heap.size + 1 + 1) gc ac l cc r ∧ Box2 W (w.heap.size + 1 + 1 + 1)) ⟨HW.out, V0.out, V1.out, V2.out, V3.out⟩ ?_
  clear HW V0 V1 V2 V3
  rintro w0 ⟨h0, h1, h2, h3, h4⟩
  have HW := Lib.hid h0
  have V0 := Lib.hid h1
  have V1 := Lib.hid h2
  have V2 := Lib.hid h3
  have V3 := Lib.hid h4
  clear h0 h1 h2 h3 h4
  have B_ := Lib.hid (Below.refl w0.heap.size w0)
  have D_ := Lib.hid (Below.drew B_.out)
  have M_ := Lib.hid (show ∀ w', Below w0.heap.size w0 w' → w'.cell? ⟨w.heap.size, 0, none⟩ = some (.bool ga) ∧ w'.cell? ⟨w.heap.size, 1, none⟩ = some (.slice aa n ca) ∧ w'.cell? ⟨(w.heap.size + 1), 0, none⟩ = some (.bool gb) ∧ w'.cell? ⟨(w.heap.size + 1), 1, none⟩ = some (.slice ab m cb) ∧ w'.cell? ⟨(w.heap.size + 1 + 1), 0, none⟩ = some (.bool gc) ∧ w'.cell? ⟨(w.heap.size + 1 + 1), 1, none⟩ = some (.slice ac l cc) from fun w' h => ⟨(V0.out.below h).1, (V0.out.below h).2.1, (V1.out.below h).1, (V1.out.below h).2.1, (V2.out.below h).1, (V2.out.below h).2.1⟩)
  obtain ⟨oa0, oa1, oa2, _⟩ := V0.out
  obtain ⟨ob0, ob1, ob2, _⟩ := V1.out
  obtain ⟨oc0, oc1, oc2, _⟩ := V2.out
  have s0 : n ≤ 1000 := by omega
  have s1 : m ≤ 1000 := by omega
  have s2 : l ≤ 1000 := by omega
  have s3 : n < 40 ∨ m < 40 := by omega
  have MS := Lib.hid (show ∀ (w' : World) (i : Nat) (u : Value), (w'.cell? ⟨w.heap.size, 0, none⟩ = some (.bool ga) ∧ w'.cell? ⟨w.heap.size, 1, none⟩ = some (.slice aa n ca) ∧ w'.cell? ⟨(w.heap.size + 1), 0, none⟩ = some (.bool gb) ∧ w'.cell? ⟨(w.heap.size + 1), 1, none⟩ = some (.slice ab m cb) ∧ w'.cell? ⟨(w.heap.size + 1 + 1), 0, none⟩ = some (.bool gc) ∧ w'.cell? ⟨(w.heap.size + 1 + 1), 1, none⟩ = some (.slice ac l cc)) → (fun w' => w'.cell? ⟨w.heap.size, 0, none⟩ = some (.bool ga) ∧ w'.cell? ⟨w.heap.size, 1, none⟩ = some (.slice aa n ca) ∧ w'.cell? ⟨(w.heap.size + 1), 0, none⟩ = some (.bool gb) ∧ w'.cell? ⟨(w.heap.size + 1), 1, none⟩ = some (.slice ab m cb) ∧ w'.cell? ⟨(w.heap.size + 1 + 1), 0, none⟩ = some (.bool gc) ∧ w'.cell? ⟨(w.heap.size + 1 + 1), 1, none⟩ = some (.slice ac l cc)) (w'.setCell ⟨w.heap.size + 1 + 1 + 1, i, none⟩ u) from fun w' i u h => by
    have K : ∀ b o, b < w.heap.size + 1 + 1 + 1 → (w'.setCell ⟨w.heap.size + 1 + 1 + 1, i, none⟩ u).cell? ⟨b, o, none⟩ = w'.cell? ⟨b, o, none⟩ := fun b o hb => World.cell?_of_block (Below.heap_setCell _ _ _ _ (by show b ≠ w.heap.size + 1 + 1 + 1; omega))
    obtain ⟨q0, q1, q2, q3, q4, q5⟩ := h
    exact ⟨(K _ _ (by omega)).trans q0, (K _ _ (by omega)).trans q1, (K _ _ (by omega)).trans q2, (K _ _ (by omega)).trans q3, (K _ _ (by omega)).trans q4, (K _ _ (by omega)).trans q5⟩)
  go_region_held3 (fun w' => w'.cell? ⟨w.heap.size, 0, none⟩ = some (.bool ga) ∧ w'.cell? ⟨w.heap.size, 1, none⟩ = some (.slice aa n ca) ∧ w'.cell? ⟨(w.heap.size + 1), 0, none⟩ = some (.bool gb) ∧ w'.cell? ⟨(w.heap.size + 1), 1, none⟩ = some (.slice ab m cb) ∧ w'.cell? ⟨(w.heap.size + 1 + 1), 0, none⟩ = some (.bool gc) ∧ w'.cell? ⟨(w.heap.size + 1 + 1), 1, none⟩ = some (.slice ac l cc))
    (((repeat (refine MS.out _ _ _ ?_)); (first | (with_reducible exact M_.out _ D_.out) | (with_reducible exact M_.out _ T0.out) | (with_reducible exact M_.out _ T1.out))))
    (first
    | (go_at_call 10; ((with_reducible refine (mul_gf (.agg #[.bool ga, .slice aa n ca]) (.agg #[.bool gb, .slice ab m cb]) n m p q _ (V0.out.up D_.out) (V1.out.up D_.out) s0 s1 s3).mono ?_); rintro e w1 ⟨g3, x3, y3, k3, rfl, hR, hk3, hB⟩; have R0 := Lib.hid hR; have s4 : k3 ≤ 1000 := (by omega); have HB0 := Lib.hid hB; have T0 := Lib.hid (Below.up D_.out hB); clear hB hR))
    | (go_at_call 49; ((with_reducible refine (add_gn _ (.agg #[.bool gc, .slice ac l cc]) k3 l (p * q) r _ R0.out (V2.out.up T0.out) s4 s2).mono ?_); rintro e w2 ⟨g4, x4, y4, k4, rfl, hR, hk4, hl4, hB⟩; have R1 := Lib.hid hR; have L1 := Lib.hid hl4; have T1 := Lib.hid (Below.up T0.out hB); clear hB hR hl4; have zb := V3.out.below T1.out; obtain ⟨zu, zv, zc, zd, ze, zf⟩ := zb.open; have ZB := Lib.hid zb; clear zb)))
  go_wp2_with fail
  have f1 := IV.put ZB.out R1.out
  have f2 := Below.up HW.out T1.out
  exact bodyPost_ret (v := .agg #[.bool g4, .slice x4 k4 y4]) (by simp [results, Tryd.results77, go_sem, f1.1, f1.2.1, zc, zd]) rfl ⟨g4, x4, y4, k4, rfl, f1.2.2.2, by omega, L1.out, (f2.setCell (p := ⟨w.heap.size + 1 + 1 + 1, 0, none⟩) (by show _ ≤ w.heap.size + 1 + 1 + 1; omega) _).setCell (p := ⟨w.heap.size + 1 + 1 + 1, 1, none⟩) (by show _ ≤ w.heap.size + 1 + 1 + 1; omega) _⟩


set_option maxHeartbeats 3200000 in
/-- The terms of a ratio, without its sign. -/
theorem sizes_any (g h : Bool) (a b : Option Addr) (n m c d : Nat) (p q : Int) (w : World) (hu : AR w (.agg #[.bool g, .slice a n c, .bool h, .slice b m d]) n m p q) (hn : n ≤ 900) (hm : m ≤ 900) :
    Calls Tryd.prog 76 #[.agg #[.bool g, .slice a n c, .bool h, .slice b m d]] w fun e w' => ∃ x c1 g2 x2 c2 k j, e = .returned (.tuple #[.agg #[.bool false, .slice x k c1], .agg #[.bool g2, .slice x2 j c2]]) ∧
      AI w' (.agg #[.bool false, .slice x k c1]) k ((tP p q).natAbs : Int) ∧ AI w' (.agg #[.bool g2, .slice x2 j c2]) j (tQ q) ∧ k ≤ n ∧ j ≤ max m 2 ∧ Below w.heap.size w w' := by
  have V0 := Lib.hid (show RV (((w.alloc (.cells #[.bool g, .slice a n c, .bool h, .slice b m d] 26)).alloc (.cells #[.bool false, .slice none 0 0] 24)).alloc (.cells #[.bool false, .slice none 0 0] 24)) w.heap.size g a n c h b m d p q from ((RV.new hu).below (Below.alloc' (Below.refl _ _) _)).below (Below.alloc' (Below.refl _ _) _))
  have V1 := Lib.hid (show Box2 (((w.alloc (.cells #[.bool g, .slice a n c, .bool h, .slice b m d] 26)).alloc (.cells #[.bool false, .slice none 0 0] 24)).alloc (.cells #[.bool false, .slice none 0 0] 24)) (w.heap.size + 1) from (Box2.new1 w (.cells #[.bool g, .slice a n c, .bool h, .slice b m d] 26) false none 0 0).alloc _)
  have V2 := Lib.hid (show Box2 (((w.alloc (.cells #[.bool g, .slice a n c, .bool h, .slice b m d] 26)).alloc (.cells #[.bool false, .slice none 0 0] 24)).alloc (.cells #[.bool false, .slice none 0 0] 24)) (w.heap.size + 1 + 1) from by
    have k := Box2.new ((w.alloc (.cells #[.bool g, .slice a n c, .bool h, .slice b m d] 26)).alloc (.cells #[.bool false, .slice none 0 0] 24)) false none 0 0
    rw [World.size_alloc, World.size_alloc] at k
    exact k)
  have HW := Lib.hid (show Below w.heap.size w (((w.alloc (.cells #[.bool g, .slice a n c, .bool h, .slice b m d] 26)).alloc (.cells #[.bool false, .slice none 0 0] 24)).alloc (.cells #[.bool false, .slice none 0 0] 24)) from (by repeat (first | exact Below.refl _ _ | exact Nat.le_refl _ | (apply Below.alloc) | (refine Below.setCell ?_ (by first | exact Nat.le_refl _ | (simp <;> omega)) _) | (simp <;> omega))))
  clear hu
  go_enter Tryd.func76, Tryd.ntmps76
  go_wp2_with fail
  refine calls_at (fun W => Below w.heap.size w W ∧ RV W w.heap.size g a n c h b m d p q ∧ Box2 W (w.heap.size + 1) ∧ Box2 W (w.heap.size + 1 + 1)) ⟨HW.out, V0.out, V1.out, V2.out⟩ ?_
  clear HW V0 V1 V2
  rintro w0 ⟨h0, h1, h2, h3⟩
  have HW := Lib.hid h0
  have V0 := Lib.hid h1
  have V1 := Lib.hid h2
  have V2 := Lib.hid h3
  clear h0 h1 h2 h3
  refine (terms_gi _ n m p q _ V0.out.2.2.2.2.2 (by omega) (by omega)).mono ?_
  rintro e w1 ⟨g1, x1, y1, g2, x2, y2, k1, k2, rfl, hP, hQ, hk1, hk2, hB⟩
  have HW1 := Lib.hid (Below.up HW.out hB)
  have X1 := Lib.hid (V1.out.below hB)
  have X2 := Lib.hid (V2.out.below hB)
  have RP := Lib.hid hP
  have RQ := Lib.hid hQ
  clear hP hQ hB V0 V1 V2 HW
  have ne1 : w.heap.size + 1 ≠ w.heap.size + 1 + 1 := by omega
  have ne2 : w.heap.size + 1 + 1 ≠ w.heap.size + 1 := by omega
  obtain ⟨u1, v1, c10, c11, f10, f11⟩ := X1.out.open
  obtain ⟨u2, v2, c20, c21, f20, f21⟩ := X2.out.open
  go_wp2_with fail
  refine wp_at (fun W => BX W (w.heap.size + 1) false x1 k1 y1 ((tP p q).natAbs : Int) ∧ BX W (w.heap.size + 1 + 1) g2 x2 k2 y2 (tQ q) ∧ Below w.heap.size w W) ⟨?_, ?_, ?_⟩ ?_
  · have h1 := BX.put X1.out RP.out
    have h2 := (h1.other (i := 0) (u := .bool g2) ((X2.out.keep2 ne1).keep2 ne1) ne2).other (i := 1) (u := .slice x2 k2 y2) (((X2.out.keep2 ne1).keep2 ne1).set0 g2) ne2
    exact h2.flag false h2.2.abs
  · have h1 := BX.put ((X2.out.keep2 (i := 0) (u := .bool g1) ne1).keep2 (i := 1) (u := .slice x1 k1 y1) ne1) (AI.set (AI.set RQ.out X1.out) (X1.out.set0 g1))
    exact h1.other (((((X1.out.set0 g1).set1 x1 k1 y1).keep2 ne2).keep2 ne2)) ne1
  · exact ((((HW1.out.setCell (by show _ ≤ w.heap.size + 1; omega) _).setCell (by show _ ≤ w.heap.size + 1; omega) _).setCell (by show _ ≤ w.heap.size + 1 + 1; omega) _).setCell (by show _ ≤ w.heap.size + 1 + 1; omega) _).setCell (by show _ ≤ w.heap.size + 1; omega) _
  rintro w2 ⟨h1, h2, h3⟩
  have X3 := Lib.hid h1
  have X4 := Lib.hid h2
  have HW2 := Lib.hid h3
  clear h1 h2 h3 X1 X2 RP RQ HW1 c10 c11 c20 c21 f10 f11 f20 f21
  obtain ⟨c10, c11, f10, f11⟩ := X3.out.cells
  obtain ⟨c20, c21, f20, f21⟩ := X4.out.cells
  have s10 := setCell_self c10
  have s11 := setCell_self c11
  have s20 := setCell_self c20
  have s21 := setCell_self c21
  go_region
  all_goals go_wp2_with fail
  all_goals try simp only [s10, s11, s20, s21]
  all_goals exact bodyPost_ret (v := .tuple #[.agg #[.bool false, .slice x1 k1 y1], .agg #[.bool g2, .slice x2 k2 y2]]) (by simp [results, Tryd.results76, go_sem, c10, c11, c20, c21, ne1, ne2]) rfl ⟨x1, y1, g2, x2, y2, k1, k2, rfl, X3.out.drew.2, X4.out.drew.2, by omega, by omega, HW2.out.drew⟩
end Go.Proofs.YtpkjpepnjlcgoaaDoor
end

section
set_option linter.unusedVariables false
set_option linter.unusedSimpArgs false
namespace Go.Proofs.YtpkjpepnjlcgoaaDoor
open Go

/-- Operation j waits for operation i. -/
def waitsFor (md : Region.Mode) (ops : Array Oper) (i j : Nat) : Bool :=
  match ops[j]? with
  | some o => o.after.any fun e => Region.binds md e && (e.on == i)
  | none => true

/-- Whatever order is picked, the condition S holds behind each operation but for those of the list L, and the condition T behind each one. -/
def LateAny (P : Program) (md : Region.Mode) (ops : Array Oper) (Q : Exit → Act → World → Prop) (S T : World → Prop) (L : List Nat) : Nat → Array Bool → Act → World → Prop
  | 0, up, a, w => Region.ready md ops up = [] ∧ Q .normal a w
  | n + 1, up, a, w => (Region.ready md ops up = [] → Q .normal a w) ∧
      ∀ j ∈ Region.ready md ops up, wpOp P ops Q j (fun b v => ((j ∉ L → S v) ∧ T v) ∧ LateAny P md ops Q S T L n (up.setIfInBounds j true) b v) a w

section
variable {P : Program} {md : Region.Mode} {ops : Array Oper} {Q : Exit → Act → World → Prop} {S T : World → Prop} {L : List Nat}

theorem LateAny.any : ∀ (n : Nat) (up : Array Bool) (a : Act) (w : World), LateAny P md ops Q S T L n up a w → wpAny P md ops Q n up a w := by
  intro n
  induction n with
  | zero => intro up a w h; exact h
  | succ n ih => intro up a w h; exact ⟨h.1, fun j hj => wpOp_mono (fun b v k => ih _ b v k.2) (h.2 j hj)⟩

/-- i is of L, or all of L wait for it or have come up. -/
def early (md : Region.Mode) (ops : Array Oper) (L : List Nat) (up : Array Bool) (i : Nat) : Bool := L.contains i || L.all fun k => waitsFor md ops i k || up.getD k false
/-- What holds where i may come up. -/
def Meets (S T : World → Prop) (L : List Nat) (i : Nat) (w : World) : Prop := (i ∉ L → S w) ∧ T w
theorem unlisted {i : Nat} {up : Array Bool} (hi : i ∈ Region.ready md ops up) (h : up.getD i false = true) : False := by
  have hu := (mem_ready.1 hi).1
  rcases Nat.lt_or_ge i up.size with g | g
  · simp [g] at h hu
    rw [hu] at h
    cases h
  · simp [Array.getElem?_eq_none g] at h
theorem listed_of {i j : Nat} {up : Array Bool} {o : Oper} (hj : j ∈ Region.ready md ops up) (ho : ops[j]? = some o) (hi : i ∈ Region.ready md ops up) : ∀ e ∈ o.after, Region.binds md e = true → e.on ≠ i := by
  obtain ⟨_, o', ho', hall⟩ := mem_ready.1 hj
  obtain rfl : o' = o := Option.some.inj (ho'.symm.trans ho)
  intro e he hb hc
  have hx := hall e he hb
  rw [hc] at hx
  have hu := (mem_ready.1 hi).1
  rcases Nat.lt_or_ge i up.size with g | g
  · simp [g] at hx hu
    rw [hu] at hx
    cases hx
  · simp [Array.getElem?_eq_none g] at hx
theorem Meets.next {i j : Nat} {up : Array Bool} {u : World} (hL : early md ops L up i = true) (hi : i ∈ Region.ready md ops up) (hj : j ∈ Region.ready md ops up) (h : Meets S T L j u) : Meets S T L i u := by
  refine ⟨fun hn => ?_, h.2⟩
  unfold early at hL
  rw [Bool.or_eq_true] at hL
  rcases hL with hc | hc
  · exact absurd (by simpa using hc) hn
  · refine h.1 fun hl => ?_
    have hk := List.all_eq_true.1 hc j hl
    rw [Bool.or_eq_true] at hk
    rcases hk with hw | hw
    · obtain ⟨_, o, ho, hall⟩ := mem_ready.1 hj
      unfold waitsFor at hw
      rw [ho] at hw
      obtain ⟨e, he, hb⟩ := Array.any_eq_true'.1 hw
      rw [Bool.and_eq_true, beq_iff_eq] at hb
      exact listed_of hj ho hi e he hb.1 hb.2
    · exact unlisted hj hw
theorem early_set {i j : Nat} {up : Array Bool} (h : early md ops L up i = true) : early md ops L (up.setIfInBounds j true) i = true := by
  unfold early at *
  rw [Bool.or_eq_true] at *
  refine h.imp id fun h => List.all_eq_true.2 fun k hk => ?_
  have hx := List.all_eq_true.1 h k hk
  rw [Bool.or_eq_true] at *
  refine hx.imp id fun hx => ?_
  rcases Nat.decEq j k with g | g
  · rwa [getD_set_ne false g]
  · subst g
    rcases Nat.lt_or_ge j up.size with g2 | g2
    · simp [g2]
    · simp [Array.getElem?_eq_none g2] at hx

theorem LateAny.read {i : Nat} {oi : Oper} {v : Value} (hi : ops[i]? = some oi) (hs : Region.noSelect ops = true)
    (hQ : ∀ c a w, Q (.panic c) (a.put oi.dst v) w → Q (.panic c) a w) :
    ∀ (n : Nat) (up : Array Bool) (a : Act) (w : World), early md ops L up i = true → (∀ j oj, ops[j]? = some oj → j ≠ i → up.getD j true = false → (∀ e ∈ oj.after, Region.binds md e = true → e.on ≠ i) → oi.apart ops oj = true) →
      i ∈ Region.ready md ops up → YieldsIf P ops (Meets S T L i) oi v a → Meets S T L i w → LateAny P md ops Q S T L n (up.setIfInBounds i true) (a.put oi.dst v) w → LateAny P md ops Q S T L (n + 1) up a w := by
  have hno := Region.noSelect_spec hs
  intro n
  induction n with
  | zero =>
    intro up a w _ _ hr hy hS H
    constructor
    · intro h0; rw [h0] at hr; cases hr
    · intro j hj
      rcases Nat.decEq j i with g | g
      · have := ready_mono hj g
        rw [H.1] at this
        cases this
      · subst g
        exact hy.wpOp hi hS ⟨hS, H⟩
  | succ n ih =>
    intro up a w hL hap hr hy hS H
    constructor
    · intro h0; rw [h0] at hr; cases hr
    · intro j hj
      rcases Nat.decEq j i with g | g
      · obtain ⟨hun, oj, hoj, _⟩ := mem_ready.1 hj
        have hstep := wpOp_putIf hoj (hap j oj hoj g hun (listed_of hj hoj hr)) (fun cs b => hno i oi cs b hi) (fun cs b => hno j oj cs b hoj) hQ hy (H.2 j (ready_mono hj g))
        refine wpOp_mono (fun b u k => ?_) hstep
        obtain ⟨hyb, hSu, hrest⟩ := k
        refine ⟨hSu, ih _ b u (early_set hL) (fun k ok hk hki hku hkf => hap k ok hk hki ?_ hkf) (ready_mono hr (Ne.symm g)) hyb (Meets.next hL hr hj hSu) ?_⟩
        · rcases Nat.decEq j k with g3 | g3
          · rwa [getD_set_ne true g3] at hku
          · subst g3; exact hun
        · rwa [Array.setIfInBounds_comm _ _ g]
      · subst g
        exact hy.wpOp hi hS ⟨hS, H⟩

/-- Number i is read first. -/
theorem LateAny.take {i : Nat} {oi : Oper} {v : Value} {n : Nat} {up : Array Bool} {a : Act} {w : World} (hi : ops[i]? = some oi) (hs : Region.noSelect ops = true) (hL : early md ops L up i = true)
    (hf : Region.free md ops up i = true) (hr : (Region.ready md ops up).contains i = true) (hQ : ∀ c a w, Q (.panic c) (a.put oi.dst v) w → Q (.panic c) a w) (hy : YieldsIf P ops (Meets S T L i) oi v a) (hS : Meets S T L i w)
    (h : LateAny P md ops Q S T L n (up.setIfInBounds i true) (a.put oi.dst v) w) : LateAny P md ops Q S T L (n + 1) up a w :=
  LateAny.read hi hs hQ n up a w hL (Region.free_spec hi hf) (by simpa using hr) hy hS h

/-- One operation alone may come up, and S holds behind it. -/
theorem LateAny.one {i : Nat} {o : Oper} {n : Nat} {up : Array Bool} {a : Act} {w : World} (hi : ops[i]? = some o) (hr : Region.ready md ops up = [i])
    (h : ∀ K : Act → World → Prop, Shut (∀ b v, S v ∧ T v → (S v ∧ T v → LateAny P md ops Q S T L n (up.setIfInBounds i true) b v) → K b v) → if Region.wanted o (yielded ops a.tmps) = true then Oper.wp P o a w K Q else K (a.put o.dst undef) w) : LateAny P md ops Q S T L (n + 1) up a w := by
  constructor
  · intro h0; rw [hr] at h0; cases h0
  · intro j hj
    rw [hr] at hj
    obtain rfl := List.mem_singleton.1 hj
    exact wpOp_step hi fun K hK => h K fun b v hS k => hK b v ⟨⟨fun _ => hS.1, hS.2⟩, k hS⟩
/-- One operation of L alone may come up. -/
theorem LateAny.late {i : Nat} {o : Oper} {n : Nat} {up : Array Bool} {a : Act} {w : World} (hi : ops[i]? = some o) (hr : Region.ready md ops up = [i]) (hl : i ∈ L)
    (h : ∀ K : Act → World → Prop, Shut (∀ b v, T v → LateAny P md ops Q S T L n (up.setIfInBounds i true) b v → K b v) → if Region.wanted o (yielded ops a.tmps) = true then Oper.wp P o a w K Q else K (a.put o.dst undef) w) : LateAny P md ops Q S T L (n + 1) up a w := by
  constructor
  · intro h0; rw [hr] at h0; cases h0
  · intro j hj
    rw [hr] at hj
    obtain rfl := List.mem_singleton.1 hj
    exact wpOp_step hi fun K hK => h K fun b v hT k => hK b v ⟨⟨fun g => absurd hl g, hT⟩, k⟩
/-- All have come up. -/
theorem LateAny.done {up : Array Bool} {a : Act} {w : World} (hr : Region.ready md ops up = []) (h : Q .normal a w) : ∀ n, LateAny P md ops Q S T L n up a w := by
  intro n
  cases n with
  | zero => exact ⟨hr, h⟩
  | succ n => exact ⟨fun _ => h, fun j hj => by rw [hr] at hj; cases hj⟩
/-- The region begins. -/
theorem late_region {id : Nat} {a : Act} {w : World} (L : List Nat) (hm : P.follows .mixedOrders = true) (hS : S w.drew ∧ T w.drew) (h : S w.drew ∧ T w.drew → LateAny P .any ops Q S T L ops.size (Array.replicate ops.size false) a w.drew) : (Code.region id ops true).wp P Q a w :=
  wp_region_any hm (LateAny.any _ _ _ _ (h hS))
end
end Go.Proofs.YtpkjpepnjlcgoaaDoor
end

section
set_option linter.unusedVariables false
set_option linter.unusedSimpArgs false
set_option maxRecDepth 100000
namespace Go.Proofs.YtpkjpepnjlcgoaaDoor
open Go.RowKit

theorem AI.lta {w : World} {v : Value} {n : Nat} {z : Int} (h : AI w v n z) : (z.natAbs : Int) < P n := by
  obtain ⟨g, a, c, x, e, hc, hd, hs, hz⟩ := h
  have h1 := V_lt hd n
  have h2 := V_nonneg hd n
  cases g <;> simp [sg] at hz <;> omega
theorem P67 : P 6 + 1 < P 7 := by decide
/-- The variables of the search. -/
structure SmI (w W : World) (b4 b5 b6 b7 b8 b9 b10 b11 b12 : Nat) (a b c d nu ln de ld : Int) : Prop where
  o0 : w.heap.size ≤ b4
  o1 : b4 < b5
  o2 : b5 < b6
  o3 : b6 < b7
  o4 : b7 < b8
  o5 : b8 < b9
  o6 : b9 < b10
  o7 : b10 < b11
  o8 : b11 < b12
  r : Box4 W b4
  v5 : BV W b5 a
  v6 : BV W b6 b
  v7 : BV W b7 c
  v8 : BV W b8 d
  v9 : BV W b9 nu
  v10 : BV W b10 de
  v11 : BV W b11 ln
  v12 : BV W b12 ld
  B : Below w.heap.size w W
theorem SmI.below {w W W' : World} {b4 b5 b6 b7 b8 b9 b10 b11 b12 : Nat} {a b c d nu ln de ld : Int} (h : SmI w W b4 b5 b6 b7 b8 b9 b10 b11 b12 a b c d nu ln de ld) (k : Below W.heap.size W W') : SmI w W' b4 b5 b6 b7 b8 b9 b10 b11 b12 a b c d nu ln de ld :=
  ⟨h.o0, h.o1, h.o2, h.o3, h.o4, h.o5, h.o6, h.o7, h.o8, h.r.below k, h.v5.below k, h.v6.below k, h.v7.below k, h.v8.below k, h.v9.below k, h.v10.below k, h.v11.below k, h.v12.below k, Below.up h.B k⟩
theorem BV.pair {w : World} {b b2 : Nat} {z : Int} {g : Bool} {a : Option Addr} {n c : Nat} (h : BV w b z) (k : Box2 w b2) (hb : b2 ≠ b) : BV ((w.setCell ⟨b2, 0, none⟩ (.bool g)).setCell ⟨b2, 1, none⟩ (.slice a n c)) b z := (h.other k hb).other (k.set0 g) hb
theorem AI.pair {w : World} {b2 m : Nat} {v : Value} {z : Int} {g : Bool} {a : Option Addr} {n c : Nat} (h : AI w v m z) (k : Box2 w b2) : AI ((w.setCell ⟨b2, 0, none⟩ (.bool g)).setCell ⟨b2, 1, none⟩ (.slice a n c)) v m z := AI.set (AI.set h k) (k.set0 g)
theorem SmI.put5 {w W : World} {b4 b5 b6 b7 b8 b9 b10 b11 b12 : Nat} {a b c d nu ln de ld : Int} (h : SmI w W b4 b5 b6 b7 b8 b9 b10 b11 b12 a b c d nu ln de ld) {g : Bool} {x : Option Addr} {n m : Nat} {y : Int} (k : AI W (.agg #[.bool g, .slice x n m]) n y) (hn : n ≤ 7) :
    SmI w ((W.setCell ⟨b5, 0, none⟩ (.bool g)).setCell ⟨b5, 1, none⟩ (.slice x n m)) b4 b5 b6 b7 b8 b9 b10 b11 b12 y b c d nu ln de ld := by
  have hb := h.v5.box
  have := h.o0; have := h.o1; have := h.o2; have := h.o3; have := h.o4; have := h.o5; have := h.o6; have := h.o7; have := h.o8
  exact ⟨h.o0, h.o1, h.o2, h.o3, h.o4, h.o5, h.o6, h.o7, h.o8, (h.r.keep2 (by omega)).keep2 (by omega), BV.put hb k hn, h.v6.pair hb (by omega), h.v7.pair hb (by omega), h.v8.pair hb (by omega), h.v9.pair hb (by omega), h.v10.pair hb (by omega), h.v11.pair hb (by omega), h.v12.pair hb (by omega), (h.B.setCell (by show _ ≤ b5; omega) _).setCell (by show _ ≤ b5; omega) _⟩
theorem SmI.put6 {w W : World} {b4 b5 b6 b7 b8 b9 b10 b11 b12 : Nat} {a b c d nu ln de ld : Int} (h : SmI w W b4 b5 b6 b7 b8 b9 b10 b11 b12 a b c d nu ln de ld) {g : Bool} {x : Option Addr} {n m : Nat} {y : Int} (k : AI W (.agg #[.bool g, .slice x n m]) n y) (hn : n ≤ 7) :
    SmI w ((W.setCell ⟨b6, 0, none⟩ (.bool g)).setCell ⟨b6, 1, none⟩ (.slice x n m)) b4 b5 b6 b7 b8 b9 b10 b11 b12 a y c d nu ln de ld := by
  have hb := h.v6.box
  have := h.o0; have := h.o1; have := h.o2; have := h.o3; have := h.o4; have := h.o5; have := h.o6; have := h.o7; have := h.o8
  exact ⟨h.o0, h.o1, h.o2, h.o3, h.o4, h.o5, h.o6, h.o7, h.o8, (h.r.keep2 (by omega)).keep2 (by omega), h.v5.pair hb (by omega), BV.put hb k hn, h.v7.pair hb (by omega), h.v8.pair hb (by omega), h.v9.pair hb (by omega), h.v10.pair hb (by omega), h.v11.pair hb (by omega), h.v12.pair hb (by omega), (h.B.setCell (by show _ ≤ b6; omega) _).setCell (by show _ ≤ b6; omega) _⟩
theorem SmI.put7 {w W : World} {b4 b5 b6 b7 b8 b9 b10 b11 b12 : Nat} {a b c d nu ln de ld : Int} (h : SmI w W b4 b5 b6 b7 b8 b9 b10 b11 b12 a b c d nu ln de ld) {g : Bool} {x : Option Addr} {n m : Nat} {y : Int} (k : AI W (.agg #[.bool g, .slice x n m]) n y) (hn : n ≤ 7) :
    SmI w ((W.setCell ⟨b7, 0, none⟩ (.bool g)).setCell ⟨b7, 1, none⟩ (.slice x n m)) b4 b5 b6 b7 b8 b9 b10 b11 b12 a b y d nu ln de ld := by
  have hb := h.v7.box
  have := h.o0; have := h.o1; have := h.o2; have := h.o3; have := h.o4; have := h.o5; have := h.o6; have := h.o7; have := h.o8
  exact ⟨h.o0, h.o1, h.o2, h.o3, h.o4, h.o5, h.o6, h.o7, h.o8, (h.r.keep2 (by omega)).keep2 (by omega), h.v5.pair hb (by omega), h.v6.pair hb (by omega), BV.put hb k hn, h.v8.pair hb (by omega), h.v9.pair hb (by omega), h.v10.pair hb (by omega), h.v11.pair hb (by omega), h.v12.pair hb (by omega), (h.B.setCell (by show _ ≤ b7; omega) _).setCell (by show _ ≤ b7; omega) _⟩
theorem SmI.put8 {w W : World} {b4 b5 b6 b7 b8 b9 b10 b11 b12 : Nat} {a b c d nu ln de ld : Int} (h : SmI w W b4 b5 b6 b7 b8 b9 b10 b11 b12 a b c d nu ln de ld) {g : Bool} {x : Option Addr} {n m : Nat} {y : Int} (k : AI W (.agg #[.bool g, .slice x n m]) n y) (hn : n ≤ 7) :
    SmI w ((W.setCell ⟨b8, 0, none⟩ (.bool g)).setCell ⟨b8, 1, none⟩ (.slice x n m)) b4 b5 b6 b7 b8 b9 b10 b11 b12 a b c y nu ln de ld := by
  have hb := h.v8.box
  have := h.o0; have := h.o1; have := h.o2; have := h.o3; have := h.o4; have := h.o5; have := h.o6; have := h.o7; have := h.o8
  exact ⟨h.o0, h.o1, h.o2, h.o3, h.o4, h.o5, h.o6, h.o7, h.o8, (h.r.keep2 (by omega)).keep2 (by omega), h.v5.pair hb (by omega), h.v6.pair hb (by omega), h.v7.pair hb (by omega), BV.put hb k hn, h.v9.pair hb (by omega), h.v10.pair hb (by omega), h.v11.pair hb (by omega), h.v12.pair hb (by omega), (h.B.setCell (by show _ ≤ b8; omega) _).setCell (by show _ ≤ b8; omega) _⟩
theorem SmI.put9 {w W : World} {b4 b5 b6 b7 b8 b9 b10 b11 b12 : Nat} {a b c d nu ln de ld : Int} (h : SmI w W b4 b5 b6 b7 b8 b9 b10 b11 b12 a b c d nu ln de ld) {g : Bool} {x : Option Addr} {n m : Nat} {y : Int} (k : AI W (.agg #[.bool g, .slice x n m]) n y) (hn : n ≤ 7) :
    SmI w ((W.setCell ⟨b9, 0, none⟩ (.bool g)).setCell ⟨b9, 1, none⟩ (.slice x n m)) b4 b5 b6 b7 b8 b9 b10 b11 b12 a b c d y ln de ld := by
  have hb := h.v9.box
  have := h.o0; have := h.o1; have := h.o2; have := h.o3; have := h.o4; have := h.o5; have := h.o6; have := h.o7; have := h.o8
  exact ⟨h.o0, h.o1, h.o2, h.o3, h.o4, h.o5, h.o6, h.o7, h.o8, (h.r.keep2 (by omega)).keep2 (by omega), h.v5.pair hb (by omega), h.v6.pair hb (by omega), h.v7.pair hb (by omega), h.v8.pair hb (by omega), BV.put hb k hn, h.v10.pair hb (by omega), h.v11.pair hb (by omega), h.v12.pair hb (by omega), (h.B.setCell (by show _ ≤ b9; omega) _).setCell (by show _ ≤ b9; omega) _⟩
theorem SmI.put10 {w W : World} {b4 b5 b6 b7 b8 b9 b10 b11 b12 : Nat} {a b c d nu ln de ld : Int} (h : SmI w W b4 b5 b6 b7 b8 b9 b10 b11 b12 a b c d nu ln de ld) {g : Bool} {x : Option Addr} {n m : Nat} {y : Int} (k : AI W (.agg #[.bool g, .slice x n m]) n y) (hn : n ≤ 7) :
    SmI w ((W.setCell ⟨b10, 0, none⟩ (.bool g)).setCell ⟨b10, 1, none⟩ (.slice x n m)) b4 b5 b6 b7 b8 b9 b10 b11 b12 a b c d nu ln y ld := by
  have hb := h.v10.box
  have := h.o0; have := h.o1; have := h.o2; have := h.o3; have := h.o4; have := h.o5; have := h.o6; have := h.o7; have := h.o8
  exact ⟨h.o0, h.o1, h.o2, h.o3, h.o4, h.o5, h.o6, h.o7, h.o8, (h.r.keep2 (by omega)).keep2 (by omega), h.v5.pair hb (by omega), h.v6.pair hb (by omega), h.v7.pair hb (by omega), h.v8.pair hb (by omega), h.v9.pair hb (by omega), BV.put hb k hn, h.v11.pair hb (by omega), h.v12.pair hb (by omega), (h.B.setCell (by show _ ≤ b10; omega) _).setCell (by show _ ≤ b10; omega) _⟩
theorem SmI.put11 {w W : World} {b4 b5 b6 b7 b8 b9 b10 b11 b12 : Nat} {a b c d nu ln de ld : Int} (h : SmI w W b4 b5 b6 b7 b8 b9 b10 b11 b12 a b c d nu ln de ld) {g : Bool} {x : Option Addr} {n m : Nat} {y : Int} (k : AI W (.agg #[.bool g, .slice x n m]) n y) (hn : n ≤ 7) :
    SmI w ((W.setCell ⟨b11, 0, none⟩ (.bool g)).setCell ⟨b11, 1, none⟩ (.slice x n m)) b4 b5 b6 b7 b8 b9 b10 b11 b12 a b c d nu y de ld := by
  have hb := h.v11.box
  have := h.o0; have := h.o1; have := h.o2; have := h.o3; have := h.o4; have := h.o5; have := h.o6; have := h.o7; have := h.o8
  exact ⟨h.o0, h.o1, h.o2, h.o3, h.o4, h.o5, h.o6, h.o7, h.o8, (h.r.keep2 (by omega)).keep2 (by omega), h.v5.pair hb (by omega), h.v6.pair hb (by omega), h.v7.pair hb (by omega), h.v8.pair hb (by omega), h.v9.pair hb (by omega), h.v10.pair hb (by omega), BV.put hb k hn, h.v12.pair hb (by omega), (h.B.setCell (by show _ ≤ b11; omega) _).setCell (by show _ ≤ b11; omega) _⟩
theorem SmI.put12 {w W : World} {b4 b5 b6 b7 b8 b9 b10 b11 b12 : Nat} {a b c d nu ln de ld : Int} (h : SmI w W b4 b5 b6 b7 b8 b9 b10 b11 b12 a b c d nu ln de ld) {g : Bool} {x : Option Addr} {n m : Nat} {y : Int} (k : AI W (.agg #[.bool g, .slice x n m]) n y) (hn : n ≤ 7) :
    SmI w ((W.setCell ⟨b12, 0, none⟩ (.bool g)).setCell ⟨b12, 1, none⟩ (.slice x n m)) b4 b5 b6 b7 b8 b9 b10 b11 b12 a b c d nu ln de y := by
  have hb := h.v12.box
  have := h.o0; have := h.o1; have := h.o2; have := h.o3; have := h.o4; have := h.o5; have := h.o6; have := h.o7; have := h.o8
  exact ⟨h.o0, h.o1, h.o2, h.o3, h.o4, h.o5, h.o6, h.o7, h.o8, (h.r.keep2 (by omega)).keep2 (by omega), h.v5.pair hb (by omega), h.v6.pair hb (by omega), h.v7.pair hb (by omega), h.v8.pair hb (by omega), h.v9.pair hb (by omega), h.v10.pair hb (by omega), h.v11.pair hb (by omega), BV.put hb k hn, (h.B.setCell (by show _ ≤ b12; omega) _).setCell (by show _ ≤ b12; omega) _⟩
/-- What simplest gives. -/
def SmP (w : World) (A B C D : Int) (e : Ending) (w' : World) : Prop := ∃ g a c g' a' c' k j S T, e = .returned (.agg #[.bool g, .slice a k c, .bool g', .slice a' j c']) ∧ AR w' (.agg #[.bool g, .slice a k c, .bool g', .slice a' j c']) k j S T ∧ Simp A B C D S T ∧ k ≤ 15 ∧ j ≤ 15 ∧ Below w.heap.size w w'

set_option maxHeartbeats 12800000 in
theorem simplest_any (g1 h1 g2 h2 : Bool) (a1 b1 a2 b2 : Option Addr) (n1 m1 n2 m2 c1 d1 c2 d2 : Nat) (p1 q1 p2 q2 : Int) (A B C D : Int) (w : World) (hu : AR w (.agg #[.bool g1, .slice a1 n1 c1, .bool h1, .slice b1 m1 d1]) n1 m1 p1 q1) (hv : AR w (.agg #[.bool g2, .slice a2 n2 c2, .bool h2, .slice b2 m2 d2]) n2 m2 p2 q2)
    (hA0 : ((tP p1 q1).natAbs : Int) = A) (hB0 : tQ q1 = B) (hC0 : ((tP p2 q2).natAbs : Int) = C) (hD0 : tQ q2 = D) (hA1 : 0 < A) (hB1 : 0 < B) (hC1 : 0 < C) (hD1 : 0 < D) (hle : A * D ≤ C * B)
    (hn1 : n1 ≤ 6) (hm1 : m1 ≤ 6) (hn2 : n2 ≤ 6) (hm2 : m2 ≤ 6) :
    Calls Tryd.prog 52 #[.agg #[.bool g1, .slice a1 n1 c1, .bool h1, .slice b1 m1 d1], .agg #[.bool g2, .slice a2 n2 c2, .bool h2, .slice b2 m2 d2]] w (SmP w A B C D) := by
  have V0 := Lib.hid (show RV (((w.alloc (.cells #[.bool g1, .slice a1 n1 c1, .bool h1, .slice b1 m1 d1] 26)).alloc (.cells #[.bool g2, .slice a2 n2 c2, .bool h2, .slice b2 m2 d2] 26)).alloc (.cells #[.bool false, .slice none 0 0, .bool false, .slice none 0 0] 26)) w.heap.size g1 a1 n1 c1 h1 b1 m1 d1 p1 q1 from ((RV.new hu).below (Below.alloc' (Below.refl _ _) _)).below (Below.alloc' (Below.refl _ _) _))
  have V1 := Lib.hid (show RV (((w.alloc (.cells #[.bool g1, .slice a1 n1 c1, .bool h1, .slice b1 m1 d1] 26)).alloc (.cells #[.bool g2, .slice a2 n2 c2, .bool h2, .slice b2 m2 d2] 26)).alloc (.cells #[.bool false, .slice none 0 0, .bool false, .slice none 0 0] 26)) (w.heap.size + 1) g2 a2 n2 c2 h2 b2 m2 d2 p2 q2 from (RV.new' (hv.below (w' := w.alloc (.cells #[.bool g1, .slice a1 n1 c1, .bool h1, .slice b1 m1 d1] 26)) (Below.alloc' (Below.refl _ _) _)) (by simp)).below (Below.alloc' (Below.refl _ _) _))
  have V2 := Lib.hid (Box4.new' (w := (w.alloc (.cells #[.bool g1, .slice a1 n1 c1, .bool h1, .slice b1 m1 d1] 26)).alloc (.cells #[.bool g2, .slice a2 n2 c2, .bool h2, .slice b2 m2 d2] 26)) (b := w.heap.size + 1 + 1) (by simp) (g := false) (a := none) (n := 0) (c := 0) (g' := false) (a' := none) (n' := 0) (c' := 0))
  have HW := Lib.hid (show Below w.heap.size w (((w.alloc (.cells #[.bool g1, .slice a1 n1 c1, .bool h1, .slice b1 m1 d1] 26)).alloc (.cells #[.bool g2, .slice a2 n2 c2, .bool h2, .slice b2 m2 d2] 26)).alloc (.cells #[.bool false, .slice none 0 0, .bool false, .slice none 0 0] 26)) from Below.alloc' (Below.alloc2 _ _ _) _)
  clear hu hv
  go_enter Tryd.func52, Tryd.ntmps52
  go_wp2_with fail
  refine calls_at (fun W => Below w.heap.size w W ∧ RV W w.heap.size g1 a1 n1 c1 h1 b1 m1 d1 p1 q1 ∧ RV W (w.heap.size + 1) g2 a2 n2 c2 h2 b2 m2 d2 p2 q2 ∧ Box4 W (w.heap.size + 1 + 1)) ⟨HW.out, V0.out, V1.out, V2.out⟩ ?_
  clear HW V0 V1 V2
  rintro w0 ⟨k0, k1, k2, k3⟩
  have HW := Lib.hid k0
  have V0 := Lib.hid k1
  have V1 := Lib.hid k2
  have V2 := Lib.hid k3
  clear k0 k1 k2 k3
  refine (sizes_any g1 h1 a1 b1 n1 m1 c1 d1 p1 q1 _ V0.out.2.2.2.2.2 (by omega) (by omega)).mono ?_
  rintro e w1 ⟨xa, ya, gb, xb, yb, ka, kb, rfl, hA, hB, hka, hkb, hW⟩
  have b0 := hA.lta
  have b1' := hB.lta
  have HA := Lib.hid hA
  have HB := Lib.hid hB
  have HW1 := Lib.hid (Below.up HW.out hW)
  have X1 := Lib.hid (V1.out.below hW)
  have X2 := Lib.hid (V2.out.below hW)
  clear hA hB hW V0 V1 V2 HW
  obtain ⟨e0, e1, e2, e3, e4, _⟩ := X1.out.below (Below.alloc2 w1 (.cells #[.bool false, .slice xa ka ya] 24) (.cells #[.bool gb, .slice xb kb yb] 24))
  go_wp2_with fail
  refine calls_at (fun W => Below w.heap.size w W ∧ RV W (w.heap.size + 1) g2 a2 n2 c2 h2 b2 m2 d2 p2 q2 ∧ Box4 W (w.heap.size + 1 + 1) ∧ BV W w1.heap.size A ∧ BV W (w1.heap.size + 1) B) ⟨Below.up HW1.out (Below.alloc2 _ _ _), X1.out.below (Below.alloc2 _ _ _), X2.out.below (Below.alloc2 _ _ _), (BV.new (hA0 ▸ HA.out) (by omega)).below (Below.alloc' (Below.refl _ _) _), BV.new' ((hB0 ▸ HB.out).alloc _) (by omega) (by simp)⟩ ?_
  have z1 := X2.out.lt
  clear HW1 X1 X2 HA HB e0 e1 e2 e3 e4
  rintro w2 ⟨k0, k1, k2, k3, k4⟩
  have HW := Lib.hid k0
  have V1 := Lib.hid k1
  have V2 := Lib.hid k2
  have V5 := Lib.hid k3
  have V6 := Lib.hid k4
  clear k0 k1 k2 k3 k4
  generalize w1.heap.size = b5 at *
  refine (sizes_any g2 h2 a2 b2 n2 m2 c2 d2 p2 q2 _ V1.out.2.2.2.2.2 (by omega) (by omega)).mono ?_
  rintro e w3 ⟨xa, ya, gb, xb, yb, ka', kb', rfl, hA, hB, hka', hkb', hW⟩
  have b2' := hA.lta
  have b3' := hB.lta
  have HA := Lib.hid hA
  have HB := Lib.hid hB
  have HW1 := Lib.hid (Below.up HW.out hW)
  have X2 := Lib.hid (V2.out.below hW)
  have X5 := Lib.hid (V5.out.below hW)
  have X6 := Lib.hid (V6.out.below hW)
  clear hA hB hW V1 V2 V5 V6 HW
  go_wp2_with fail
  refine calls_at (fun W => Below w.heap.size w W ∧ Box4 W (w.heap.size + 1 + 1) ∧ BV W b5 A ∧ BV W (b5 + 1) B ∧ BV W w3.heap.size C ∧ BV W (w3.heap.size + 1) D) ⟨Below.up HW1.out (Below.alloc2 _ _ _), X2.out.below (Below.alloc2 _ _ _), X5.out.below (Below.alloc2 _ _ _), X6.out.below (Below.alloc2 _ _ _), (BV.new (hC0 ▸ HA.out) (by omega)).below (Below.alloc' (Below.refl _ _) _), BV.new' ((hD0 ▸ HB.out).alloc _) (by omega) (by simp)⟩ ?_
  have z2 := X6.out.box.lt
  clear HW1 X2 X5 X6 HA HB
  rintro w4 ⟨k0, k1, k2, k3, k4, k5⟩
  have HW := Lib.hid k0
  have V2 := Lib.hid k1
  have V5 := Lib.hid k2
  have V6 := Lib.hid k3
  have V7 := Lib.hid k4
  have V8 := Lib.hid k5
  clear k0 k1 k2 k3 k4 k5
  generalize w3.heap.size = b7 at *
  refine (of_gf 1 (by omega) _).mono ?_
  rintro e w5 ⟨gi0, xi0, yi0, ki0, rfl, hR, hki0, hW⟩
  have HR0 := Lib.hid hR
  have HWi0 := Lib.hid hW
  clear hR hW
  go_wp2_with fail
  refine (of_gf 0 (by omega) _).mono ?_
  rintro e w6 ⟨gi1, xi1, yi1, ki1, rfl, hR, hki1, hW⟩
  have HR1 := Lib.hid hR
  have HWi1 := Lib.hid hW
  clear hR hW
  go_wp2_with fail
  refine (of_gf 0 (by omega) _).mono ?_
  rintro e w7 ⟨gi2, xi2, yi2, ki2, rfl, hR, hki2, hW⟩
  have HR2 := Lib.hid hR
  have HWi2 := Lib.hid hW
  clear hR hW
  go_wp2_with fail
  refine (of_gf 1 (by omega) _).mono ?_
  rintro e w8 ⟨gi3, xi3, yi3, ki3, rfl, hR, hki3, hW⟩
  have HR3 := Lib.hid hR
  have HWi3 := Lib.hid hW
  clear hR hW
  go_wp2_with fail
  have z3 := V8.out.box.lt
  have t0 := HWi0.out.size
  have t1 := HWi1.out.size
  have t2 := HWi2.out.size
  have t3 := HWi3.out.size
  have K04 := Lib.hid (Below.up (Below.up (Below.up HWi0.out HWi1.out) HWi2.out) HWi3.out)
  refine wp_at (fun W => SmI w W (w.heap.size + 1 + 1) b5 (b5 + 1) b7 (b7 + 1) w8.heap.size (w8.heap.size + 1) (w8.heap.size + 1 + 1) (w8.heap.size + 1 + 1 + 1) A B C D 1 0 0 1) ?_ ?_
  · have k1 := Below.alloc' (Below.alloc2 w8 (.cells #[.bool gi0, .slice xi0 ki0 yi0] 24) (.cells #[.bool gi1, .slice xi1 ki1 yi1] 24)) (.cells #[.bool gi2, .slice xi2 ki2 yi2] 24)
    have k2 := Below.alloc' k1 (.cells #[.bool gi3, .slice xi3 ki3 yi3] 24)
    have k3 := Below.up K04.out k2
    have f0 := ((((BV.new (((HR0.out.below HWi1.out).below HWi2.out).below HWi3.out) (by omega)).below (Below.alloc' (Below.refl _ _) (.cells #[.bool gi1, .slice xi1 ki1 yi1] 24))).below (Below.alloc' (Below.refl _ _) (.cells #[.bool gi2, .slice xi2 ki2 yi2] 24))).below (Below.alloc' (Below.refl _ _) (.cells #[.bool gi3, .slice xi3 ki3 yi3] 24)))
    have f1 := ((BV.new' (b := w8.heap.size + 1) (((HR1.out.below HWi2.out).below HWi3.out).alloc (.cells #[.bool gi0, .slice xi0 ki0 yi0] 24)) (by omega) (by simp)).below (Below.alloc' (Below.refl _ _) (.cells #[.bool gi2, .slice xi2 ki2 yi2] 24))).below (Below.alloc' (Below.refl _ _) (.cells #[.bool gi3, .slice xi3 ki3 yi3] 24))
    have f2 := (BV.new' (b := w8.heap.size + 1 + 1) (((HR2.out.below HWi3.out).alloc (.cells #[.bool gi0, .slice xi0 ki0 yi0] 24)).alloc (.cells #[.bool gi1, .slice xi1 ki1 yi1] 24)) (by omega) (by simp)).below (Below.alloc' (Below.refl _ _) (.cells #[.bool gi3, .slice xi3 ki3 yi3] 24))
    have f3 := BV.new' (b := w8.heap.size + 1 + 1 + 1) (((HR3.out.alloc (.cells #[.bool gi0, .slice xi0 ki0 yi0] 24)).alloc (.cells #[.bool gi1, .slice xi1 ki1 yi1] 24)).alloc (.cells #[.bool gi2, .slice xi2 ki2 yi2] 24)) (by omega) (by simp)
    exact ⟨by omega, by omega, by omega, by omega, by omega, by omega, by omega, by omega, by omega, V2.out.below k3, V5.out.below k3, V6.out.below k3, V7.out.below k3, V8.out.below k3, f0, f1, f2, f3, Below.up HW.out k3⟩
  rintro w9 hI
  have I0 := Lib.hid hI
  clear hI HW V2 V5 V6 V7 V8 HR0 HR1 HR2 HR3 HWi0 HWi1 HWi2 HWi3 K04
  generalize w8.heap.size + 1 + 1 + 1 = b12 at *
  generalize w8.heap.size + 1 + 1 = b11 at *
  generalize w8.heap.size + 1 = b10 at *
  generalize w8.heap.size = b9 at *
  generalize b7 + 1 = b8 at *
  generalize b5 + 1 = b6 at *
  generalize w.heap.size + 1 + 1 = b4 at *
  have u0 := P_mono (show ka ≤ 6 by omega)
  have u1 := P_mono (show kb ≤ 6 by omega)
  have u2 := P_mono (show ka' ≤ 6 by omega)
  have u3 := P_mono (show kb' ≤ 6 by omega)
  have C0 := Lib.hid (Cf.start (M := P 6) hA1 hB1 hC1 hD1 hle (by omega) (by omega) (by omega) (by omega))
  clear u0 u1 u2 u3 b0 b1' b2' b3' z1 z2 z3 t0 t1 t2 t3 hka hkb hka' hkb' hki0 hki1 hki2 hki3 hA0 hB0 hC0 hD0 hA1 hB1 hC1 hD1 hle
  go_loopg [] (B + D).toNat (fun k wr => ∃ a b c d nu ln de ld : Int, k = (b + d).toNat ∧ Hid (SmI w wr b4 b5 b6 b7 b8 b9 b10 b11 b12 a b c d nu ln de ld) ∧ Hid (Cf (P 6) A B C D a b c d nu ln de ld))
  case atStart => exact ⟨A, B, C, D, 1, 0, 0, 1, rfl, I0, C0⟩
  case round =>
    obtain ⟨a, b, c, d, nu, ln, de, ld, hgk, I, C'⟩ := hrel
    clear I0 C0
    obtain ⟨ga, xa, na, ca, lha, Va⟩ := I.out.v5.open
    have Va := Lib.hid Va
    obtain ⟨gb, xb, nb, cb, lhb, Vb⟩ := I.out.v6.open
    have Vb := Lib.hid Vb
    obtain ⟨oa0, oa1, oa2, _⟩ := Va.out
    obtain ⟨ob0, ob1, ob2, _⟩ := Vb.out
    have hbp := C'.out.pb
    have hwl := P67
    go_wp2_with fail
    refine (div_gn _ _ na nb a b _ Va.out.2.2.2 Vb.out.2.2.2 (by omega) (by omega) (by omega)).mono ?_
    rintro e w1 ⟨gQ, xQ, cQ, gS, xS, cS, nQ, nS, Q, R, rfl, hQ, hR, hDV, hl1, hl2, hB⟩
    have hDa : a = Q * b + R := hDV.1.symm
    have hR0 := (hDV.2.1 hbp).1
    have hRb := (hDV.2.1 hbp).2
    have hQ0 := C'.out.w0 hDa hR0 hRb
    have hbM := C'.out.bb
    have hnq : nQ ≤ 7 := hl1 7 (by omega)
    have hnr : nS ≤ 7 := hl2 7 (by omega)
    have I1 := Lib.hid (I.out.below hB)
    have NQ := Lib.hid hQ
    have NR := Lib.hid hR
    clear hQ hR hB hl1 hl2 hDV I Va Vb oa0 oa1 oa2 ob0 ob1 ob2 lha lhb
    go_wp2_with fail
    refine wp_at (fun W => SmI w W b4 b5 b6 b7 b8 b9 b10 b11 b12 a b c d nu ln de ld ∧ BV W w1.heap.size Q ∧ BV W (w1.heap.size + 1) R) ⟨I1.out.below (Below.alloc2 _ _ _), (BV.new NQ.out hnq).below (Below.alloc' (Below.refl _ _) _), BV.new' (NR.out.alloc _) hnr (by simp)⟩ ?_
    have h13 := I1.out.v12.box.lt
    clear I1 NQ NR hnq hnr
    rintro w2 ⟨k0, k1, k2⟩
    have I2 := Lib.hid k0
    have VQ := Lib.hid k1
    have VR := Lib.hid k2
    clear k0 k1 k2
    generalize hb14 : w1.heap.size + 1 = b14 at *
    generalize w1.heap.size = b13 at *
    skip
    go_cut [16] from 31 to 85 (fun s0 W => ∃ b16 : Nat, s0 = .pointer (some ⟨b16, 0, none⟩) ∧ b14 < b16 ∧ Hid (SmI w W b4 b5 b6 b7 b8 b9 b10 b11 b12 a b c d nu ln de ld ∧ BV W b13 Q ∧ BV W b14 R ∧ BV W b16 (Q + 1)))
    case first =>
      rename_i hJ hK
      obtain ⟨gq, xq, nq, cq, lhq, Vq⟩ := VQ.out.open
      have Vq := Lib.hid Vq
      obtain ⟨oq0, oq1, oq2, _⟩ := Vq.out
      have M5 := Lib.hid (show ∀ w', Below w2.heap.size w2 w' → w'.cell? ⟨b13, 0, none⟩ = some (.bool gq) ∧ w'.cell? ⟨b13, 1, none⟩ = some (.slice xq nq cq) from fun w' h => ⟨(Vq.out.below h).1, (Vq.out.below h).2.1⟩)
      have s0 : nq ≤ 1000 := by omega
      have s1 : (-9223372036854775808 : Int) ≤ 1 ∧ (1 : Int) ≤ 9223372036854775807 := by omega
      go_region_held3 (fun w' => w'.cell? ⟨b13, 0, none⟩ = some (.bool gq) ∧ w'.cell? ⟨b13, 1, none⟩ = some (.slice xq nq cq))
        (exact M5.out _ (by ((repeat (first | (with_reducible exact Below.refl _ _) | (with_reducible refine Below.up ?_ HBM1.out) | (with_reducible refine Below.up ?_ HBM0.out) | (with_reducible refine Below.alloc' ?_ _) | (with_reducible refine Below.drew' ?_) | (with_reducible refine Below.set' ?_ (by first | exact Nat.le_refl _ | exact (Below.size TM0.out) | exact (Below.size TM1.out)) _))); done)))
        (first
        | (go_at_call 20; ((with_reducible refine (of_gf 1 s1 _).mono ?_); rintro e wM0 ⟨gM0, xM0, yM0, kM0, rfl, hR, hkM0, hB⟩; have RM0 := Lib.hid hR; have HBM0 := Lib.hid hB; have TM0 := Lib.hid (Below.up (u := w2) (by ((repeat (first | (with_reducible exact Below.refl _ _) | (with_reducible refine Below.alloc' ?_ _) | (with_reducible refine Below.drew' ?_) | (with_reducible refine Below.set' ?_ (by first | exact Nat.le_refl _) _))); done)) hB); have sM : kM0 ≤ 1000 := (by omega); clear hR hB; (try (refine absorb (a := Box2 wM0 w2.heap.size) ?_ ?_; (focus ((repeat (first | (with_reducible exact Box2.new _ _ _ _ _) | (with_reducible refine Box2.below ?_ HBM0.out) | (with_reducible refine Box2.drew ?_) | (with_reducible refine Box2.alloc ?_ _))); done)); intro zb; obtain ⟨zu0a, zv0a, zc0a, zd0a, ze0a, zf0a⟩ := zb.open; have ZB0a := Lib.hid zb; clear zb))))
        | (go_at_call 49; ((with_reducible refine (add_gn (.agg #[.bool gq, .slice xq nq cq]) _ nq kM0 Q 1 _ (Vq.out.up (by ((repeat (first | (with_reducible exact Below.refl _ _) | (with_reducible refine Below.up ?_ HBM0.out) | (with_reducible refine Below.alloc' ?_ _) | (with_reducible refine Below.drew' ?_) | (with_reducible refine Below.set' ?_ (by first | exact Nat.le_refl _ | exact (Below.size TM0.out)) _))); done))) (AI.below (w := wM0) RM0.out (by ((repeat (first | (with_reducible exact Below.refl _ _) | (with_reducible refine Below.alloc' ?_ _))); done))) s0 sM).mono ?_); rintro e wM1 ⟨gM1, xM1, yM1, kM1, rfl, hR, hkM1, hlM1, hB⟩; have RM1 := Lib.hid hR; have LM1 := Lib.hid (hlM1 7); have HBM1 := Lib.hid hB; have TM1 := Lib.hid (Below.up (u := w2) (by ((repeat (first | (with_reducible exact Below.refl _ _) | (with_reducible refine Below.up ?_ HBM0.out) | (with_reducible refine Below.alloc' ?_ _) | (with_reducible refine Below.drew' ?_) | (with_reducible refine Below.set' ?_ (by first | exact Nat.le_refl _ | exact (Below.size TM0.out)) _))); done)) hB); clear hR hB hlM1; (try (refine absorb (a := Box2 wM1 w2.heap.size) ?_ ?_; (focus ((repeat (first | (with_reducible exact Box2.new _ _ _ _ _) | (with_reducible refine Box2.below ?_ HBM1.out) | (with_reducible refine Box2.below ?_ HBM0.out) | (with_reducible refine Box2.drew ?_) | (with_reducible refine Box2.alloc ?_ _))); done)); intro zb; obtain ⟨zu1a, zv1a, zc1a, zd1a, ze1a, zf1a⟩ := zb.open; have ZB1a := Lib.hid zb; clear zb)); (try (refine absorb (a := Box2 wM1 wM0.heap.size) ?_ ?_; (focus ((repeat (first | (with_reducible exact Box2.new _ _ _ _ _) | (with_reducible refine Box2.below ?_ HBM1.out) | (with_reducible refine Box2.below ?_ HBM0.out) | (with_reducible refine Box2.drew ?_) | (with_reducible refine Box2.alloc ?_ _))); done)); intro zb; obtain ⟨zu1b, zv1b, zc1b, zd1b, ze1b, zf1b⟩ := zb.open; have ZB1b := Lib.hid zb; clear zb)))))
      all_goals have sz := (VR.out).box.lt
      all_goals have KEEP := Lib.hid (fun (W : World) (hB : Below w2.heap.size w2 W) => (show SmI w W b4 b5 b6 b7 b8 b9 b10 b11 b12 a b c d nu ln de ld ∧ BV W b13 Q ∧ BV W b14 R from ⟨I2.out.below hB, VQ.out.below hB, VR.out.below hB⟩))
      all_goals have len : kM1 ≤ 7 := LM1.out (by omega)
      all_goals have s20 := TM0.out.size
      all_goals have s21 := TM1.out.size
      all_goals (refine hK _ _ (Met.intro (hJ _ _ ?_)); (repeat apply Exists.intro); refine ⟨?_, rfl⟩)
      · have k := KEEP.out (wM1.alloc (.cells #[.bool gM1, .slice xM1 kM1 yM1] 24)) (by ((repeat (first | (with_reducible exact Below.refl _ _) | (with_reducible refine Below.up ?_ HBM1.out) | (with_reducible refine Below.up ?_ HBM0.out) | (with_reducible refine Below.alloc' ?_ _) | (with_reducible refine Below.drew' ?_) | (with_reducible refine Below.set' ?_ (by first | exact Nat.le_refl _ | exact (Below.size TM0.out) | exact (Below.size TM1.out)) _))); done))
        exact ⟨_, rfl, by omega, Lib.hid ⟨k.1, k.2.1, k.2.2, BV.new RM1.out len⟩⟩
      · have k := KEEP.out ((wM1.setCell ⟨wM0.heap.size, 0, none⟩ (.bool gM1)).setCell ⟨wM0.heap.size, 1, none⟩ (.slice xM1 kM1 yM1)) (by ((repeat (first | (with_reducible exact Below.refl _ _) | (with_reducible refine Below.up ?_ HBM1.out) | (with_reducible refine Below.up ?_ HBM0.out) | (with_reducible refine Below.alloc' ?_ _) | (with_reducible refine Below.drew' ?_) | (with_reducible refine Below.set' ?_ (by first | exact Nat.le_refl _ | exact (Below.size TM0.out) | exact (Below.size TM1.out)) _))); done))
        exact ⟨_, rfl, by omega, Lib.hid ⟨k.1, k.2.1, k.2.2, BV.put ZB1b.out RM1.out len⟩⟩
      · have k := KEEP.out ((wM1.setCell ⟨w2.heap.size, 0, none⟩ (.bool gM1)).setCell ⟨w2.heap.size, 1, none⟩ (.slice xM1 kM1 yM1)) (by ((repeat (first | (with_reducible exact Below.refl _ _) | (with_reducible refine Below.up ?_ HBM1.out) | (with_reducible refine Below.up ?_ HBM0.out) | (with_reducible refine Below.alloc' ?_ _) | (with_reducible refine Below.drew' ?_) | (with_reducible refine Below.set' ?_ (by first | exact Nat.le_refl _ | exact (Below.size TM0.out) | exact (Below.size TM1.out)) _))); done))
        exact ⟨_, rfl, by omega, Lib.hid ⟨k.1, k.2.1, k.2.2, BV.put ZB1a.out RM1.out len⟩⟩
    case rest =>
      obtain ⟨b16, rfl, h16, hF⟩ := hcut
      generalize wc = w3 at *
      obtain ⟨k0, k1, k2, k3⟩ := hF.out
      have I3 := Lib.hid k0
      have VQ3 := Lib.hid k1
      have VR3 := Lib.hid k2
      have VV3 := Lib.hid k3
      clear hF k0 k1 k2 k3 I2 VQ VR
      obtain ⟨gr, xr, nr, cr, lhr, Vr⟩ := VR3.out.open
      have Vr := Lib.hid Vr
      obtain ⟨or0, or1, or2, _⟩ := Vr.out
      go_wp2_with fail
      refine (sign_is _ nr R (ord R 0) _ Vr.out.2.2.2 (by omega) rfl).mono ?_
      rintro e w4 ⟨rfl, hB⟩
      have I4 := Lib.hid (I3.out.below hB)
      have VQ4 := Lib.hid (VQ3.out.below hB)
      have VR4 := Lib.hid (VR3.out.below hB)
      have VV4 := Lib.hid (VV3.out.below hB)
      clear hB I3 VQ3 VR3 VV3 Vr or0 or1 or2
      by_cases hRz : R = 0
      · have dz : (ord R 0 == 0) = true := by rw [ord_eq hRz]; rfl
        have DN := Lib.hid (C'.out.done1 (show a = Q * b by omega))
        clear hRz hDa hR0 hRb
        go_wp2_with fail
        obtain ⟨gq, xq, nq, cq, lhq, Vq⟩ := VQ4.out.open
        have Vq := Lib.hid Vq
        obtain ⟨gn, xn, nn, cn, lhn, Vn⟩ := I4.out.v9.open
        have Vn := Lib.hid Vn
        obtain ⟨gl, xl, nl, cl, lhl, Vl⟩ := I4.out.v11.open
        have Vl := Lib.hid Vl
        obtain ⟨ge, xe, ne, ce, lhe, Ve⟩ := I4.out.v10.open
        have Ve := Lib.hid Ve
        obtain ⟨gx, xx, nx, cx, lhx, Vx⟩ := I4.out.v12.open
        have Vx := Lib.hid Vx
        have o0 := I4.out.o0
        have ord : b4 < b13 ∧ b4 < b9 ∧ b4 < b10 ∧ b4 < b11 ∧ b4 < b12 := by have := I4.out.o1; have := I4.out.o2; have := I4.out.o3; have := I4.out.o4; have := I4.out.o5; have := I4.out.o6; have := I4.out.o7; have := I4.out.o8; omega
        have XR := Lib.hid I4.out.r
        have XB := Lib.hid I4.out.B
        skip
        have B_ := Lib.hid (Below.refl w4.heap.size w4)
        have D_ := Lib.hid (Below.drew B_.out)
        have M_ := Lib.hid (show ∀ w', Below w4.heap.size w4 w' → w'.cell? ⟨b13, 0, none⟩ = some (.bool gq) ∧ w'.cell? ⟨b13, 1, none⟩ = some (.slice xq nq cq) ∧ w'.cell? ⟨b9, 0, none⟩ = some (.bool gn) ∧ w'.cell? ⟨b9, 1, none⟩ = some (.slice xn nn cn) ∧ w'.cell? ⟨b11, 0, none⟩ = some (.bool gl) ∧ w'.cell? ⟨b11, 1, none⟩ = some (.slice xl nl cl) ∧ w'.cell? ⟨b10, 0, none⟩ = some (.bool ge) ∧ w'.cell? ⟨b10, 1, none⟩ = some (.slice xe ne ce) ∧ w'.cell? ⟨b12, 0, none⟩ = some (.bool gx) ∧ w'.cell? ⟨b12, 1, none⟩ = some (.slice xx nx cx) from fun w' h => ⟨(Vq.out.below h).1, (Vq.out.below h).2.1, (Vn.out.below h).1, (Vn.out.below h).2.1, (Vl.out.below h).1, (Vl.out.below h).2.1, (Ve.out.below h).1, (Ve.out.below h).2.1, (Vx.out.below h).1, (Vx.out.below h).2.1⟩)
        have MS := Lib.hid (show ∀ (w' : World) (i : Nat) (u : Value), (w'.cell? ⟨b13, 0, none⟩ = some (.bool gq) ∧ w'.cell? ⟨b13, 1, none⟩ = some (.slice xq nq cq) ∧ w'.cell? ⟨b9, 0, none⟩ = some (.bool gn) ∧ w'.cell? ⟨b9, 1, none⟩ = some (.slice xn nn cn) ∧ w'.cell? ⟨b11, 0, none⟩ = some (.bool gl) ∧ w'.cell? ⟨b11, 1, none⟩ = some (.slice xl nl cl) ∧ w'.cell? ⟨b10, 0, none⟩ = some (.bool ge) ∧ w'.cell? ⟨b10, 1, none⟩ = some (.slice xe ne ce) ∧ w'.cell? ⟨b12, 0, none⟩ = some (.bool gx) ∧ w'.cell? ⟨b12, 1, none⟩ = some (.slice xx nx cx)) → (fun w' => w'.cell? ⟨b13, 0, none⟩ = some (.bool gq) ∧ w'.cell? ⟨b13, 1, none⟩ = some (.slice xq nq cq) ∧ w'.cell? ⟨b9, 0, none⟩ = some (.bool gn) ∧ w'.cell? ⟨b9, 1, none⟩ = some (.slice xn nn cn) ∧ w'.cell? ⟨b11, 0, none⟩ = some (.bool gl) ∧ w'.cell? ⟨b11, 1, none⟩ = some (.slice xl nl cl) ∧ w'.cell? ⟨b10, 0, none⟩ = some (.bool ge) ∧ w'.cell? ⟨b10, 1, none⟩ = some (.slice xe ne ce) ∧ w'.cell? ⟨b12, 0, none⟩ = some (.bool gx) ∧ w'.cell? ⟨b12, 1, none⟩ = some (.slice xx nx cx)) (w'.setCell ⟨b4, i, none⟩ u) from fun w' i u h => by
          have K : ∀ b o, b4 < b → (w'.setCell ⟨b4, i, none⟩ u).cell? ⟨b, o, none⟩ = w'.cell? ⟨b, o, none⟩ := fun b o hb => World.cell?_of_block (Below.heap_setCell _ _ _ _ (by show b ≠ b4; omega))
          obtain ⟨q0, q1, q2, q3, q4, q5, q6, q7, q8, q9⟩ := h
          exact ⟨(K _ _ (by omega)).trans q0, (K _ _ (by omega)).trans q1, (K _ _ (by omega)).trans q2, (K _ _ (by omega)).trans q3, (K _ _ (by omega)).trans q4, (K _ _ (by omega)).trans q5, (K _ _ (by omega)).trans q6, (K _ _ (by omega)).trans q7, (K _ _ (by omega)).trans q8, (K _ _ (by omega)).trans q9⟩)
        obtain ⟨oq0, oq1, oq2, _⟩ := Vq.out
        obtain ⟨on0, on1, on2, _⟩ := Vn.out
        obtain ⟨ol0, ol1, ol2, _⟩ := Vl.out
        obtain ⟨oe0, oe1, oe2, _⟩ := Ve.out
        obtain ⟨ox0, ox1, ox2, _⟩ := Vx.out
        have s0 : nq ≤ 39 := by omega
        have s1 : nn ≤ 300 := by omega
        have s2 : nl ≤ 300 := by omega
        have s3 : ne ≤ 300 := by omega
        have s4 : nx ≤ 300 := by omega
        go_region_held3 (fun w' => w'.cell? ⟨b13, 0, none⟩ = some (.bool gq) ∧ w'.cell? ⟨b13, 1, none⟩ = some (.slice xq nq cq) ∧ w'.cell? ⟨b9, 0, none⟩ = some (.bool gn) ∧ w'.cell? ⟨b9, 1, none⟩ = some (.slice xn nn cn) ∧ w'.cell? ⟨b11, 0, none⟩ = some (.bool gl) ∧ w'.cell? ⟨b11, 1, none⟩ = some (.slice xl nl cl) ∧ w'.cell? ⟨b10, 0, none⟩ = some (.bool ge) ∧ w'.cell? ⟨b10, 1, none⟩ = some (.slice xe ne ce) ∧ w'.cell? ⟨b12, 0, none⟩ = some (.bool gx) ∧ w'.cell? ⟨b12, 1, none⟩ = some (.slice xx nx cx))
          (((repeat (refine MS.out _ _ _ ?_)); (first | (with_reducible exact M_.out _ D_.out) | (with_reducible exact M_.out _ T0.out) | (with_reducible exact M_.out _ T1.out))))
          (first
          | (go_at_call 77; ((with_reducible refine (next_any gq gn gl xq xn xl nq nn nl cq cn cl (Q) nu ln _ (Vq.out.up D_.out) (Vn.out.up D_.out) (Vl.out.up D_.out) s0 s1 s2).mono ?_); rintro e wA ⟨gA, xA, yA, kA, rfl, hR, hkA, hlA, hB⟩; have RA := Lib.hid hR; have HBA := Lib.hid hB; have T0 := Lib.hid (Below.up D_.out hB); clear hB hR hlA))
          | (go_at_call 77; ((with_reducible refine (next_any gq ge gx xq xe xx nq ne nx cq ce cx (Q) de ld _ (Vq.out.up T0.out) (Ve.out.up T0.out) (Vx.out.up T0.out) s0 s3 s4).mono ?_); rintro e wB ⟨gB, xB, yB, kB, rfl, hR, hkB, hlB, hB⟩; have RB := Lib.hid hR; have HBB := Lib.hid hB; have T1 := Lib.hid (Below.up T0.out hB); clear hB hR hlB; have zb := XR.out.below T1.out; obtain ⟨zu0, zu1, zu2, zu3, zc0, zc1, zc2, zc3, zf0, zf1, zf2, zf3⟩ := zb.open; have ZB := Lib.hid zb; clear zb)))
        go_wp2_with fail
        have f1 := RV.put ZB.out (RA.out.below HBB.out) RB.out
        have f2 := Below.up XB.out T1.out
        exact bodyPost_ret (v := .agg #[.bool gA, .slice xA kA yA, .bool gB, .slice xB kB yB]) (by simp [results, Tryd.results52, go_sem, f1.1, f1.2.1, f1.2.2.1, f1.2.2.2.1, zc0, zc1, zc2, zc3]) rfl ⟨gA, xA, yA, gB, xB, yB, kA, kB, _, _, rfl, f1.2.2.2.2.2, DN.out, by omega, by omega, (((f2.setCell (p := ⟨b4, 0, none⟩) o0 _).setCell (p := ⟨b4, 1, none⟩) o0 _).setCell (p := ⟨b4, 2, none⟩) o0 _).setCell (p := ⟨b4, 3, none⟩) o0 _⟩
      · have dz : (ord R 0 == 0) = false := by
          rcases Int.lt_or_lt_of_ne hRz with g | g
          · rw [ord_lt g]; rfl
          · rw [ord_gt g]; rfl
        have hRp : 0 < R := by omega
        obtain ⟨gv, xv, nv, cv, lhv, Vv⟩ := VV4.out.open
        have Vv := Lib.hid Vv
        obtain ⟨gd, xd, nd, cd, lhd, Vd⟩ := I4.out.v8.open
        have Vd := Lib.hid Vd
        obtain ⟨gc, xc, nc, cc, lhc, Vc⟩ := I4.out.v7.open
        have Vc := Lib.hid Vc
        go_wp2_with fail
        go_cut [58] from 53 to 85 (fun s0 W => s0 = .bool (decide (ord ((Q + 1) * d) c ≤ 0)) ∧ Hid (Below w4.heap.size w4 W))
        case first =>
          rename_i hJ hK
          have B_ := Lib.hid (Below.refl w4.heap.size w4)
          have D_ := Lib.hid (Below.drew B_.out)
          have M_ := Lib.hid (show ∀ w', Below w4.heap.size w4 w' → w'.cell? ⟨b16, 0, none⟩ = some (.bool gv) ∧ w'.cell? ⟨b16, 1, none⟩ = some (.slice xv nv cv) ∧ w'.cell? ⟨b8, 0, none⟩ = some (.bool gd) ∧ w'.cell? ⟨b8, 1, none⟩ = some (.slice xd nd cd) ∧ w'.cell? ⟨b7, 0, none⟩ = some (.bool gc) ∧ w'.cell? ⟨b7, 1, none⟩ = some (.slice xc nc cc) from fun w' h => ⟨(Vv.out.below h).1, (Vv.out.below h).2.1, (Vd.out.below h).1, (Vd.out.below h).2.1, (Vc.out.below h).1, (Vc.out.below h).2.1⟩)
          obtain ⟨ov0, ov1, ov2, _⟩ := Vv.out
          obtain ⟨od0, od1, od2, _⟩ := Vd.out
          obtain ⟨oc0, oc1, oc2, _⟩ := Vc.out
          have s0 : nv ≤ 1000 := by omega
          have s1 : nd ≤ 1000 := by omega
          have s2 : nv < 40 ∨ nd < 40 := by omega
          have s3 : nc ≤ 1000000000 := by omega
          go_region_held3 (fun w' => w'.cell? ⟨b16, 0, none⟩ = some (.bool gv) ∧ w'.cell? ⟨b16, 1, none⟩ = some (.slice xv nv cv) ∧ w'.cell? ⟨b8, 0, none⟩ = some (.bool gd) ∧ w'.cell? ⟨b8, 1, none⟩ = some (.slice xd nd cd) ∧ w'.cell? ⟨b7, 0, none⟩ = some (.bool gc) ∧ w'.cell? ⟨b7, 1, none⟩ = some (.slice xc nc cc))
            (first | (with_reducible exact M_.out _ D_.out) | (with_reducible exact M_.out _ T0.out) | (with_reducible exact M_.out _ T1.out))
            (first
            | (go_at_call 10; ((with_reducible refine (mul_gf (.agg #[.bool gv, .slice xv nv cv]) (.agg #[.bool gd, .slice xd nd cd]) nv nd (Q + 1) d _ (Vv.out.up D_.out) (Vd.out.up D_.out) s0 s1 s2).mono ?_); rintro e wA ⟨gA, xA, yA, kA, rfl, hR, hkA, hB⟩; have RA := Lib.hid hR; have sA : kA ≤ 1000000000 := (by omega); have HBA := Lib.hid hB; have T0 := Lib.hid (Below.up D_.out hB); clear hB hR))
            | (go_at_call 29; ((with_reducible refine (cmp_is _ (.agg #[.bool gc, .slice xc nc cc]) kA nc ((Q + 1) * d) c (ord ((Q + 1) * d) c) _ RA.out (Vc.out.up T0.out) sA s3 rfl).mono ?_); rintro e wB ⟨rfl, hB⟩; have T1 := Lib.hid (Below.up T0.out hB); clear hB)))
          refine hK _ _ (Met.intro (hJ _ _ ?_))
          (repeat apply Exists.intro)
          exact ⟨⟨rfl, Lib.hid T1.out⟩, rfl⟩
        case rest =>
          obtain ⟨rfl, hF⟩ := hcut
          generalize wc = w5 at *
          have I5 := Lib.hid (I4.out.below hF.out)
          have VQ5 := Lib.hid (VQ4.out.below hF.out)
          have VR5 := Lib.hid (VR4.out.below hF.out)
          have VV5 := Lib.hid (VV4.out.below hF.out)
          clear hF I4 VQ4 VR4 VV4 Vv Vd Vc
          by_cases hle2 : (Q + 1) * d ≤ c
          · have dl : decide (ord ((Q + 1) * d) c ≤ 0) = true := decide_eq_true (by
              rcases Int.lt_or_eq_of_le hle2 with g | g
              · rw [ord_lt g]; decide
              · rw [ord_eq g]; decide)
            have DN := Lib.hid (C'.out.done2 hDa hRp hRb hle2)
            clear hle2 hDa hR0 hRb
            rw [dl]
            go_wp2_with fail
            obtain ⟨gq, xq, nq, cq, lhq, Vq⟩ := VV5.out.open
            have Vq := Lib.hid Vq
            obtain ⟨gn, xn, nn, cn, lhn, Vn⟩ := I5.out.v9.open
            have Vn := Lib.hid Vn
            obtain ⟨gl, xl, nl, cl, lhl, Vl⟩ := I5.out.v11.open
            have Vl := Lib.hid Vl
            obtain ⟨ge, xe, ne, ce, lhe, Ve⟩ := I5.out.v10.open
            have Ve := Lib.hid Ve
            obtain ⟨gx, xx, nx, cx, lhx, Vx⟩ := I5.out.v12.open
            have Vx := Lib.hid Vx
            have o0 := I5.out.o0
            have ord : b4 < b16 ∧ b4 < b9 ∧ b4 < b10 ∧ b4 < b11 ∧ b4 < b12 := by have := I5.out.o1; have := I5.out.o2; have := I5.out.o3; have := I5.out.o4; have := I5.out.o5; have := I5.out.o6; have := I5.out.o7; have := I5.out.o8; omega
            have XR := Lib.hid I5.out.r
            have XB := Lib.hid I5.out.B
            skip
            have B_ := Lib.hid (Below.refl w5.heap.size w5)
            have D_ := Lib.hid (Below.drew B_.out)
            have M_ := Lib.hid (show ∀ w', Below w5.heap.size w5 w' → w'.cell? ⟨b16, 0, none⟩ = some (.bool gq) ∧ w'.cell? ⟨b16, 1, none⟩ = some (.slice xq nq cq) ∧ w'.cell? ⟨b9, 0, none⟩ = some (.bool gn) ∧ w'.cell? ⟨b9, 1, none⟩ = some (.slice xn nn cn) ∧ w'.cell? ⟨b11, 0, none⟩ = some (.bool gl) ∧ w'.cell? ⟨b11, 1, none⟩ = some (.slice xl nl cl) ∧ w'.cell? ⟨b10, 0, none⟩ = some (.bool ge) ∧ w'.cell? ⟨b10, 1, none⟩ = some (.slice xe ne ce) ∧ w'.cell? ⟨b12, 0, none⟩ = some (.bool gx) ∧ w'.cell? ⟨b12, 1, none⟩ = some (.slice xx nx cx) from fun w' h => ⟨(Vq.out.below h).1, (Vq.out.below h).2.1, (Vn.out.below h).1, (Vn.out.below h).2.1, (Vl.out.below h).1, (Vl.out.below h).2.1, (Ve.out.below h).1, (Ve.out.below h).2.1, (Vx.out.below h).1, (Vx.out.below h).2.1⟩)
            have MS := Lib.hid (show ∀ (w' : World) (i : Nat) (u : Value), (w'.cell? ⟨b16, 0, none⟩ = some (.bool gq) ∧ w'.cell? ⟨b16, 1, none⟩ = some (.slice xq nq cq) ∧ w'.cell? ⟨b9, 0, none⟩ = some (.bool gn) ∧ w'.cell? ⟨b9, 1, none⟩ = some (.slice xn nn cn) ∧ w'.cell? ⟨b11, 0, none⟩ = some (.bool gl) ∧ w'.cell? ⟨b11, 1, none⟩ = some (.slice xl nl cl) ∧ w'.cell? ⟨b10, 0, none⟩ = some (.bool ge) ∧ w'.cell? ⟨b10, 1, none⟩ = some (.slice xe ne ce) ∧ w'.cell? ⟨b12, 0, none⟩ = some (.bool gx) ∧ w'.cell? ⟨b12, 1, none⟩ = some (.slice xx nx cx)) → (fun w' => w'.cell? ⟨b16, 0, none⟩ = some (.bool gq) ∧ w'.cell? ⟨b16, 1, none⟩ = some (.slice xq nq cq) ∧ w'.cell? ⟨b9, 0, none⟩ = some (.bool gn) ∧ w'.cell? ⟨b9, 1, none⟩ = some (.slice xn nn cn) ∧ w'.cell? ⟨b11, 0, none⟩ = some (.bool gl) ∧ w'.cell? ⟨b11, 1, none⟩ = some (.slice xl nl cl) ∧ w'.cell? ⟨b10, 0, none⟩ = some (.bool ge) ∧ w'.cell? ⟨b10, 1, none⟩ = some (.slice xe ne ce) ∧ w'.cell? ⟨b12, 0, none⟩ = some (.bool gx) ∧ w'.cell? ⟨b12, 1, none⟩ = some (.slice xx nx cx)) (w'.setCell ⟨b4, i, none⟩ u) from fun w' i u h => by
              have K : ∀ b o, b4 < b → (w'.setCell ⟨b4, i, none⟩ u).cell? ⟨b, o, none⟩ = w'.cell? ⟨b, o, none⟩ := fun b o hb => World.cell?_of_block (Below.heap_setCell _ _ _ _ (by show b ≠ b4; omega))
              obtain ⟨q0, q1, q2, q3, q4, q5, q6, q7, q8, q9⟩ := h
              exact ⟨(K _ _ (by omega)).trans q0, (K _ _ (by omega)).trans q1, (K _ _ (by omega)).trans q2, (K _ _ (by omega)).trans q3, (K _ _ (by omega)).trans q4, (K _ _ (by omega)).trans q5, (K _ _ (by omega)).trans q6, (K _ _ (by omega)).trans q7, (K _ _ (by omega)).trans q8, (K _ _ (by omega)).trans q9⟩)
            obtain ⟨oq0, oq1, oq2, _⟩ := Vq.out
            obtain ⟨on0, on1, on2, _⟩ := Vn.out
            obtain ⟨ol0, ol1, ol2, _⟩ := Vl.out
            obtain ⟨oe0, oe1, oe2, _⟩ := Ve.out
            obtain ⟨ox0, ox1, ox2, _⟩ := Vx.out
            have s0 : nq ≤ 39 := by omega
            have s1 : nn ≤ 300 := by omega
            have s2 : nl ≤ 300 := by omega
            have s3 : ne ≤ 300 := by omega
            have s4 : nx ≤ 300 := by omega
            go_region_held3 (fun w' => w'.cell? ⟨b16, 0, none⟩ = some (.bool gq) ∧ w'.cell? ⟨b16, 1, none⟩ = some (.slice xq nq cq) ∧ w'.cell? ⟨b9, 0, none⟩ = some (.bool gn) ∧ w'.cell? ⟨b9, 1, none⟩ = some (.slice xn nn cn) ∧ w'.cell? ⟨b11, 0, none⟩ = some (.bool gl) ∧ w'.cell? ⟨b11, 1, none⟩ = some (.slice xl nl cl) ∧ w'.cell? ⟨b10, 0, none⟩ = some (.bool ge) ∧ w'.cell? ⟨b10, 1, none⟩ = some (.slice xe ne ce) ∧ w'.cell? ⟨b12, 0, none⟩ = some (.bool gx) ∧ w'.cell? ⟨b12, 1, none⟩ = some (.slice xx nx cx))
              (((repeat (refine MS.out _ _ _ ?_)); (first | (with_reducible exact M_.out _ D_.out) | (with_reducible exact M_.out _ T0.out) | (with_reducible exact M_.out _ T1.out))))
              (first
              | (go_at_call 77; ((with_reducible refine (next_any gq gn gl xq xn xl nq nn nl cq cn cl ((Q + 1)) nu ln _ (Vq.out.up D_.out) (Vn.out.up D_.out) (Vl.out.up D_.out) s0 s1 s2).mono ?_); rintro e wA ⟨gA, xA, yA, kA, rfl, hR, hkA, hlA, hB⟩; have RA := Lib.hid hR; have HBA := Lib.hid hB; have T0 := Lib.hid (Below.up D_.out hB); clear hB hR hlA))
              | (go_at_call 77; ((with_reducible refine (next_any gq ge gx xq xe xx nq ne nx cq ce cx ((Q + 1)) de ld _ (Vq.out.up T0.out) (Ve.out.up T0.out) (Vx.out.up T0.out) s0 s3 s4).mono ?_); rintro e wB ⟨gB, xB, yB, kB, rfl, hR, hkB, hlB, hB⟩; have RB := Lib.hid hR; have HBB := Lib.hid hB; have T1 := Lib.hid (Below.up T0.out hB); clear hB hR hlB; have zb := XR.out.below T1.out; obtain ⟨zu0, zu1, zu2, zu3, zc0, zc1, zc2, zc3, zf0, zf1, zf2, zf3⟩ := zb.open; have ZB := Lib.hid zb; clear zb)))
            go_wp2_with fail
            have f1 := RV.put ZB.out (RA.out.below HBB.out) RB.out
            have f2 := Below.up XB.out T1.out
            exact bodyPost_ret (v := .agg #[.bool gA, .slice xA kA yA, .bool gB, .slice xB kB yB]) (by simp [results, Tryd.results52, go_sem, f1.1, f1.2.1, f1.2.2.1, f1.2.2.2.1, zc0, zc1, zc2, zc3]) rfl ⟨gA, xA, yA, gB, xB, yB, kA, kB, _, _, rfl, f1.2.2.2.2.2, DN.out, by omega, by omega, (((f2.setCell (p := ⟨b4, 0, none⟩) o0 _).setCell (p := ⟨b4, 1, none⟩) o0 _).setCell (p := ⟨b4, 2, none⟩) o0 _).setCell (p := ⟨b4, 3, none⟩) o0 _⟩
          · have dl : decide (ord ((Q + 1) * d) c ≤ 0) = false := decide_eq_false (by rw [ord_gt (by omega)]; decide)
            have CN := Lib.hid (C'.out.next hDa hRp hRb)
            have hms : ((c - Q * d) + R).toNat < gk := by
              have e1 : (Q + 1) * d = Q * d + d := by grind
              have := C'.out.pd
              have := CN.out.pb
              omega
            have hpt := CN.out.parts
            have hcm := CN.out.bb
            have hcp := CN.out.pb
            have hnp := CN.out.n0
            have hep := CN.out.e0
            clear hle2 hDa hR0 hRb dz VV5
            rw [dl]
            go_wp2_with fail
            go_cut [] from 53 to 85 (fun W => Hid (SmI w W b4 b5 b6 b7 b8 b9 b10 b11 b12 a b c d (Q * nu + ln) nu de ld ∧ BV W b13 Q ∧ BV W b14 R))
            case first =>
              rename_i hJ hK
              obtain ⟨gq, xq, nq, cq, lhq, Vq⟩ := VQ5.out.open
              have Vq := Lib.hid Vq
              obtain ⟨gn, xn, nn, cn, lhn, Vn⟩ := I5.out.v9.open
              have Vn := Lib.hid Vn
              obtain ⟨gl, xl, nl, cl, lhl, Vl⟩ := I5.out.v11.open
              have Vl := Lib.hid Vl
              have i0 := I5.out.o0
              have i1 := I5.out.o1
              have i2 := I5.out.o2
              have i3 := I5.out.o3
              have i4 := I5.out.o4
              have i5 := I5.out.o5
              have i6 := I5.out.o6
              have i7 := I5.out.o7
              have i8 := I5.out.o8
              have ne1 : b9 ≠ b11 := by omega
              have ne2 : b11 ≠ b9 := by omega
              have h13' : b12 < b13 := h13
              have B_ := Lib.hid (Below.refl w5.heap.size w5)
              have D_ := Lib.hid (Below.drew B_.out)
              have M_ := Lib.hid (show ∀ w', Below w5.heap.size w5 w' → w'.cell? ⟨b13, 0, none⟩ = some (.bool gq) ∧ w'.cell? ⟨b13, 1, none⟩ = some (.slice xq nq cq) ∧ w'.cell? ⟨b9, 0, none⟩ = some (.bool gn) ∧ w'.cell? ⟨b9, 1, none⟩ = some (.slice xn nn cn) ∧ w'.cell? ⟨b11, 0, none⟩ = some (.bool gl) ∧ w'.cell? ⟨b11, 1, none⟩ = some (.slice xl nl cl) from fun w' h => ⟨(Vq.out.below h).1, (Vq.out.below h).2.1, (Vn.out.below h).1, (Vn.out.below h).2.1, (Vl.out.below h).1, (Vl.out.below h).2.1⟩)
              have MT := Lib.hid (show ∀ w', Below w5.heap.size w5 w' → True from fun w' h => trivial)
              refine late_region (S := (fun w' => w'.cell? ⟨b13, 0, none⟩ = some (.bool gq) ∧ w'.cell? ⟨b13, 1, none⟩ = some (.slice xq nq cq) ∧ w'.cell? ⟨b9, 0, none⟩ = some (.bool gn) ∧ w'.cell? ⟨b9, 1, none⟩ = some (.slice xn nn cn) ∧ w'.cell? ⟨b11, 0, none⟩ = some (.bool gl) ∧ w'.cell? ⟨b11, 1, none⟩ = some (.slice xl nl cl))) (T := (fun w' => True)) [5, 6] (by kernel_rfl) ⟨M_.out _ D_.out, MT.out _ D_.out⟩ (fun hM => ?_)
              refine LateAny.take (i := 0) (v := (.agg #[.bool gq, .slice xq nq cq])) rfl (by kernel_rfl) (by kernel_rfl) (by kernel_rfl) (by kernel_rfl) (fun _ _ _ h => h) (Or.inl ⟨by rfl, ?_⟩) ⟨fun _ => hM.1, hM.2⟩ ?_
              · intro W hW
                obtain ⟨r0, r1, r2, r3, r4, r5⟩ := (hW.1 (by decide))
                go_simp
              try simp only [Act.put, List.setIfInBounds_toArray, List.set_cons_zero, List.set_cons_succ]
              refine LateAny.take (i := 1) (v := (.agg #[.bool gn, .slice xn nn cn])) rfl (by kernel_rfl) (by kernel_rfl) (by kernel_rfl) (by kernel_rfl) (fun _ _ _ h => h) (Or.inl ⟨by rfl, ?_⟩) ⟨fun _ => hM.1, hM.2⟩ ?_
              · intro W hW
                obtain ⟨r0, r1, r2, r3, r4, r5⟩ := (hW.1 (by decide))
                go_simp
              try simp only [Act.put, List.setIfInBounds_toArray, List.set_cons_zero, List.set_cons_succ]
              refine LateAny.take (i := 2) (v := (.agg #[.bool gl, .slice xl nl cl])) rfl (by kernel_rfl) (by kernel_rfl) (by kernel_rfl) (by kernel_rfl) (fun _ _ _ h => h) (Or.inl ⟨by rfl, ?_⟩) ⟨fun _ => hM.1, hM.2⟩ ?_
              · intro W hW
                obtain ⟨r0, r1, r2, r3, r4, r5⟩ := (hW.1 (by decide))
                go_simp
              try simp only [Act.put, List.setIfInBounds_toArray, List.set_cons_zero, List.set_cons_succ]
              refine LateAny.take (i := 4) (v := (.agg #[.bool gn, .slice xn nn cn])) rfl (by kernel_rfl) (by kernel_rfl) (by kernel_rfl) (by kernel_rfl) (fun _ _ _ h => h) (Or.inl ⟨by rfl, ?_⟩) ⟨fun _ => hM.1, hM.2⟩ ?_
              · intro W hW
                obtain ⟨r0, r1, r2, r3, r4, r5⟩ := (hW.1 (by decide))
                go_simp
              try simp only [Act.put, List.setIfInBounds_toArray, List.set_cons_zero, List.set_cons_succ]
              refine LateAny.one (i := 3) rfl (by kernel_rfl) (fun K hK => ?_)
              rw [if_pos (by rfl)]
              go_simp
              go_at_call 77
              refine (next_any gq gn gl xq xn xl nq nn nl cq cn cl Q nu ln _ (Vq.out.up D_.out) (Vn.out.up D_.out) (Vl.out.up D_.out) (by omega) (by omega) (by omega)).mono ?_
              rintro e wA ⟨gA, xA, yA, kA, rfl, hR, hkA, hlA, hB⟩
              have RA := Lib.hid hR
              have T0 := Lib.hid (Below.up D_.out hB)
              have lenA : kA ≤ 7 := hlA 7 (by omega)
              have X1 := Lib.hid (I5.out.v9.box.below T0.out)
              have X2 := Lib.hid (I5.out.v11.box.below T0.out)
              obtain ⟨zu1, zv1, za1, zb1, zc1, zd1⟩ := X1.out.open
              obtain ⟨zu2, zv2, za2, zb2, zc2, zd2⟩ := X2.out.open
              clear hB hR hlA
              dsimp only
              refine hK.out _ _ ⟨M_.out _ T0.out, MT.out _ T0.out⟩ (fun hM => ?_)
              clear hK K
              try simp only [Act.put, List.setIfInBounds_toArray, List.set_cons_zero, List.set_cons_succ]
              refine LateAny.late (i := 5) rfl (by kernel_rfl) (by decide) (fun K hK => ?_)
              rw [if_pos (by rfl)]
              go_simp
              refine hK.out _ _ (trivial) ?_
              clear hK K
              try simp only [Act.put, List.setIfInBounds_toArray, List.set_cons_zero, List.set_cons_succ]
              refine LateAny.late (i := 6) rfl (by kernel_rfl) (by decide) (fun K hK => ?_)
              rw [if_pos (by rfl)]
              go_simp
              refine hK.out _ _ (trivial) ?_
              clear hK K
              try simp only [Act.put, List.setIfInBounds_toArray, List.set_cons_zero, List.set_cons_succ]
              refine LateAny.done (by kernel_rfl) ?_ _
              refine hK _ _ (Met.intro (hJ _ _ ?_))
              (repeat apply Exists.intro)
              have IA := (I5.out.below T0.out).put9 RA.out lenA
              have IB := IA.put11 ((Vn.out.up T0.out).pair X1.out) lhn
              have XX := IA.v11.box
              exact ⟨Lib.hid ⟨IB, ((VQ5.out.below T0.out).pair X1.out (by omega)).pair XX (by omega), ((VR5.out.below T0.out).pair X1.out (by omega)).pair XX (by omega)⟩, rfl⟩
            case rest =>
              have hF := hcut
              generalize wc = w6 at *
              have I6 := Lib.hid hF.out.1
              have VQ6 := Lib.hid hF.out.2.1
              have VR6 := Lib.hid hF.out.2.2
              clear hF hcut I5 VQ5 VR5
              go_wp2_with fail
              go_cut [] from 53 to 85 (fun W => Hid (SmI w W b4 b5 b6 b7 b8 b9 b10 b11 b12 a b c d (Q * nu + ln) nu (Q * de + ld) de ∧ BV W b13 Q ∧ BV W b14 R))
              case first =>
                rename_i hJ hK
                obtain ⟨gq, xq, nq, cq, lhq, Vq⟩ := VQ6.out.open
                have Vq := Lib.hid Vq
                obtain ⟨ge, xe, ne, ce, lhe, Ve⟩ := I6.out.v10.open
                have Ve := Lib.hid Ve
                obtain ⟨gx, xx, nx, cx, lhx, Vx⟩ := I6.out.v12.open
                have Vx := Lib.hid Vx
                have i0 := I6.out.o0
                have i1 := I6.out.o1
                have i2 := I6.out.o2
                have i3 := I6.out.o3
                have i4 := I6.out.o4
                have i5 := I6.out.o5
                have i6 := I6.out.o6
                have i7 := I6.out.o7
                have i8 := I6.out.o8
                have ne1 : b10 ≠ b12 := by omega
                have ne2 : b12 ≠ b10 := by omega
                have h13' : b12 < b13 := h13
                have B_ := Lib.hid (Below.refl w6.heap.size w6)
                have D_ := Lib.hid (Below.drew B_.out)
                have M_ := Lib.hid (show ∀ w', Below w6.heap.size w6 w' → w'.cell? ⟨b13, 0, none⟩ = some (.bool gq) ∧ w'.cell? ⟨b13, 1, none⟩ = some (.slice xq nq cq) ∧ w'.cell? ⟨b10, 0, none⟩ = some (.bool ge) ∧ w'.cell? ⟨b10, 1, none⟩ = some (.slice xe ne ce) ∧ w'.cell? ⟨b12, 0, none⟩ = some (.bool gx) ∧ w'.cell? ⟨b12, 1, none⟩ = some (.slice xx nx cx) from fun w' h => ⟨(Vq.out.below h).1, (Vq.out.below h).2.1, (Ve.out.below h).1, (Ve.out.below h).2.1, (Vx.out.below h).1, (Vx.out.below h).2.1⟩)
                have MT := Lib.hid (show ∀ w', Below w6.heap.size w6 w' → True from fun w' h => trivial)
                refine late_region (S := (fun w' => w'.cell? ⟨b13, 0, none⟩ = some (.bool gq) ∧ w'.cell? ⟨b13, 1, none⟩ = some (.slice xq nq cq) ∧ w'.cell? ⟨b10, 0, none⟩ = some (.bool ge) ∧ w'.cell? ⟨b10, 1, none⟩ = some (.slice xe ne ce) ∧ w'.cell? ⟨b12, 0, none⟩ = some (.bool gx) ∧ w'.cell? ⟨b12, 1, none⟩ = some (.slice xx nx cx))) (T := (fun w' => True)) [5, 6] (by kernel_rfl) ⟨M_.out _ D_.out, MT.out _ D_.out⟩ (fun hM => ?_)
                refine LateAny.take (i := 0) (v := (.agg #[.bool gq, .slice xq nq cq])) rfl (by kernel_rfl) (by kernel_rfl) (by kernel_rfl) (by kernel_rfl) (fun _ _ _ h => h) (Or.inl ⟨by rfl, ?_⟩) ⟨fun _ => hM.1, hM.2⟩ ?_
                · intro W hW
                  obtain ⟨r0, r1, r2, r3, r4, r5⟩ := (hW.1 (by decide))
                  go_simp
                try simp only [Act.put, List.setIfInBounds_toArray, List.set_cons_zero, List.set_cons_succ]
                refine LateAny.take (i := 1) (v := (.agg #[.bool ge, .slice xe ne ce])) rfl (by kernel_rfl) (by kernel_rfl) (by kernel_rfl) (by kernel_rfl) (fun _ _ _ h => h) (Or.inl ⟨by rfl, ?_⟩) ⟨fun _ => hM.1, hM.2⟩ ?_
                · intro W hW
                  obtain ⟨r0, r1, r2, r3, r4, r5⟩ := (hW.1 (by decide))
                  go_simp
                try simp only [Act.put, List.setIfInBounds_toArray, List.set_cons_zero, List.set_cons_succ]
                refine LateAny.take (i := 2) (v := (.agg #[.bool gx, .slice xx nx cx])) rfl (by kernel_rfl) (by kernel_rfl) (by kernel_rfl) (by kernel_rfl) (fun _ _ _ h => h) (Or.inl ⟨by rfl, ?_⟩) ⟨fun _ => hM.1, hM.2⟩ ?_
                · intro W hW
                  obtain ⟨r0, r1, r2, r3, r4, r5⟩ := (hW.1 (by decide))
                  go_simp
                try simp only [Act.put, List.setIfInBounds_toArray, List.set_cons_zero, List.set_cons_succ]
                refine LateAny.take (i := 4) (v := (.agg #[.bool ge, .slice xe ne ce])) rfl (by kernel_rfl) (by kernel_rfl) (by kernel_rfl) (by kernel_rfl) (fun _ _ _ h => h) (Or.inl ⟨by rfl, ?_⟩) ⟨fun _ => hM.1, hM.2⟩ ?_
                · intro W hW
                  obtain ⟨r0, r1, r2, r3, r4, r5⟩ := (hW.1 (by decide))
                  go_simp
                try simp only [Act.put, List.setIfInBounds_toArray, List.set_cons_zero, List.set_cons_succ]
                refine LateAny.one (i := 3) rfl (by kernel_rfl) (fun K hK => ?_)
                rw [if_pos (by rfl)]
                go_simp
                go_at_call 77
                refine (next_any gq ge gx xq xe xx nq ne nx cq ce cx Q de ld _ (Vq.out.up D_.out) (Ve.out.up D_.out) (Vx.out.up D_.out) (by omega) (by omega) (by omega)).mono ?_
                rintro e wA ⟨gA, xA, yA, kA, rfl, hR, hkA, hlA, hB⟩
                have RA := Lib.hid hR
                have T0 := Lib.hid (Below.up D_.out hB)
                have lenA : kA ≤ 7 := hlA 7 (by omega)
                have X1 := Lib.hid (I6.out.v10.box.below T0.out)
                have X2 := Lib.hid (I6.out.v12.box.below T0.out)
                obtain ⟨zu1, zv1, za1, zb1, zc1, zd1⟩ := X1.out.open
                obtain ⟨zu2, zv2, za2, zb2, zc2, zd2⟩ := X2.out.open
                clear hB hR hlA
                dsimp only
                refine hK.out _ _ ⟨M_.out _ T0.out, MT.out _ T0.out⟩ (fun hM => ?_)
                clear hK K
                try simp only [Act.put, List.setIfInBounds_toArray, List.set_cons_zero, List.set_cons_succ]
                refine LateAny.late (i := 5) rfl (by kernel_rfl) (by decide) (fun K hK => ?_)
                rw [if_pos (by rfl)]
                go_simp
                refine hK.out _ _ (trivial) ?_
                clear hK K
                try simp only [Act.put, List.setIfInBounds_toArray, List.set_cons_zero, List.set_cons_succ]
                refine LateAny.late (i := 6) rfl (by kernel_rfl) (by decide) (fun K hK => ?_)
                rw [if_pos (by rfl)]
                go_simp
                refine hK.out _ _ (trivial) ?_
                clear hK K
                try simp only [Act.put, List.setIfInBounds_toArray, List.set_cons_zero, List.set_cons_succ]
                refine LateAny.done (by kernel_rfl) ?_ _
                refine hK _ _ (Met.intro (hJ _ _ ?_))
                (repeat apply Exists.intro)
                have IA := (I6.out.below T0.out).put10 RA.out lenA
                have IB := IA.put12 ((Ve.out.up T0.out).pair X1.out) lhe
                have XX := IA.v12.box
                exact ⟨Lib.hid ⟨IB, ((VQ6.out.below T0.out).pair X1.out (by omega)).pair XX (by omega), ((VR6.out.below T0.out).pair X1.out (by omega)).pair XX (by omega)⟩, rfl⟩
              case rest =>
                have hF := hcut
                generalize wc = w7 at *
                have I7 := Lib.hid hF.out.1
                have VQ7 := Lib.hid hF.out.2.1
                have VR7 := Lib.hid hF.out.2.2
                clear hF hcut I6 VQ6 VR6
                go_wp2_with fail
                obtain ⟨gq, xq, nq, cq, lhq, Vq⟩ := VQ7.out.open
                have Vq := Lib.hid Vq
                obtain ⟨gr, xr, nr, cr, lhr, Vr⟩ := VR7.out.open
                have Vr := Lib.hid Vr
                obtain ⟨gd, xd, nd, cd, lhd, Vd⟩ := I7.out.v8.open
                have Vd := Lib.hid Vd
                obtain ⟨gc, xc, nc, cc, lhc, Vc⟩ := I7.out.v7.open
                have Vc := Lib.hid Vc
                obtain ⟨gb, xb, nb, cb, lhb, Vb⟩ := I7.out.v6.open
                have Vb := Lib.hid Vb
                have i0 := I7.out.o0
                have i1 := I7.out.o1
                have i2 := I7.out.o2
                have i3 := I7.out.o3
                have i4 := I7.out.o4
                have i5 := I7.out.o5
                have i6 := I7.out.o6
                have i7 := I7.out.o7
                have i8 := I7.out.o8
                have h13' : b12 < b13 := h13
                have ne56 : b5 ≠ b6 := by omega
                have ne65 : b6 ≠ b5 := by omega
                have ne57 : b5 ≠ b7 := by omega
                have ne75 : b7 ≠ b5 := by omega
                have ne58 : b5 ≠ b8 := by omega
                have ne85 : b8 ≠ b5 := by omega
                have ne67 : b6 ≠ b7 := by omega
                have ne76 : b7 ≠ b6 := by omega
                have ne68 : b6 ≠ b8 := by omega
                have ne86 : b8 ≠ b6 := by omega
                have ne78 : b7 ≠ b8 := by omega
                have ne87 : b8 ≠ b7 := by omega
                have B_ := Lib.hid (Below.refl w7.heap.size w7)
                have D_ := Lib.hid (Below.drew B_.out)
                have M_ := Lib.hid (show ∀ w', Below w7.heap.size w7 w' → w'.cell? ⟨b8, 0, none⟩ = some (.bool gd) ∧ w'.cell? ⟨b8, 1, none⟩ = some (.slice xd nd cd) ∧ w'.cell? ⟨b7, 0, none⟩ = some (.bool gc) ∧ w'.cell? ⟨b7, 1, none⟩ = some (.slice xc nc cc) ∧ w'.cell? ⟨b13, 0, none⟩ = some (.bool gq) ∧ w'.cell? ⟨b13, 1, none⟩ = some (.slice xq nq cq) ∧ w'.cell? ⟨b6, 0, none⟩ = some (.bool gb) ∧ w'.cell? ⟨b6, 1, none⟩ = some (.slice xb nb cb) from fun w' h => ⟨(Vd.out.below h).1, (Vd.out.below h).2.1, (Vc.out.below h).1, (Vc.out.below h).2.1, (Vq.out.below h).1, (Vq.out.below h).2.1, (Vb.out.below h).1, (Vb.out.below h).2.1⟩)
                have MT := Lib.hid (show ∀ w', Below w7.heap.size w7 w' → w'.cell? ⟨b14, 0, none⟩ = some (.bool gr) ∧ w'.cell? ⟨b14, 1, none⟩ = some (.slice xr nr cr) from fun w' h => ⟨(Vr.out.below h).1, (Vr.out.below h).2.1⟩)
                refine late_region (S := (fun w' => w'.cell? ⟨b8, 0, none⟩ = some (.bool gd) ∧ w'.cell? ⟨b8, 1, none⟩ = some (.slice xd nd cd) ∧ w'.cell? ⟨b7, 0, none⟩ = some (.bool gc) ∧ w'.cell? ⟨b7, 1, none⟩ = some (.slice xc nc cc) ∧ w'.cell? ⟨b13, 0, none⟩ = some (.bool gq) ∧ w'.cell? ⟨b13, 1, none⟩ = some (.slice xq nq cq) ∧ w'.cell? ⟨b6, 0, none⟩ = some (.bool gb) ∧ w'.cell? ⟨b6, 1, none⟩ = some (.slice xb nb cb))) (T := (fun w' => w'.cell? ⟨b14, 0, none⟩ = some (.bool gr) ∧ w'.cell? ⟨b14, 1, none⟩ = some (.slice xr nr cr))) [7, 9, 10, 11] (by kernel_rfl) ⟨M_.out _ D_.out, MT.out _ D_.out⟩ (fun hM => ?_)
                have MTS := Lib.hid (show ∀ (w' : World) (b i : Nat) (u : Value), b < b14 → (w'.cell? ⟨b14, 0, none⟩ = some (.bool gr) ∧ w'.cell? ⟨b14, 1, none⟩ = some (.slice xr nr cr)) → (fun w' => w'.cell? ⟨b14, 0, none⟩ = some (.bool gr) ∧ w'.cell? ⟨b14, 1, none⟩ = some (.slice xr nr cr)) (w'.setCell ⟨b, i, none⟩ u) from fun w' b i u hb h => by
                  have K : ∀ o, (w'.setCell ⟨b, i, none⟩ u).cell? ⟨b14, o, none⟩ = w'.cell? ⟨b14, o, none⟩ := fun o => World.cell?_of_block (Below.heap_setCell _ _ _ _ (by show b14 ≠ b; omega))
                  exact ⟨(K _).trans h.1, (K _).trans h.2⟩)
                have MSS := Lib.hid (show ∀ (w' : World) (i : Nat) (u : Value), (w'.cell? ⟨b8, 0, none⟩ = some (.bool gd) ∧ w'.cell? ⟨b8, 1, none⟩ = some (.slice xd nd cd) ∧ w'.cell? ⟨b7, 0, none⟩ = some (.bool gc) ∧ w'.cell? ⟨b7, 1, none⟩ = some (.slice xc nc cc) ∧ w'.cell? ⟨b13, 0, none⟩ = some (.bool gq) ∧ w'.cell? ⟨b13, 1, none⟩ = some (.slice xq nq cq) ∧ w'.cell? ⟨b6, 0, none⟩ = some (.bool gb) ∧ w'.cell? ⟨b6, 1, none⟩ = some (.slice xb nb cb)) → (fun w' => w'.cell? ⟨b8, 0, none⟩ = some (.bool gd) ∧ w'.cell? ⟨b8, 1, none⟩ = some (.slice xd nd cd) ∧ w'.cell? ⟨b7, 0, none⟩ = some (.bool gc) ∧ w'.cell? ⟨b7, 1, none⟩ = some (.slice xc nc cc) ∧ w'.cell? ⟨b13, 0, none⟩ = some (.bool gq) ∧ w'.cell? ⟨b13, 1, none⟩ = some (.slice xq nq cq) ∧ w'.cell? ⟨b6, 0, none⟩ = some (.bool gb) ∧ w'.cell? ⟨b6, 1, none⟩ = some (.slice xb nb cb)) (w'.setCell ⟨b5, i, none⟩ u) from fun w' i u h => by
                  have K : ∀ b o, b5 < b → (w'.setCell ⟨b5, i, none⟩ u).cell? ⟨b, o, none⟩ = w'.cell? ⟨b, o, none⟩ := fun b o hb => World.cell?_of_block (Below.heap_setCell _ _ _ _ (by show b ≠ b5; omega))
                  obtain ⟨q0, q1, q2, q3, q4, q5, q6, q7⟩ := h
                  exact ⟨(K _ _ (by omega)).trans q0, (K _ _ (by omega)).trans q1, (K _ _ (by omega)).trans q2, (K _ _ (by omega)).trans q3, (K _ _ (by omega)).trans q4, (K _ _ (by omega)).trans q5, (K _ _ (by omega)).trans q6, (K _ _ (by omega)).trans q7⟩)
                refine LateAny.take (i := 7) (v := (.agg #[.bool gr, .slice xr nr cr])) rfl (by kernel_rfl) (by kernel_rfl) (by kernel_rfl) (by kernel_rfl) (fun _ _ _ h => h) (Or.inl ⟨by rfl, ?_⟩) ⟨fun _ => hM.1, hM.2⟩ ?_
                · intro W hW
                  obtain ⟨r0, r1⟩ := hW.2
                  go_simp
                try simp only [Act.put, List.setIfInBounds_toArray, List.set_cons_zero, List.set_cons_succ]
                refine LateAny.take (i := 0) (v := (.agg #[.bool gd, .slice xd nd cd])) rfl (by kernel_rfl) (by kernel_rfl) (by kernel_rfl) (by kernel_rfl) (fun _ _ _ h => h) (Or.inl ⟨by rfl, ?_⟩) ⟨fun _ => hM.1, hM.2⟩ ?_
                · intro W hW
                  obtain ⟨r0, r1, r2, r3, r4, r5, r6, r7⟩ := (hW.1 (by decide))
                  go_simp
                try simp only [Act.put, List.setIfInBounds_toArray, List.set_cons_zero, List.set_cons_succ]
                refine LateAny.take (i := 1) (v := (.agg #[.bool gc, .slice xc nc cc])) rfl (by kernel_rfl) (by kernel_rfl) (by kernel_rfl) (by kernel_rfl) (fun _ _ _ h => h) (Or.inl ⟨by rfl, ?_⟩) ⟨fun _ => hM.1, hM.2⟩ ?_
                · intro W hW
                  obtain ⟨r0, r1, r2, r3, r4, r5, r6, r7⟩ := (hW.1 (by decide))
                  go_simp
                try simp only [Act.put, List.setIfInBounds_toArray, List.set_cons_zero, List.set_cons_succ]
                refine LateAny.take (i := 2) (v := (.agg #[.bool gq, .slice xq nq cq])) rfl (by kernel_rfl) (by kernel_rfl) (by kernel_rfl) (by kernel_rfl) (fun _ _ _ h => h) (Or.inl ⟨by rfl, ?_⟩) ⟨fun _ => hM.1, hM.2⟩ ?_
                · intro W hW
                  obtain ⟨r0, r1, r2, r3, r4, r5, r6, r7⟩ := (hW.1 (by decide))
                  go_simp
                try simp only [Act.put, List.setIfInBounds_toArray, List.set_cons_zero, List.set_cons_succ]
                refine LateAny.take (i := 3) (v := (.agg #[.bool gd, .slice xd nd cd])) rfl (by kernel_rfl) (by kernel_rfl) (by kernel_rfl) (by kernel_rfl) (fun _ _ _ h => h) (Or.inl ⟨by rfl, ?_⟩) ⟨fun _ => hM.1, hM.2⟩ ?_
                · intro W hW
                  obtain ⟨r0, r1, r2, r3, r4, r5, r6, r7⟩ := (hW.1 (by decide))
                  go_simp
                try simp only [Act.put, List.setIfInBounds_toArray, List.set_cons_zero, List.set_cons_succ]
                refine LateAny.take (i := 6) (v := (.agg #[.bool gb, .slice xb nb cb])) rfl (by kernel_rfl) (by kernel_rfl) (by kernel_rfl) (by kernel_rfl) (fun _ _ _ h => h) (Or.inl ⟨by rfl, ?_⟩) ⟨fun _ => hM.1, hM.2⟩ ?_
                · intro W hW
                  obtain ⟨r0, r1, r2, r3, r4, r5, r6, r7⟩ := (hW.1 (by decide))
                  go_simp
                try simp only [Act.put, List.setIfInBounds_toArray, List.set_cons_zero, List.set_cons_succ]
                refine LateAny.one (i := 4) rfl (by kernel_rfl) (fun K hK => ?_)
                rw [if_pos (by rfl)]
                go_simp
                go_at_call 10
                refine (mul_gf (.agg #[.bool gq, .slice xq nq cq]) (.agg #[.bool gd, .slice xd nd cd]) nq nd Q d _ (Vq.out.up D_.out) (Vd.out.up D_.out) (by omega) (by omega) (by omega)).mono ?_
                rintro e wA ⟨gA, xA, yA, kA, rfl, hR, hkA, hB⟩
                have RA := Lib.hid hR
                have T0 := Lib.hid (Below.up D_.out hB)
                have sA : kA ≤ 1000 := by omega
                clear hB hR
                dsimp only
                refine hK.out _ _ ⟨M_.out _ T0.out, MT.out _ T0.out⟩ (fun hM => ?_)
                clear hK K
                try simp only [Act.put, List.setIfInBounds_toArray, List.set_cons_zero, List.set_cons_succ]
                refine LateAny.one (i := 5) rfl (by kernel_rfl) (fun K hK => ?_)
                rw [if_pos (by rfl)]
                go_simp
                go_at_call 48
                refine (sub_gn (.agg #[.bool gc, .slice xc nc cc]) _ nc kA c (Q * d) _ (Vc.out.up T0.out) RA.out (by omega) sA).mono ?_
                rintro e wB ⟨gB, xB, yB, kB, rfl, hR, hkB, hlB, hB⟩
                have RB := Lib.hid hR
                have T1 := Lib.hid (Below.up T0.out hB)
                have lenB : kB ≤ 7 := hlB 7 (by omega)
                have X5 := Lib.hid (I7.out.v5.box.below T1.out)
                obtain ⟨zu5, zv5, za5, zb5, zc5, zd5⟩ := X5.out.open
                have X6 := Lib.hid (I7.out.v6.box.below T1.out)
                obtain ⟨zu6, zv6, za6, zb6, zc6, zd6⟩ := X6.out.open
                have X7 := Lib.hid (I7.out.v7.box.below T1.out)
                obtain ⟨zu7, zv7, za7, zb7, zc7, zd7⟩ := X7.out.open
                have X8 := Lib.hid (I7.out.v8.box.below T1.out)
                obtain ⟨zu8, zv8, za8, zb8, zc8, zd8⟩ := X8.out.open
                clear hB hR hlB
                dsimp only
                refine hK.out _ _ ⟨M_.out _ T1.out, MT.out _ T1.out⟩ (fun hM => ?_)
                clear hK K
                try simp only [Act.put, List.setIfInBounds_toArray, List.set_cons_zero, List.set_cons_succ]
                have MD := Lib.hid hM.1
                have MR := Lib.hid hM.2
                refine LateAny.one (i := 8) rfl (by kernel_rfl) (fun K hK => ?_)
                rw [if_pos (by rfl)]
                go_simp
                refine hK.out _ _ ⟨MSS.out _ _ _ (MSS.out _ _ _ MD.out), (MTS.out _ _ _ _ (by omega) (MTS.out _ _ _ _ (by omega) MR.out))⟩ (fun hM => ?_)
                clear hK K hM MD
                try simp only [Act.put, List.setIfInBounds_toArray, List.set_cons_zero, List.set_cons_succ]
                refine LateAny.late (i := 9) rfl (by kernel_rfl) (by decide) (fun K hK => ?_)
                rw [if_pos (by rfl)]
                go_simp
                refine hK.out _ _ ((MTS.out _ _ _ _ (by omega) (MTS.out _ _ _ _ (by omega) (MTS.out _ _ _ _ (by omega) (MTS.out _ _ _ _ (by omega) MR.out))))) ?_
                clear hK K
                try simp only [Act.put, List.setIfInBounds_toArray, List.set_cons_zero, List.set_cons_succ]
                refine LateAny.late (i := 10) rfl (by kernel_rfl) (by decide) (fun K hK => ?_)
                rw [if_pos (by rfl)]
                go_simp
                refine hK.out _ _ ((MTS.out _ _ _ _ (by omega) (MTS.out _ _ _ _ (by omega) (MTS.out _ _ _ _ (by omega) (MTS.out _ _ _ _ (by omega) (MTS.out _ _ _ _ (by omega) (MTS.out _ _ _ _ (by omega) MR.out))))))) ?_
                clear hK K
                try simp only [Act.put, List.setIfInBounds_toArray, List.set_cons_zero, List.set_cons_succ]
                refine LateAny.late (i := 11) rfl (by kernel_rfl) (by decide) (fun K hK => ?_)
                rw [if_pos (by rfl)]
                go_simp
                refine hK.out _ _ ((MTS.out _ _ _ _ (by omega) (MTS.out _ _ _ _ (by omega) (MTS.out _ _ _ _ (by omega) (MTS.out _ _ _ _ (by omega) (MTS.out _ _ _ _ (by omega) (MTS.out _ _ _ _ (by omega) (MTS.out _ _ _ _ (by omega) (MTS.out _ _ _ _ (by omega) MR.out))))))))) ?_
                clear hK K
                try simp only [Act.put, List.setIfInBounds_toArray, List.set_cons_zero, List.set_cons_succ]
                have IA := (I7.out.below T1.out).put5 (Vd.out.up T1.out) lhd
                have IB := IA.put6 (AI.pair RB.out X5.out) lenB
                have IC := IB.put7 (((Vb.out.up T1.out).pair X5.out).pair IA.v6.box) lhb
                have IE := IC.put8 ((((Vr.out.up T1.out).pair X5.out).pair IA.v6.box).pair IB.v7.box) lhr
                have I8 := Lib.hid IE
                clear IA IB IC IE
                refine LateAny.done (by kernel_rfl) ?_ _
                try go_wp2_with fail
                go_roundg (c - Q * d + R).toNat
                case measure => (rw [hgk] at hms; exact hms)
                case rel => exact ⟨d, c - Q * d, b, R, Q * nu + ln, nu, Q * de + ld, de, rfl, I8, CN⟩
end Go.Proofs.YtpkjpepnjlcgoaaDoor
end

section
set_option linter.unusedVariables false
set_option linter.unusedSimpArgs false
set_option maxRecDepth 100000
namespace Go.Proofs.YtpkjpepnjlcgoaaDoor
open Go.RowKit

set_option maxHeartbeats 800000 in
theorem Normal_any (u : Value) (n : Nat) (p : Int) (w : World) (hu : AI w u n p) (hn : n ≤ 1000000000) :
    Calls Tryd.prog 50 #[u] w fun e w' => ∃ r k, e = .returned r ∧ RI w' w.heap.size r k p ∧ k ≤ n ∧ Below w.heap.size w w' := by
  obtain ⟨ng, a, cap, x, rfl, hc, hd, hs, hp⟩ := hu
  have HS := Lib.hid hs
  have HP := Lib.hid (sg_split ng x n)
  have N1 := Lib.hid (nr_split hc hd hs)
  have l1 := tl_le x n
  subst hp
  clear hs hd
  go_enter Tryd.func50, Tryd.ntmps50
  go_wp2_with fail
  refine (split_any ng a n cap x _ hn hc (HS.out.below (by repeat (first | exact Below.refl _ _ | exact Nat.le_refl _ | (apply Below.alloc) | (simp <;> omega))))).mono ?_
  rintro e w1 ⟨rfl, rfl⟩
  clear HS
  go_wp2_with fail
  refine (fresh_nr (N1.out.below (by repeat (first | exact Below.refl _ _ | exact Nat.le_refl _ | (apply Below.alloc) | (simp <;> omega)))) (by omega)).mono ?_
  rintro e w1 ⟨s, rfl, hN, hB1⟩
  go_wp2_with fail
  refine (signed_nr _ hN (by omega)).mono ?_
  rintro e w2 ⟨r, rfl, hR, hB2⟩
  have hB := Below.up hB1 hB2
  clear hB1 hB2 hN
  obtain ⟨ng3, a3, cap3, rfl⟩ := hR.form
  obtain ⟨hcc, hff⟩ := bcell hB
  have hz := hB.size
  simp at hz
  have hz1 : w.heap.size + 1 < w2.heap.size := by omega
  have hz2 : 0 < w2.heap.size := by omega
  have hBt := Lib.hid (Below.up (u := w) (by repeat (first | exact Below.refl _ _ | exact Nat.le_refl _ | (apply Below.alloc) | (simp <;> omega))) hB)
  have HR := Lib.hid hR
  clear hR hB hz
  go_wp2_with fail
  obtain ⟨f1, f2⟩ := fin_RI HR.out (t := w.heap.size + 1) (by simp) (by omega) hBt.out (.bool ng3) (.slice a3 (tl x n) cap3)
  exact bodyPost_ret (v := .agg #[.bool ng3, .slice a3 (tl x n) cap3]) (by simp [results, Tryd.results50, go_sem, hcc]) rfl ⟨_, _, rfl, f1.z HP.out, by omega, f2⟩


set_option maxHeartbeats 1600000 in
/-- 0 as a ratio. -/
theorem Whole_zero (w : World) : Calls Tryd.prog 24 #[.agg #[.bool false, .slice none 0 0]] w fun e w' => ∃ g a c g' a' c' k j, e = .returned (.agg #[.bool g, .slice a k c, .bool g', .slice a' j c']) ∧ AR w' (.agg #[.bool g, .slice a k c, .bool g', .slice a' j c']) k j 0 1 ∧ k ≤ 0 ∧ j ≤ 2 ∧ Below w.heap.size w w' := by
  have X0 := Lib.hid (Box4.new' (w := w.alloc (.cells #[.bool false, .slice none 0 0] 24)) (b := w.heap.size + 1) (by simp) (g := false) (a := none) (n := 0) (c := 0) (g' := false) (a' := none) (n' := 0) (c' := 0))
  have HW := Lib.hid (show Below w.heap.size w ((w.alloc (.cells #[.bool false, .slice none 0 0] 24)).alloc (.cells #[.bool false, .slice none 0 0, .bool false, .slice none 0 0] 26)) from Below.alloc2 _ _ _)
  have A0 := Lib.hid (show AI ((w.alloc (.cells #[.bool false, .slice none 0 0] 24)).alloc (.cells #[.bool false, .slice none 0 0, .bool false, .slice none 0 0] 26)) (.agg #[.bool false, .slice none 0 0]) 0 0 from ⟨false, none, 0, fun _ => 0, rfl, Nat.le_refl _, Dg_zero, fun h => absurd h (by omega), rfl⟩)
  go_enter Tryd.func24, Tryd.ntmps24
  go_wp2_with fail
  refine calls_at (fun W => Below w.heap.size w W ∧ Box4 W (w.heap.size + 1) ∧ AI W (.agg #[.bool false, .slice none 0 0]) 0 0) ⟨HW.out, X0.out, A0.out⟩ ?_
  clear HW X0 A0
  rintro w0 ⟨k0, k1, k2⟩
  have HW := Lib.hid k0
  have X0 := Lib.hid k1
  have A0 := Lib.hid k2
  clear k0 k1 k2
  refine (Normal_any _ 0 0 _ A0.out (by omega)).mono ?_
  rintro e w1 ⟨r, k, rfl, hR, hk, hB⟩
  obtain ⟨g, a, c, rfl⟩ := hR.form
  have RA := Lib.hid hR.ai
  have HW1 := Lib.hid (Below.up HW.out hB)
  have X1 := Lib.hid (X0.out.below hB)
  clear hR hB HW X0 A0
  go_wp2_with fail
  refine (of_gf 1 (by omega) _).mono ?_
  rintro e w2 ⟨g2, a2, c2, k2, rfl, hR, hk2, hB⟩
  have RB := Lib.hid hR
  have RA2 := Lib.hid (RA.out.below hB)
  have HW2 := Lib.hid (Below.up HW1.out hB)
  have X2 := Lib.hid (X1.out.below hB)
  clear hR hB HW1 X1 RA
  obtain ⟨zu0, zu1, zu2, zu3, zc0, zc1, zc2, zc3, zf0, zf1, zf2, zf3⟩ := X2.out.open
  go_wp2_with fail
  have f1 := RV.put X2.out RA2.out RB.out
  exact bodyPost_ret (v := .agg #[.bool g, .slice a k c, .bool g2, .slice a2 k2 c2]) (by simp [results, Tryd.results24, go_sem, f1.1, f1.2.1, f1.2.2.1, f1.2.2.2.1, zc0, zc1, zc2, zc3]) rfl ⟨g, a, c, g2, a2, c2, k, k2, rfl, f1.2.2.2.2.2, by omega, by omega, (((HW2.out.setCell (p := ⟨w.heap.size + 1, 0, none⟩) (by show _ ≤ w.heap.size + 1; omega) _).setCell (p := ⟨w.heap.size + 1, 1, none⟩) (by show _ ≤ w.heap.size + 1; omega) _).setCell (p := ⟨w.heap.size + 1, 2, none⟩) (by show _ ≤ w.heap.size + 1; omega) _).setCell (p := ⟨w.heap.size + 1, 3, none⟩) (by show _ ≤ w.heap.size + 1; omega) _⟩

theorem ord_not_pos {a b : Int} (h : a ≤ b) : ¬ (0 : Int) < ord a b := by
  unfold ord
  split
  · omega
  · rw [if_neg (by omega)]; omega
theorem ord_not_neg {a b : Int} (h : b ≤ a) : ¬ ord a b < (0 : Int) := by
  unfold ord
  rw [if_neg (by omega)]
  split <;> omega
theorem sq_nonneg (a : Int) : 0 ≤ a * a := by
  rcases Int.lt_or_le a 0 with g | g
  · have := Int.mul_pos_of_neg_of_neg g g
    omega
  · exact Int.mul_nonneg g g
/-- The simplest number S / T from X1 / Y1 to X2 / Y2. -/
def Least (X1 Y1 X2 Y2 S T : Int) : Prop := 0 < T ∧ X1 * T ≤ S * Y1 ∧ S * Y2 ≤ X2 * T ∧ ∀ P Q, 0 < Q → X1 * Q ≤ P * Y1 → P * Y2 ≤ X2 * Q → T ≤ Q ∧ S * S ≤ P * P
theorem sq_le {a b : Int} (h0 : 0 < a) (h : a ≤ b) : a * a ≤ b * b := Int.le_trans (Int.mul_le_mul_of_nonneg_left h (Int.le_of_lt h0)) (Int.mul_le_mul_of_nonneg_right h (by omega))
theorem Simp.least {A B C D S T : Int} (h : Simp A B C D S T) : Least A B C D S T := by
  obtain ⟨h1, h2, h3, h4, h5⟩ := h
  exact ⟨h2, h3, h4, fun P Q hQ k1 k2 => ⟨(h5 P Q hQ k1 k2).1, sq_le h1 (h5 P Q hQ k1 k2).2⟩⟩
theorem Simp.least_neg {X1 Y1 X2 Y2 S T : Int} (h : Simp (-X2) Y2 (-X1) Y1 S T) : Least X1 Y1 X2 Y2 (-S) T := by
  obtain ⟨h1, h2, h3, h4, h5⟩ := h
  rw [Int.neg_mul] at h3 h4
  refine ⟨h2, by rw [Int.neg_mul]; omega, by rw [Int.neg_mul]; omega, fun P Q hQ k1 k2 => ?_⟩
  have k := h5 (-P) Q hQ (by rw [Int.neg_mul, Int.neg_mul]; omega) (by rw [Int.neg_mul, Int.neg_mul]; omega)
  have e := sq_le h1 k.2
  rw [Int.neg_mul_neg] at e ⊢
  exact ⟨k.1, e⟩
theorem least_zero {X1 Y1 X2 Y2 : Int} (h1 : X1 ≤ 0) (h2 : 0 ≤ X2) : Least X1 Y1 X2 Y2 0 1 :=
  ⟨by omega, by omega, by omega, fun P Q hQ _ _ => ⟨by omega, sq_nonneg P⟩⟩
/-- What Between gives. -/
def BtP (w : World) (X1 Y1 X2 Y2 : Int) (e : Ending) (w' : World) : Prop := ∃ g a c g' a' c' k j S T, e = .returned (.tuple #[.agg #[.bool g, .slice a k c, .bool g', .slice a' j c'], .int .i64 0]) ∧ AR w' (.agg #[.bool g, .slice a k c, .bool g', .slice a' j c']) k j S T ∧ Least X1 Y1 X2 Y2 S T ∧ k ≤ 15 ∧ j ≤ 15 ∧ Below w.heap.size w w'

set_option maxHeartbeats 3200000 in
theorem Between_no (g1 h1 g2 h2 : Bool) (a1 b1 a2 b2 : Option Addr) (n1 m1 n2 m2 c1 d1 c2 d2 : Nat) (p1 q1 p2 q2 : Int) (w : World) (hu : AR w (.agg #[.bool g1, .slice a1 n1 c1, .bool h1, .slice b1 m1 d1]) n1 m1 p1 q1) (hv : AR w (.agg #[.bool g2, .slice a2 n2 c2, .bool h2, .slice b2 m2 d2]) n2 m2 p2 q2) (hn1 : n1 ≤ 6) (hm1 : m1 ≤ 6) (hn2 : n2 ≤ 6) (hm2 : m2 ≤ 6) (hlt : (tP p2 q2) * (tQ q1) < (tP p1 q1) * (tQ q2)) :
    Calls Tryd.prog 28 #[.agg #[.bool g1, .slice a1 n1 c1, .bool h1, .slice b1 m1 d1], .agg #[.bool g2, .slice a2 n2 c2, .bool h2, .slice b2 m2 d2]] w fun e w' => e = .returned (.tuple #[.agg #[.bool false, .slice none 0 0, .bool false, .slice none 0 0], .int .i64 2]) ∧ Below w.heap.size w w' := by
  have V0 := Lib.hid (show RV (((w.alloc (.cells #[.bool g1, .slice a1 n1 c1, .bool h1, .slice b1 m1 d1] 26)).alloc (.cells #[.bool g2, .slice a2 n2 c2, .bool h2, .slice b2 m2 d2] 26)).alloc (.cells #[.bool false, .slice none 0 0, .bool false, .slice none 0 0] 26)) w.heap.size g1 a1 n1 c1 h1 b1 m1 d1 p1 q1 from ((RV.new hu).below (Below.alloc' (Below.refl _ _) _)).below (Below.alloc' (Below.refl _ _) _))
  have V1 := Lib.hid (show RV (((w.alloc (.cells #[.bool g1, .slice a1 n1 c1, .bool h1, .slice b1 m1 d1] 26)).alloc (.cells #[.bool g2, .slice a2 n2 c2, .bool h2, .slice b2 m2 d2] 26)).alloc (.cells #[.bool false, .slice none 0 0, .bool false, .slice none 0 0] 26)) (w.heap.size + 1) g2 a2 n2 c2 h2 b2 m2 d2 p2 q2 from (RV.new' (hv.below (w' := w.alloc (.cells #[.bool g1, .slice a1 n1 c1, .bool h1, .slice b1 m1 d1] 26)) (Below.alloc' (Below.refl _ _) _)) (by simp)).below (Below.alloc' (Below.refl _ _) _))
  have V2 := Lib.hid (Box4.new' (w := (w.alloc (.cells #[.bool g1, .slice a1 n1 c1, .bool h1, .slice b1 m1 d1] 26)).alloc (.cells #[.bool g2, .slice a2 n2 c2, .bool h2, .slice b2 m2 d2] 26)) (b := w.heap.size + 1 + 1) (by simp) (g := false) (a := none) (n := 0) (c := 0) (g' := false) (a' := none) (n' := 0) (c' := 0))
  have HW := Lib.hid (show Below w.heap.size w (((w.alloc (.cells #[.bool g1, .slice a1 n1 c1, .bool h1, .slice b1 m1 d1] 26)).alloc (.cells #[.bool g2, .slice a2 n2 c2, .bool h2, .slice b2 m2 d2] 26)).alloc (.cells #[.bool false, .slice none 0 0, .bool false, .slice none 0 0] 26)) from Below.alloc' (Below.alloc2 _ _ _) _)
  clear hu hv
  go_enter Tryd.func28, Tryd.ntmps28
  go_wp2_with fail
  refine calls_at (fun W => Below w.heap.size w W ∧ RV W w.heap.size g1 a1 n1 c1 h1 b1 m1 d1 p1 q1 ∧ RV W (w.heap.size + 1) g2 a2 n2 c2 h2 b2 m2 d2 p2 q2 ∧ Box4 W (w.heap.size + 1 + 1)) ⟨HW.out, V0.out, V1.out, V2.out⟩ ?_
  clear HW V0 V1 V2
  rintro w0 ⟨k0, k1, k2, k3⟩
  have HW := Lib.hid k0
  have V0 := Lib.hid k1
  have V1 := Lib.hid k2
  have V2 := Lib.hid k3
  clear k0 k1 k2 k3
  refine (Compare_any _ _ n1 m1 n2 m2 p1 q1 p2 q2 _ V0.out.2.2.2.2.2 V1.out.2.2.2.2.2 (by omega) (by omega) (by omega) (by omega) (by omega) (by omega)).mono ?_
  rintro e w1 ⟨rfl, hB⟩
  have HW1 := Lib.hid (Below.up HW.out hB)
  have A0 := Lib.hid (V0.out.below hB)
  have A1 := Lib.hid (V1.out.below hB)
  have A2 := Lib.hid (V2.out.below hB)
  clear hB HW V0 V1 V2
  obtain ⟨e0, e1, e2, e3, e4, _⟩ := A0.out
  obtain ⟨f0, f1, f2, f3, f4, _⟩ := A1.out
  obtain ⟨zu0, zu1, zu2, zu3, zc0, zc1, zc2, zc3, zf0, zf1, zf2, zf3⟩ := A2.out.open
  have dz : decide ((0 : Int) < ord ((tP p1 q1) * (tQ q2)) ((tP p2 q2) * (tQ q1))) = true := decide_eq_true (by rw [ord_gt hlt]; omega)
  go_wp2_with fail
  exact bodyPost_ret (v := .tuple #[.agg #[.bool false, .slice none 0 0, .bool false, .slice none 0 0], .int .i64 2]) (by simp [results, Tryd.results28, go_sem, zc0, zc1, zc2, zc3]) rfl ⟨rfl, (((HW1.out.setCell (p := ⟨w.heap.size + 1 + 1, 0, none⟩) (by show _ ≤ w.heap.size + 1 + 1; omega) _).setCell (p := ⟨w.heap.size + 1 + 1, 1, none⟩) (by show _ ≤ w.heap.size + 1 + 1; omega) _).setCell (p := ⟨w.heap.size + 1 + 1, 2, none⟩) (by show _ ≤ w.heap.size + 1 + 1; omega) _).setCell (p := ⟨w.heap.size + 1 + 1, 3, none⟩) (by show _ ≤ w.heap.size + 1 + 1; omega) _⟩

set_option maxHeartbeats 6400000 in
theorem Between_pos (g1 h1 g2 h2 : Bool) (a1 b1 a2 b2 : Option Addr) (n1 m1 n2 m2 c1 d1 c2 d2 : Nat) (p1 q1 p2 q2 : Int) (w : World) (hu : AR w (.agg #[.bool g1, .slice a1 n1 c1, .bool h1, .slice b1 m1 d1]) n1 m1 p1 q1) (hv : AR w (.agg #[.bool g2, .slice a2 n2 c2, .bool h2, .slice b2 m2 d2]) n2 m2 p2 q2) (hn1 : n1 ≤ 6) (hm1 : m1 ≤ 6) (hn2 : n2 ≤ 6) (hm2 : m2 ≤ 6) (hle : (tP p1 q1) * (tQ q2) ≤ (tP p2 q2) * (tQ q1)) (h0 : 0 < (tP p1 q1)) :
    Calls Tryd.prog 28 #[.agg #[.bool g1, .slice a1 n1 c1, .bool h1, .slice b1 m1 d1], .agg #[.bool g2, .slice a2 n2 c2, .bool h2, .slice b2 m2 d2]] w (BtP w (tP p1 q1) (tQ q1) (tP p2 q2) (tQ q2)) := by
  have y1 := tQ_pos q1
  have y2 := tQ_pos q2
  have hx2 : 0 < (tP p2 q2) := by
    have := Int.mul_pos h0 y2
    exact Int.pos_of_mul_pos_left (show 0 < (tP p2 q2) * (tQ q1) by omega) (by omega)
  have V0 := Lib.hid (show RV (((w.alloc (.cells #[.bool g1, .slice a1 n1 c1, .bool h1, .slice b1 m1 d1] 26)).alloc (.cells #[.bool g2, .slice a2 n2 c2, .bool h2, .slice b2 m2 d2] 26)).alloc (.cells #[.bool false, .slice none 0 0, .bool false, .slice none 0 0] 26)) w.heap.size g1 a1 n1 c1 h1 b1 m1 d1 p1 q1 from ((RV.new hu).below (Below.alloc' (Below.refl _ _) _)).below (Below.alloc' (Below.refl _ _) _))
  have V1 := Lib.hid (show RV (((w.alloc (.cells #[.bool g1, .slice a1 n1 c1, .bool h1, .slice b1 m1 d1] 26)).alloc (.cells #[.bool g2, .slice a2 n2 c2, .bool h2, .slice b2 m2 d2] 26)).alloc (.cells #[.bool false, .slice none 0 0, .bool false, .slice none 0 0] 26)) (w.heap.size + 1) g2 a2 n2 c2 h2 b2 m2 d2 p2 q2 from (RV.new' (hv.below (w' := w.alloc (.cells #[.bool g1, .slice a1 n1 c1, .bool h1, .slice b1 m1 d1] 26)) (Below.alloc' (Below.refl _ _) _)) (by simp)).below (Below.alloc' (Below.refl _ _) _))
  have V2 := Lib.hid (Box4.new' (w := (w.alloc (.cells #[.bool g1, .slice a1 n1 c1, .bool h1, .slice b1 m1 d1] 26)).alloc (.cells #[.bool g2, .slice a2 n2 c2, .bool h2, .slice b2 m2 d2] 26)) (b := w.heap.size + 1 + 1) (by simp) (g := false) (a := none) (n := 0) (c := 0) (g' := false) (a' := none) (n' := 0) (c' := 0))
  have HW := Lib.hid (show Below w.heap.size w (((w.alloc (.cells #[.bool g1, .slice a1 n1 c1, .bool h1, .slice b1 m1 d1] 26)).alloc (.cells #[.bool g2, .slice a2 n2 c2, .bool h2, .slice b2 m2 d2] 26)).alloc (.cells #[.bool false, .slice none 0 0, .bool false, .slice none 0 0] 26)) from Below.alloc' (Below.alloc2 _ _ _) _)
  clear hu hv
  go_enter Tryd.func28, Tryd.ntmps28
  go_wp2_with fail
  refine calls_at (fun W => Below w.heap.size w W ∧ RV W w.heap.size g1 a1 n1 c1 h1 b1 m1 d1 p1 q1 ∧ RV W (w.heap.size + 1) g2 a2 n2 c2 h2 b2 m2 d2 p2 q2 ∧ Box4 W (w.heap.size + 1 + 1)) ⟨HW.out, V0.out, V1.out, V2.out⟩ ?_
  clear HW V0 V1 V2
  rintro w0 ⟨k0, k1, k2, k3⟩
  have HW := Lib.hid k0
  have V0 := Lib.hid k1
  have V1 := Lib.hid k2
  have V2 := Lib.hid k3
  clear k0 k1 k2 k3
  refine (Compare_any _ _ n1 m1 n2 m2 p1 q1 p2 q2 _ V0.out.2.2.2.2.2 V1.out.2.2.2.2.2 (by omega) (by omega) (by omega) (by omega) (by omega) (by omega)).mono ?_
  rintro e w1 ⟨rfl, hB⟩
  have HW1 := Lib.hid (Below.up HW.out hB)
  have A0 := Lib.hid (V0.out.below hB)
  have A1 := Lib.hid (V1.out.below hB)
  have A2 := Lib.hid (V2.out.below hB)
  clear hB HW V0 V1 V2
  obtain ⟨e0, e1, e2, e3, e4, _⟩ := A0.out
  obtain ⟨f0, f1, f2, f3, f4, _⟩ := A1.out
  obtain ⟨zu0, zu1, zu2, zu3, zc0, zc1, zc2, zc3, zf0, zf1, zf2, zf3⟩ := A2.out.open
  have dz : decide ((0 : Int) < ord ((tP p1 q1) * (tQ q2)) ((tP p2 q2) * (tQ q1))) = false := decide_eq_false (ord_not_pos hle)
  go_wp2_with fail
  refine (Signum_any _ n1 m1 p1 q1 _ A0.out.2.2.2.2.2 (by omega) (by omega)).mono ?_
  rintro e w2 ⟨rfl, hB⟩
  have HW2 := Lib.hid (Below.up HW1.out hB)
  have B0 := Lib.hid (A0.out.below hB)
  have B1 := Lib.hid (A1.out.below hB)
  have B2 := Lib.hid (A2.out.below hB)
  clear hB A0 A1 A2 e0 e1 e2 e3 e4 f0 f1 f2 f3 f4 zu0 zu1 zu2 zu3 zc0 zc1 zc2 zc3 zf0 zf1 zf2 zf3 HW1
  have A0 := B0
  clear B0
  have A1 := B1
  clear B1
  have A2 := B2
  clear B2
  obtain ⟨e0, e1, e2, e3, e4, _⟩ := A0.out
  obtain ⟨f0, f1, f2, f3, f4, _⟩ := A1.out
  obtain ⟨zu0, zu1, zu2, zu3, zc0, zc1, zc2, zc3, zf0, zf1, zf2, zf3⟩ := A2.out.open
  have dy : decide ((0 : Int) < ord (tP p1 q1) 0) = true := decide_eq_true (by rw [ord_gt h0]; omega)
  go_wp2_with fail
  refine (simplest_any g1 h1 g2 h2 a1 b1 a2 b2 n1 m1 n2 m2 c1 d1 c2 d2 p1 q1 p2 q2 (tP p1 q1) (tQ q1) (tP p2 q2) (tQ q2) _ A0.out.2.2.2.2.2 A1.out.2.2.2.2.2 (by omega) rfl (by omega) rfl h0 y1 hx2 y2 hle (by omega) (by omega) (by omega) (by omega)).mono ?_
  rintro e w3 ⟨gs, xs, ys, gt, xt, yt, ks, kt, S, U, rfl, hR, hS, hks, hkt, hB⟩
  have RR0 := Lib.hid hR
  have LS := Lib.hid hS.least
  have HW3 := Lib.hid (Below.up HW2.out hB)
  have B0 := Lib.hid (A0.out.below hB)
  have B1 := Lib.hid (A1.out.below hB)
  have B2 := Lib.hid (A2.out.below hB)
  clear hB hR hS A0 A1 A2 e0 e1 e2 e3 e4 f0 f1 f2 f3 f4 zu0 zu1 zu2 zu3 zc0 zc1 zc2 zc3 zf0 zf1 zf2 zf3 HW2
  have A0 := B0
  clear B0
  have A1 := B1
  clear B1
  have A2 := B2
  clear B2
  obtain ⟨e0, e1, e2, e3, e4, _⟩ := A0.out
  obtain ⟨f0, f1, f2, f3, f4, _⟩ := A1.out
  obtain ⟨zu0, zu1, zu2, zu3, zc0, zc1, zc2, zc3, zf0, zf1, zf2, zf3⟩ := A2.out.open
  obtain ⟨_, _, _, _, ee, r1, r2⟩ := RR0.out
  simp only [Value.agg.injEq, Array.mk.injEq, List.cons.injEq, and_true] at ee
  obtain ⟨rfl, rfl, rfl, rfl⟩ := ee
  have R1 := Lib.hid r1
  have R2 := Lib.hid r2
  clear r1 r2
  go_wp2_with fail
  have k1 := RV.put A2.out R1.out R2.out
  exact bodyPost_ret (v := .tuple #[.agg #[.bool gs, .slice xs ks ys, .bool gt, .slice xt kt yt], .int .i64 0]) (by simp [results, Tryd.results28, go_sem, zc0, zc1, zc2, zc3]) rfl ⟨gs, xs, ys, gt, xt, yt, ks, kt, S, U, rfl, k1.2.2.2.2.2, LS.out, by omega, by omega, (((HW3.out.setCell (p := ⟨w.heap.size + 1 + 1, 0, none⟩) (by show _ ≤ w.heap.size + 1 + 1; omega) _).setCell (p := ⟨w.heap.size + 1 + 1, 1, none⟩) (by show _ ≤ w.heap.size + 1 + 1; omega) _).setCell (p := ⟨w.heap.size + 1 + 1, 2, none⟩) (by show _ ≤ w.heap.size + 1 + 1; omega) _).setCell (p := ⟨w.heap.size + 1 + 1, 3, none⟩) (by show _ ≤ w.heap.size + 1 + 1; omega) _⟩

set_option maxHeartbeats 6400000 in
theorem Between_zero (g1 h1 g2 h2 : Bool) (a1 b1 a2 b2 : Option Addr) (n1 m1 n2 m2 c1 d1 c2 d2 : Nat) (p1 q1 p2 q2 : Int) (w : World) (hu : AR w (.agg #[.bool g1, .slice a1 n1 c1, .bool h1, .slice b1 m1 d1]) n1 m1 p1 q1) (hv : AR w (.agg #[.bool g2, .slice a2 n2 c2, .bool h2, .slice b2 m2 d2]) n2 m2 p2 q2) (hn1 : n1 ≤ 6) (hm1 : m1 ≤ 6) (hn2 : n2 ≤ 6) (hm2 : m2 ≤ 6) (hle : (tP p1 q1) * (tQ q2) ≤ (tP p2 q2) * (tQ q1)) (h0 : (tP p1 q1) ≤ 0) (h3 : 0 ≤ (tP p2 q2)) :
    Calls Tryd.prog 28 #[.agg #[.bool g1, .slice a1 n1 c1, .bool h1, .slice b1 m1 d1], .agg #[.bool g2, .slice a2 n2 c2, .bool h2, .slice b2 m2 d2]] w (BtP w (tP p1 q1) (tQ q1) (tP p2 q2) (tQ q2)) := by
  have LS := Lib.hid (least_zero (Y1 := (tQ q1)) (Y2 := (tQ q2)) h0 h3)
  have V0 := Lib.hid (show RV (((w.alloc (.cells #[.bool g1, .slice a1 n1 c1, .bool h1, .slice b1 m1 d1] 26)).alloc (.cells #[.bool g2, .slice a2 n2 c2, .bool h2, .slice b2 m2 d2] 26)).alloc (.cells #[.bool false, .slice none 0 0, .bool false, .slice none 0 0] 26)) w.heap.size g1 a1 n1 c1 h1 b1 m1 d1 p1 q1 from ((RV.new hu).below (Below.alloc' (Below.refl _ _) _)).below (Below.alloc' (Below.refl _ _) _))
  have V1 := Lib.hid (show RV (((w.alloc (.cells #[.bool g1, .slice a1 n1 c1, .bool h1, .slice b1 m1 d1] 26)).alloc (.cells #[.bool g2, .slice a2 n2 c2, .bool h2, .slice b2 m2 d2] 26)).alloc (.cells #[.bool false, .slice none 0 0, .bool false, .slice none 0 0] 26)) (w.heap.size + 1) g2 a2 n2 c2 h2 b2 m2 d2 p2 q2 from (RV.new' (hv.below (w' := w.alloc (.cells #[.bool g1, .slice a1 n1 c1, .bool h1, .slice b1 m1 d1] 26)) (Below.alloc' (Below.refl _ _) _)) (by simp)).below (Below.alloc' (Below.refl _ _) _))
  have V2 := Lib.hid (Box4.new' (w := (w.alloc (.cells #[.bool g1, .slice a1 n1 c1, .bool h1, .slice b1 m1 d1] 26)).alloc (.cells #[.bool g2, .slice a2 n2 c2, .bool h2, .slice b2 m2 d2] 26)) (b := w.heap.size + 1 + 1) (by simp) (g := false) (a := none) (n := 0) (c := 0) (g' := false) (a' := none) (n' := 0) (c' := 0))
  have HW := Lib.hid (show Below w.heap.size w (((w.alloc (.cells #[.bool g1, .slice a1 n1 c1, .bool h1, .slice b1 m1 d1] 26)).alloc (.cells #[.bool g2, .slice a2 n2 c2, .bool h2, .slice b2 m2 d2] 26)).alloc (.cells #[.bool false, .slice none 0 0, .bool false, .slice none 0 0] 26)) from Below.alloc' (Below.alloc2 _ _ _) _)
  clear hu hv
  go_enter Tryd.func28, Tryd.ntmps28
  go_wp2_with fail
  refine calls_at (fun W => Below w.heap.size w W ∧ RV W w.heap.size g1 a1 n1 c1 h1 b1 m1 d1 p1 q1 ∧ RV W (w.heap.size + 1) g2 a2 n2 c2 h2 b2 m2 d2 p2 q2 ∧ Box4 W (w.heap.size + 1 + 1)) ⟨HW.out, V0.out, V1.out, V2.out⟩ ?_
  clear HW V0 V1 V2
  rintro w0 ⟨k0, k1, k2, k3⟩
  have HW := Lib.hid k0
  have V0 := Lib.hid k1
  have V1 := Lib.hid k2
  have V2 := Lib.hid k3
  clear k0 k1 k2 k3
  refine (Compare_any _ _ n1 m1 n2 m2 p1 q1 p2 q2 _ V0.out.2.2.2.2.2 V1.out.2.2.2.2.2 (by omega) (by omega) (by omega) (by omega) (by omega) (by omega)).mono ?_
  rintro e w1 ⟨rfl, hB⟩
  have HW1 := Lib.hid (Below.up HW.out hB)
  have A0 := Lib.hid (V0.out.below hB)
  have A1 := Lib.hid (V1.out.below hB)
  have A2 := Lib.hid (V2.out.below hB)
  clear hB HW V0 V1 V2
  obtain ⟨e0, e1, e2, e3, e4, _⟩ := A0.out
  obtain ⟨f0, f1, f2, f3, f4, _⟩ := A1.out
  obtain ⟨zu0, zu1, zu2, zu3, zc0, zc1, zc2, zc3, zf0, zf1, zf2, zf3⟩ := A2.out.open
  have dz : decide ((0 : Int) < ord ((tP p1 q1) * (tQ q2)) ((tP p2 q2) * (tQ q1))) = false := decide_eq_false (ord_not_pos hle)
  go_wp2_with fail
  refine (Signum_any _ n1 m1 p1 q1 _ A0.out.2.2.2.2.2 (by omega) (by omega)).mono ?_
  rintro e w2 ⟨rfl, hB⟩
  have HW2 := Lib.hid (Below.up HW1.out hB)
  have B0 := Lib.hid (A0.out.below hB)
  have B1 := Lib.hid (A1.out.below hB)
  have B2 := Lib.hid (A2.out.below hB)
  clear hB A0 A1 A2 e0 e1 e2 e3 e4 f0 f1 f2 f3 f4 zu0 zu1 zu2 zu3 zc0 zc1 zc2 zc3 zf0 zf1 zf2 zf3 HW1
  have A0 := B0
  clear B0
  have A1 := B1
  clear B1
  have A2 := B2
  clear B2
  obtain ⟨e0, e1, e2, e3, e4, _⟩ := A0.out
  obtain ⟨f0, f1, f2, f3, f4, _⟩ := A1.out
  obtain ⟨zu0, zu1, zu2, zu3, zc0, zc1, zc2, zc3, zf0, zf1, zf2, zf3⟩ := A2.out.open
  have dy : decide ((0 : Int) < ord (tP p1 q1) 0) = false := decide_eq_false (ord_not_pos h0)
  go_wp2_with fail
  refine (Signum_any _ n2 m2 p2 q2 _ A1.out.2.2.2.2.2 (by omega) (by omega)).mono ?_
  rintro e w3 ⟨rfl, hB⟩
  have HW3 := Lib.hid (Below.up HW2.out hB)
  have B0 := Lib.hid (A0.out.below hB)
  have B1 := Lib.hid (A1.out.below hB)
  have B2 := Lib.hid (A2.out.below hB)
  clear hB A0 A1 A2 e0 e1 e2 e3 e4 f0 f1 f2 f3 f4 zu0 zu1 zu2 zu3 zc0 zc1 zc2 zc3 zf0 zf1 zf2 zf3 HW2
  have A0 := B0
  clear B0
  have A1 := B1
  clear B1
  have A2 := B2
  clear B2
  obtain ⟨e0, e1, e2, e3, e4, _⟩ := A0.out
  obtain ⟨f0, f1, f2, f3, f4, _⟩ := A1.out
  obtain ⟨zu0, zu1, zu2, zu3, zc0, zc1, zc2, zc3, zf0, zf1, zf2, zf3⟩ := A2.out.open
  have dx : decide (ord (tP p2 q2) 0 < 0) = false := decide_eq_false (ord_not_neg h3)
  go_wp2_with fail
  refine (Whole_zero _).mono ?_
  rintro e w4 ⟨gs, xs, ys, gt, xt, yt, ks, kt, rfl, hR, hks, hkt, hB⟩
  have RR0 := Lib.hid hR
  have HW4 := Lib.hid (Below.up HW3.out hB)
  have B0 := Lib.hid (A0.out.below hB)
  have B1 := Lib.hid (A1.out.below hB)
  have B2 := Lib.hid (A2.out.below hB)
  clear hB hR A0 A1 A2 e0 e1 e2 e3 e4 f0 f1 f2 f3 f4 zu0 zu1 zu2 zu3 zc0 zc1 zc2 zc3 zf0 zf1 zf2 zf3 HW3
  have A0 := B0
  clear B0
  have A1 := B1
  clear B1
  have A2 := B2
  clear B2
  obtain ⟨e0, e1, e2, e3, e4, _⟩ := A0.out
  obtain ⟨f0, f1, f2, f3, f4, _⟩ := A1.out
  obtain ⟨zu0, zu1, zu2, zu3, zc0, zc1, zc2, zc3, zf0, zf1, zf2, zf3⟩ := A2.out.open
  obtain ⟨_, _, _, _, ee, r1, r2⟩ := RR0.out
  simp only [Value.agg.injEq, Array.mk.injEq, List.cons.injEq, and_true] at ee
  obtain ⟨rfl, rfl, rfl, rfl⟩ := ee
  have R1 := Lib.hid r1
  have R2 := Lib.hid r2
  clear r1 r2
  go_wp2_with fail
  have k1 := RV.put A2.out R1.out R2.out
  exact bodyPost_ret (v := .tuple #[.agg #[.bool gs, .slice xs ks ys, .bool gt, .slice xt kt yt], .int .i64 0]) (by simp [results, Tryd.results28, go_sem, zc0, zc1, zc2, zc3]) rfl ⟨gs, xs, ys, gt, xt, yt, ks, kt, 0, 1, rfl, k1.2.2.2.2.2, LS.out, by omega, by omega, (((HW4.out.setCell (p := ⟨w.heap.size + 1 + 1, 0, none⟩) (by show _ ≤ w.heap.size + 1 + 1; omega) _).setCell (p := ⟨w.heap.size + 1 + 1, 1, none⟩) (by show _ ≤ w.heap.size + 1 + 1; omega) _).setCell (p := ⟨w.heap.size + 1 + 1, 2, none⟩) (by show _ ≤ w.heap.size + 1 + 1; omega) _).setCell (p := ⟨w.heap.size + 1 + 1, 3, none⟩) (by show _ ≤ w.heap.size + 1 + 1; omega) _⟩

set_option maxHeartbeats 6400000 in
theorem Between_neg (g1 h1 g2 h2 : Bool) (a1 b1 a2 b2 : Option Addr) (n1 m1 n2 m2 c1 d1 c2 d2 : Nat) (p1 q1 p2 q2 : Int) (w : World) (hu : AR w (.agg #[.bool g1, .slice a1 n1 c1, .bool h1, .slice b1 m1 d1]) n1 m1 p1 q1) (hv : AR w (.agg #[.bool g2, .slice a2 n2 c2, .bool h2, .slice b2 m2 d2]) n2 m2 p2 q2) (hn1 : n1 ≤ 6) (hm1 : m1 ≤ 6) (hn2 : n2 ≤ 6) (hm2 : m2 ≤ 6) (hle : (tP p1 q1) * (tQ q2) ≤ (tP p2 q2) * (tQ q1)) (h3 : (tP p2 q2) < 0) :
    Calls Tryd.prog 28 #[.agg #[.bool g1, .slice a1 n1 c1, .bool h1, .slice b1 m1 d1], .agg #[.bool g2, .slice a2 n2 c2, .bool h2, .slice b2 m2 d2]] w (BtP w (tP p1 q1) (tQ q1) (tP p2 q2) (tQ q2)) := by
  have y1 := tQ_pos q1
  have y2 := tQ_pos q2
  have hx1 : (tP p1 q1) < 0 := by
    have k1 := Int.mul_pos (show 0 < -(tP p2 q2) by omega) y1
    rw [Int.neg_mul] at k1
    rcases Int.lt_or_le (tP p1 q1) 0 with g | g
    · exact g
    · have := Int.mul_nonneg g (Int.le_of_lt y2)
      omega
  have h0 : (tP p1 q1) ≤ 0 := by omega
  have V0 := Lib.hid (show RV (((w.alloc (.cells #[.bool g1, .slice a1 n1 c1, .bool h1, .slice b1 m1 d1] 26)).alloc (.cells #[.bool g2, .slice a2 n2 c2, .bool h2, .slice b2 m2 d2] 26)).alloc (.cells #[.bool false, .slice none 0 0, .bool false, .slice none 0 0] 26)) w.heap.size g1 a1 n1 c1 h1 b1 m1 d1 p1 q1 from ((RV.new hu).below (Below.alloc' (Below.refl _ _) _)).below (Below.alloc' (Below.refl _ _) _))
  have V1 := Lib.hid (show RV (((w.alloc (.cells #[.bool g1, .slice a1 n1 c1, .bool h1, .slice b1 m1 d1] 26)).alloc (.cells #[.bool g2, .slice a2 n2 c2, .bool h2, .slice b2 m2 d2] 26)).alloc (.cells #[.bool false, .slice none 0 0, .bool false, .slice none 0 0] 26)) (w.heap.size + 1) g2 a2 n2 c2 h2 b2 m2 d2 p2 q2 from (RV.new' (hv.below (w' := w.alloc (.cells #[.bool g1, .slice a1 n1 c1, .bool h1, .slice b1 m1 d1] 26)) (Below.alloc' (Below.refl _ _) _)) (by simp)).below (Below.alloc' (Below.refl _ _) _))
  have V2 := Lib.hid (Box4.new' (w := (w.alloc (.cells #[.bool g1, .slice a1 n1 c1, .bool h1, .slice b1 m1 d1] 26)).alloc (.cells #[.bool g2, .slice a2 n2 c2, .bool h2, .slice b2 m2 d2] 26)) (b := w.heap.size + 1 + 1) (by simp) (g := false) (a := none) (n := 0) (c := 0) (g' := false) (a' := none) (n' := 0) (c' := 0))
  have HW := Lib.hid (show Below w.heap.size w (((w.alloc (.cells #[.bool g1, .slice a1 n1 c1, .bool h1, .slice b1 m1 d1] 26)).alloc (.cells #[.bool g2, .slice a2 n2 c2, .bool h2, .slice b2 m2 d2] 26)).alloc (.cells #[.bool false, .slice none 0 0, .bool false, .slice none 0 0] 26)) from Below.alloc' (Below.alloc2 _ _ _) _)
  clear hu hv
  go_enter Tryd.func28, Tryd.ntmps28
  go_wp2_with fail
  refine calls_at (fun W => Below w.heap.size w W ∧ RV W w.heap.size g1 a1 n1 c1 h1 b1 m1 d1 p1 q1 ∧ RV W (w.heap.size + 1) g2 a2 n2 c2 h2 b2 m2 d2 p2 q2 ∧ Box4 W (w.heap.size + 1 + 1)) ⟨HW.out, V0.out, V1.out, V2.out⟩ ?_
  clear HW V0 V1 V2
  rintro w0 ⟨k0, k1, k2, k3⟩
  have HW := Lib.hid k0
  have V0 := Lib.hid k1
  have V1 := Lib.hid k2
  have V2 := Lib.hid k3
  clear k0 k1 k2 k3
  refine (Compare_any _ _ n1 m1 n2 m2 p1 q1 p2 q2 _ V0.out.2.2.2.2.2 V1.out.2.2.2.2.2 (by omega) (by omega) (by omega) (by omega) (by omega) (by omega)).mono ?_
  rintro e w1 ⟨rfl, hB⟩
  have HW1 := Lib.hid (Below.up HW.out hB)
  have A0 := Lib.hid (V0.out.below hB)
  have A1 := Lib.hid (V1.out.below hB)
  have A2 := Lib.hid (V2.out.below hB)
  clear hB HW V0 V1 V2
  obtain ⟨e0, e1, e2, e3, e4, _⟩ := A0.out
  obtain ⟨f0, f1, f2, f3, f4, _⟩ := A1.out
  obtain ⟨zu0, zu1, zu2, zu3, zc0, zc1, zc2, zc3, zf0, zf1, zf2, zf3⟩ := A2.out.open
  have dz : decide ((0 : Int) < ord ((tP p1 q1) * (tQ q2)) ((tP p2 q2) * (tQ q1))) = false := decide_eq_false (ord_not_pos hle)
  go_wp2_with fail
  refine (Signum_any _ n1 m1 p1 q1 _ A0.out.2.2.2.2.2 (by omega) (by omega)).mono ?_
  rintro e w2 ⟨rfl, hB⟩
  have HW2 := Lib.hid (Below.up HW1.out hB)
  have B0 := Lib.hid (A0.out.below hB)
  have B1 := Lib.hid (A1.out.below hB)
  have B2 := Lib.hid (A2.out.below hB)
  clear hB A0 A1 A2 e0 e1 e2 e3 e4 f0 f1 f2 f3 f4 zu0 zu1 zu2 zu3 zc0 zc1 zc2 zc3 zf0 zf1 zf2 zf3 HW1
  have A0 := B0
  clear B0
  have A1 := B1
  clear B1
  have A2 := B2
  clear B2
  obtain ⟨e0, e1, e2, e3, e4, _⟩ := A0.out
  obtain ⟨f0, f1, f2, f3, f4, _⟩ := A1.out
  obtain ⟨zu0, zu1, zu2, zu3, zc0, zc1, zc2, zc3, zf0, zf1, zf2, zf3⟩ := A2.out.open
  have dy : decide ((0 : Int) < ord (tP p1 q1) 0) = false := decide_eq_false (ord_not_pos h0)
  go_wp2_with fail
  refine (Signum_any _ n2 m2 p2 q2 _ A1.out.2.2.2.2.2 (by omega) (by omega)).mono ?_
  rintro e w3 ⟨rfl, hB⟩
  have HW3 := Lib.hid (Below.up HW2.out hB)
  have B0 := Lib.hid (A0.out.below hB)
  have B1 := Lib.hid (A1.out.below hB)
  have B2 := Lib.hid (A2.out.below hB)
  clear hB A0 A1 A2 e0 e1 e2 e3 e4 f0 f1 f2 f3 f4 zu0 zu1 zu2 zu3 zc0 zc1 zc2 zc3 zf0 zf1 zf2 zf3 HW2
  have A0 := B0
  clear B0
  have A1 := B1
  clear B1
  have A2 := B2
  clear B2
  obtain ⟨e0, e1, e2, e3, e4, _⟩ := A0.out
  obtain ⟨f0, f1, f2, f3, f4, _⟩ := A1.out
  obtain ⟨zu0, zu1, zu2, zu3, zc0, zc1, zc2, zc3, zf0, zf1, zf2, zf3⟩ := A2.out.open
  have dx : decide (ord (tP p2 q2) 0 < 0) = true := decide_eq_true (by rw [ord_lt h3]; omega)
  go_wp2_with fail
  refine (simplest_any g2 h2 g1 h1 a2 b2 a1 b1 n2 m2 n1 m1 c2 d2 c1 d1 p2 q2 p1 q1 (-(tP p2 q2)) (tQ q2) (-(tP p1 q1)) (tQ q1) _ A1.out.2.2.2.2.2 A0.out.2.2.2.2.2 (by omega) rfl (by omega) rfl (by omega) y2 (by omega) y1 (by rw [Int.neg_mul, Int.neg_mul]; omega) (by omega) (by omega) (by omega) (by omega)).mono ?_
  rintro e w4 ⟨gs, xs, ys, gt, xt, yt, ks, kt, S, U, rfl, hR, hS, hks, hkt, hB⟩
  have RR0 := Lib.hid hR
  have LS := Lib.hid hS.least_neg
  have HW4 := Lib.hid (Below.up HW3.out hB)
  have B0 := Lib.hid (A0.out.below hB)
  have B1 := Lib.hid (A1.out.below hB)
  have B2 := Lib.hid (A2.out.below hB)
  clear hB hR hS A0 A1 A2 e0 e1 e2 e3 e4 f0 f1 f2 f3 f4 zu0 zu1 zu2 zu3 zc0 zc1 zc2 zc3 zf0 zf1 zf2 zf3 HW3
  have A0 := B0
  clear B0
  have A1 := B1
  clear B1
  have A2 := B2
  clear B2
  have hlt4 := A2.out.lt
  go_wp2_with fail
  refine calls_at (fun W => Below w.heap.size w W ∧ Box4 W (w.heap.size + 1 + 1) ∧ Box4 W w4.heap.size ∧ RV W w4.heap.size gs xs ks ys gt xt kt yt S U) ⟨Below.up HW4.out (Below.alloc' (Below.refl _ _) _), A2.out.alloc _, Box4.new' rfl, RV.new RR0.out⟩ ?_
  clear HW4 A0 A1 A2 RR0
  rintro w5 ⟨k0, k1, k2, k3⟩
  have HW := Lib.hid k0
  have A2 := Lib.hid k1
  have A3 := Lib.hid k2
  have A4 := Lib.hid k3
  clear k0 k1 k2 k3
  have hb6 : w.heap.size + 1 + 1 < w4.heap.size := hlt4
  generalize w4.heap.size = b6 at *
  obtain ⟨_, _, _, _, ee, r1, r2⟩ := A4.out.2.2.2.2.2
  simp only [Value.agg.injEq, Array.mk.injEq, List.cons.injEq, and_true] at ee
  obtain ⟨rfl, rfl, rfl, rfl⟩ := ee
  refine (Neg_any _ ks S _ r1 (by omega)).mono ?_
  rintro e w6 ⟨r, kn, rfl, hR, hkn, hB⟩
  obtain ⟨gn, xn, yn, rfl⟩ := hR.form
  have R1 := Lib.hid hR.ai
  have R2 := Lib.hid (r2.below hB)
  have HW6 := Lib.hid (Below.up HW.out hB)
  have C2 := Lib.hid (A2.out.below hB)
  have C3 := Lib.hid (A3.out.below hB)
  obtain ⟨o0, o1, o2, o3, o4, _⟩ := A4.out.below hB
  have fz := C3.out.open
  clear hR hB HW A2 A3 A4 r1 r2
  obtain ⟨yu0, yu1, yu2, yu3, yc0, yc1, yc2, yc3, yf0, yf1, yf2, yf3⟩ := fz
  clear yc0 yc1 yc2 yc3
  obtain ⟨zu0, zu1, zu2, zu3, zc0, zc1, zc2, zc3, zf0, zf1, zf2, zf3⟩ := C2.out.open
  have ne1 : b6 ≠ w.heap.size + 1 + 1 := by omega
  have ne2 : w.heap.size + 1 + 1 ≠ b6 := by omega
  go_wp2_with fail
  have q1' := AI.put4 (i := 1) (C3.out.set0 gn) (AI.put4 (i := 0) C3.out R1.out (.bool gn)) (.slice xn kn yn)
  have q2' := AI.put4 (i := 1) (C3.out.set0 gn) (AI.put4 (i := 0) C3.out R2.out (.bool gn)) (.slice xn kn yn)
  have q3' : Box4 ((w6.setCell ⟨b6, 0, none⟩ (.bool gn)).setCell ⟨b6, 1, none⟩ (.slice xn kn yn)) (w.heap.size + 1 + 1) := (C2.out.keep2 ne1).keep2 ne1
  have k1 := RV.put q3' q1' q2'
  have k2 := (HW6.out.setCell (p := ⟨b6, 0, none⟩) (by show _ ≤ b6; omega) (.bool gn)).setCell (p := ⟨b6, 1, none⟩) (by show _ ≤ b6; omega) (.slice xn kn yn)
  exact bodyPost_ret (v := .tuple #[.agg #[.bool gn, .slice xn kn yn, .bool gt, .slice xt kt yt], .int .i64 0]) (by simp [results, Tryd.results28, go_sem, zc0, zc1, zc2, zc3, o0, o1, o2, o3, ne1, ne2]) rfl ⟨gn, xn, yn, gt, xt, yt, kn, kt, -S, U, rfl, k1.2.2.2.2.2, LS.out, by omega, by omega, (((k2.setCell (p := ⟨w.heap.size + 1 + 1, 0, none⟩) (by show _ ≤ w.heap.size + 1 + 1; omega) _).setCell (p := ⟨w.heap.size + 1 + 1, 1, none⟩) (by show _ ≤ w.heap.size + 1 + 1; omega) _).setCell (p := ⟨w.heap.size + 1 + 1, 2, none⟩) (by show _ ≤ w.heap.size + 1 + 1; omega) _).setCell (p := ⟨w.heap.size + 1 + 1, 3, none⟩) (by show _ ≤ w.heap.size + 1 + 1; omega) _⟩

theorem Between_yes (g1 h1 g2 h2 : Bool) (a1 b1 a2 b2 : Option Addr) (n1 m1 n2 m2 c1 d1 c2 d2 : Nat) (p1 q1 p2 q2 : Int) (w : World) (hu : AR w (.agg #[.bool g1, .slice a1 n1 c1, .bool h1, .slice b1 m1 d1]) n1 m1 p1 q1) (hv : AR w (.agg #[.bool g2, .slice a2 n2 c2, .bool h2, .slice b2 m2 d2]) n2 m2 p2 q2) (hn1 : n1 ≤ 6) (hm1 : m1 ≤ 6) (hn2 : n2 ≤ 6) (hm2 : m2 ≤ 6) (hle : (tP p1 q1) * (tQ q2) ≤ (tP p2 q2) * (tQ q1)) :
    Calls Tryd.prog 28 #[.agg #[.bool g1, .slice a1 n1 c1, .bool h1, .slice b1 m1 d1], .agg #[.bool g2, .slice a2 n2 c2, .bool h2, .slice b2 m2 d2]] w (BtP w (tP p1 q1) (tQ q1) (tP p2 q2) (tQ q2)) := by
  by_cases h1 : 0 < (tP p1 q1)
  · exact Between_pos _ _ _ _ _ _ _ _ _ _ _ _ _ _ _ _ p1 q1 p2 q2 w hu hv hn1 hm1 hn2 hm2 hle h1
  · by_cases h2 : (tP p2 q2) < 0
    · exact Between_neg _ _ _ _ _ _ _ _ _ _ _ _ _ _ _ _ p1 q1 p2 q2 w hu hv hn1 hm1 hn2 hm2 hle h2
    · exact Between_zero _ _ _ _ _ _ _ _ _ _ _ _ _ _ _ _ p1 q1 p2 q2 w hu hv hn1 hm1 hn2 hm2 hle (by omega) (by omega)
end Go.Proofs.YtpkjpepnjlcgoaaDoor
end
