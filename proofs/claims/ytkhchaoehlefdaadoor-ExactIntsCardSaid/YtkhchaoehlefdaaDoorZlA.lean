/- Contracts of the program beside the document's, by fields: what the laws call. -/
import Derived.Test.YtkhchaoehlefdaaDoorZaK
import Derived.Test.YtkhchaoehlefdaaDoorZkB
import Derived.Test.YtkhchaoehlefdaaDoorEzU
set_option linter.unusedVariables false
set_option linter.unusedSimpArgs false
namespace Go.Proofs.YtkhchaoehlefdaaDoor
open Go.RowKit

/-- An integer of the program is returned, in memory of its own. -/
def Rf (w : World) (z : Int) (n : Nat) (e : Ending) (w' : World) : Prop := ∃ g a c k, e = .returned (.agg #[.bool g, .slice a k c]) ∧ RI w' w.heap.size (.agg #[.bool g, .slice a k c]) k z ∧ k ≤ n ∧ Below w.heap.size w w'
theorem Rf.of {w : World} {z : Int} {n : Nat} {e : Ending} {w' : World} (h : ∃ r k, e = .returned r ∧ RI w' w.heap.size r k z ∧ k ≤ n ∧ Below w.heap.size w w') : Rf w z n e w' := by
  obtain ⟨r, k, rfl, h1, h2, h3⟩ := h
  obtain ⟨g, a, c, rfl⟩ := h1.form
  exact ⟨g, a, c, k, rfl, h1, h2, h3⟩
theorem normal_rf (u : Value) (n : Nat) (p : Int) (w : World) (hu : AI w u n p) (hn : n ≤ 1000000) : Calls Tryd.prog 7 #[u] w (Rf w p n) := (Normal_ri u n p w hu (by omega)).mono fun _ _ h => Rf.of h
theorem neg_rf (u : Value) (n : Nat) (p : Int) (w : World) (hu : AI w u n p) (hn : n ≤ 1000000) : Calls Tryd.prog 8 #[u] w (Rf w (-p) n) := (Neg_any u n p w hu (by omega)).mono fun _ _ h => Rf.of h
theorem add_rf (u v : Value) (n m : Nat) (p q : Int) (w : World) (hu : AI w u n p) (hv : AI w v m q) (hn : n ≤ 1000000) (hm : m ≤ 1000000) : Calls Tryd.prog 9 #[u, v] w (Rf w (p + q) (max n m + 1)) := (Add_any u v n m p q w hu hv (by omega) (by omega)).mono fun _ _ h => Rf.of h
theorem sub_rf (u v : Value) (n m : Nat) (p q : Int) (w : World) (hu : AI w u n p) (hv : AI w v m q) (hn : n ≤ 1000000) (hm : m ≤ 1000000) : Calls Tryd.prog 10 #[u, v] w (Rf w (p - q) (max n m + 1)) := (Sub_any u v n m p q w hu hv (by omega) (by omega)).mono fun _ _ h => Rf.of h
theorem mul_rf (u v : Value) (n m : Nat) (p q : Int) (w : World) (hu : AI w u n p) (hv : AI w v m q) (hn : n ≤ 1000000) (hm : m ≤ 1000000) : Calls Tryd.prog 11 #[u, v] w (Rf w (p * q) (n + m)) := (Mul_all u v n m p q w hu hv (by omega) (by omega)).mono fun _ _ h => Rf.of h
theorem gcd_rf (u v : Value) (n m : Nat) (p q : Int) (w : World) (hT : Tab w) (hu : AI w u n p) (hv : AI w v m q) (hn : n ≤ 100000) (hm : m ≤ 100000) : Calls Tryd.prog 12 #[u, v] w (Rf w (Nat.gcd p.natAbs q.natAbs) (max n m)) := (Gcd_any u v n m p q w hT hu hv hn hm).mono fun _ _ h => Rf.of h
/-- own and From, by fields. -/
def Af (w : World) (n : Nat) (d : Bool × (Nat → Int)) (e : Ending) (w' : World) : Prop := ∃ g a c, e = .returned (.agg #[.bool g, .slice a n c]) ∧ AX w' (.agg #[.bool g, .slice a n c]) n d ∧ Below w.heap.size w w'
theorem own_af (u : Value) (n : Nat) (d : Bool × (Nat → Int)) (w : World) (hu : AX w u n d) (hn : n ≤ 1000000) : Calls Tryd.prog 5 #[u] w (Af w n d) := (own_ax u n d w hu hn).mono fun _ _ ⟨g, a, c, k, h1, h2, h3, h4⟩ => by
  subst h3
  exact ⟨g, a, c, h1, h2, h4⟩
/-- The value of an integer as it is. -/
def vx (d : Bool × (Nat → Int)) (n : Nat) : Int := sg d.1 (V d.2 n)
theorem AX.av {w : World} {v : Value} {n : Nat} {z : Bool × (Nat → Int)} (h : AX w v n z) : AI w v n (vx z n) := h.ai
theorem from_zf (u : Value) (n : Nat) (d : Bool × (Nat → Int)) (w : World) (hu : AX w u n d) (hn : n ≤ 1000000) : Calls Tryd.prog 6 #[u] w (Zf w (vx d n) (2 * n)) := from_ax u n d w hu hn
theorem likeInt_ax (g h : Bool) (a b : Option Addr) (n c d : Nat) (x : Bool × (Nat → Int)) (w : World) (hs : AX w (.agg #[.bool g, .slice a n c]) n x) (ht : AX w (.agg #[.bool h, .slice b n d]) n x) (hn : n ≤ 1000000) :
    Calls Tryd.prog 24 #[.agg #[.bool g, .slice a n c], .agg #[.bool h, .slice b n d]] w fun e w' => e = .returned (.bool true) ∧ Below w.heap.size w w' := by
  obtain ⟨e1, _, _, h1⟩ := hs.open
  obtain ⟨e2, _, _, h2⟩ := ht.open
  subst e1 e2
  exact LikeInt_yes x.1 a b n c d x.2 w h1 h2 (by omega)

/-! ### For the laws -/
theorem heap_up {w w' : World} {b : Nat} {o : Obj} (h : w.heap[b]? = some o) (k : Below w.heap.size w w') : w'.heap[b]? = some o := (k.block b (Array.getElem?_eq_some_iff.1 h).1).trans h
/-- An integer in normal form, in memory of the call's own. -/
def NS (base : Nat) (W : World) (g : Bool) (a : Option Addr) (n c : Nat) (z : Int) : Prop := NI W (.agg #[.bool g, .slice a n c]) n z ∧ SpO base W g a n c
theorem NS.below {base : Nat} {w w' : World} {g : Bool} {a : Option Addr} {n c : Nat} {z : Int} (h : NS base w g a n c z) (k : Below w.heap.size w w') : NS base w' g a n c z := ⟨h.1.below k, h.2.below k⟩
theorem RI.ns {base B : Nat} {w : World} {g : Bool} {a : Option Addr} {n c : Nat} {z : Int} (h : RI w B (.agg #[.bool g, .slice a n c]) n z) (k : base ≤ B) : NS base w g a n c z := ⟨h.ni, h.spo.mono k⟩
/-- An integer in normal form, in a variable. -/
def NV (w : World) (b : Nat) (g : Bool) (a : Option Addr) (n c : Nat) (z : Int) : Prop :=
  w.cell? ⟨b, 0, none⟩ = some (.bool g) ∧ w.cell? ⟨b, 1, none⟩ = some (.slice a n c) ∧ b < w.heap.size ∧ NI w (.agg #[.bool g, .slice a n c]) n z
theorem NV.below {w w' : World} {b : Nat} {g : Bool} {a : Option Addr} {n c : Nat} {z : Int} (h : NV w b g a n c z) (k : Below w.heap.size w w') : NV w' b g a n c z :=
  ⟨bc k h.1, bc k h.2.1, Nat.lt_of_lt_of_le h.2.2.1 k.size, h.2.2.2.below k⟩
theorem NV.up {w w' : World} {b : Nat} {g : Bool} {a : Option Addr} {n c : Nat} {z : Int} (h : NV w b g a n c z) (k : Below w.heap.size w w') : NI w' (.agg #[.bool g, .slice a n c]) n z := h.2.2.2.below k
theorem NV.new {w : World} {g : Bool} {a : Option Addr} {n c : Nat} {z : Int} (h : NI w (.agg #[.bool g, .slice a n c]) n z) : NV (w.alloc (.cells #[.bool g, .slice a n c] 24)) w.heap.size g a n c z := by
  have e := _root_.Go.heap_alloc_new w (.cells #[.bool g, .slice a n c] 24)
  exact ⟨cell_of (i := 0) e rfl, cell_of (i := 1) e rfl, by simp, h.below (Below.one _ _)⟩
/-- What is left when some integers were spoilt. -/
def SpW (base : Nat) (w wr : World) : Prop := Kp w wr ∧ Below base w wr ∧ w.heap.size ≤ wr.heap.size ∧ ∀ b N x, Own w b N x → ∃ y, Own wr b N y
theorem SpW.refl (base : Nat) (w : World) : SpW base w w := ⟨Kp.refl w, Below.refl _ _, Nat.le_refl _, fun b N x h => ⟨x, h⟩⟩
theorem SpW.next {base : Nat} {w wr w' : World} {e : Ending} (h : SpW base w wr) (k : SpP base wr e w') : SpW base w w' :=
  ⟨h.1.trans k.2.1, h.2.1.trans k.2.2.1, Nat.le_trans h.2.2.1 k.2.2.2.1, fun b N x hx => let ⟨y, hy⟩ := h.2.2.2 b N x hx; k.2.2.2.2 b N y hy⟩
theorem SpO.keep {base : Nat} {w wr : World} {g : Bool} {a : Option Addr} {n c : Nat} (h : SpO base w g a n c) (k : SpW base w wr) : SpO base wr g a n c :=
  ⟨h.1, fun hn => let ⟨b, N, x, e, hb, hN, hO⟩ := h.2 hn; let ⟨y, hy⟩ := k.2.2.2 b N x hO; ⟨b, N, y, e, hb, hN, hy⟩⟩
end Go.Proofs.YtkhchaoehlefdaaDoor
