/- Integers that lie in variables: the base. -/
import Derived.RangeFuncRecord
import Derived.Deep.CutRange
import Derived.Test.YtkhchaoehlefdaaDoorEzD
set_option linter.unusedVariables false
set_option linter.unusedSimpArgs false
namespace Go.Proofs.YtkhchaoehlefdaaDoor
open Go.RowKit

/-- An integer in a variable. -/
def IV (w : World) (b : Nat) (g : Bool) (a : Option Addr) (n c : Nat) (z : Int) : Prop :=
  w.cell? ⟨b, 0, none⟩ = some (.bool g) ∧ w.cell? ⟨b, 1, none⟩ = some (.slice a n c) ∧ b < w.heap.size ∧ AI w (.agg #[.bool g, .slice a n c]) n z
theorem IV.below {w w' : World} {b : Nat} {g : Bool} {a : Option Addr} {n c : Nat} {z : Int} (h : IV w b g a n c z) (k : Below w.heap.size w w') : IV w' b g a n c z :=
  ⟨(k.cell (p := ⟨b, 0, none⟩) h.2.2.1).trans h.1, (k.cell (p := ⟨b, 1, none⟩) h.2.2.1).trans h.2.1, Nat.lt_of_lt_of_le h.2.2.1 k.size, h.2.2.2.below k⟩
theorem IV.up {w w' : World} {b : Nat} {g : Bool} {a : Option Addr} {n c : Nat} {z : Int} (h : IV w b g a n c z) (k : Below w.heap.size w w') : AI w' (.agg #[.bool g, .slice a n c]) n z := h.2.2.2.below k
theorem IV.new {w : World} {g : Bool} {a : Option Addr} {n c : Nat} {z : Int} (h : AI w (.agg #[.bool g, .slice a n c]) n z) : IV (w.alloc (.cells #[.bool g, .slice a n c] 24)) w.heap.size g a n c z := by
  have e := World.alloc_heap_new w (.cells #[.bool g, .slice a n c] 24)
  exact ⟨by unfold World.cell?; rw [e]; rfl, by unfold World.cell?; rw [e]; rfl, by simp, h.below ((Below.refl _ _).alloc (Nat.le_refl _) _)⟩
theorem IV.new' {w : World} {b : Nat} {g : Bool} {a : Option Addr} {n c : Nat} {z : Int} (h : AI w (.agg #[.bool g, .slice a n c]) n z) (hb : w.heap.size = b) : IV (w.alloc (.cells #[.bool g, .slice a n c] 24)) b g a n c z := hb ▸ IV.new h
theorem IV3a {w : World} {ga : Bool} {aa : Option Addr} {n ca : Nat} {p : Int} (ha : AI w (.agg #[.bool ga, .slice aa n ca]) n p) (gb gc : Bool) (ab ac : Option Addr) (m l cb cc : Nat) :
    IV (((w.alloc (.cells #[.bool ga, .slice aa n ca] 24)).alloc (.cells #[.bool gb, .slice ab m cb] 24)).alloc (.cells #[.bool gc, .slice ac l cc] 24)) w.heap.size ga aa n ca p :=
  ((IV.new ha).below ((Below.refl _ _).alloc (Nat.le_refl _) _)).below ((Below.refl _ _).alloc (Nat.le_refl _) _)
theorem IV3b {w : World} {gb : Bool} {ab : Option Addr} {m cb : Nat} {q : Int} (hb : AI w (.agg #[.bool gb, .slice ab m cb]) m q) (ga gc : Bool) (aa ac : Option Addr) (n l ca cc : Nat) :
    IV (((w.alloc (.cells #[.bool ga, .slice aa n ca] 24)).alloc (.cells #[.bool gb, .slice ab m cb] 24)).alloc (.cells #[.bool gc, .slice ac l cc] 24)) (w.heap.size + 1) gb ab m cb q :=
  (IV.new' (hb.below ((Below.refl _ _).alloc (Nat.le_refl _) _)) (by simp)).below ((Below.refl _ _).alloc (Nat.le_refl _) _)
theorem IV3c {w : World} {gc : Bool} {ac : Option Addr} {l cc : Nat} {r : Int} (hc : AI w (.agg #[.bool gc, .slice ac l cc]) l r) (ga gb : Bool) (aa ab : Option Addr) (n m ca cb : Nat) :
    IV (((w.alloc (.cells #[.bool ga, .slice aa n ca] 24)).alloc (.cells #[.bool gb, .slice ab m cb] 24)).alloc (.cells #[.bool gc, .slice ac l cc] 24)) (w.heap.size + 1 + 1) gc ac l cc r :=
  IV.new' ((hc.below ((Below.refl _ _).alloc (Nat.le_refl _) _)).below ((Below.refl _ _).alloc (Nat.le_refl _) _)) (by simp)
theorem Below.alloc' {u v : World} (h : Below u.heap.size u v) (o : Obj) : Below u.heap.size u (v.alloc o) := h.alloc h.size o
theorem Below.drew' {u v : World} (h : Below u.heap.size u v) : Below u.heap.size u v.drew := Below.drew h
/-- A variable of a struct of two fields, of whatever it holds. -/
def Box2 (w : World) (b : Nat) : Prop := ∃ g a n c, w.heap[b]? = some (.cells #[.bool g, .slice a n c] 24 (0, 0))
theorem Box2.new (w : World) (g : Bool) (a : Option Addr) (n c : Nat) : Box2 (w.alloc (.cells #[.bool g, .slice a n c] 24)) w.heap.size := ⟨g, a, n, c, World.alloc_heap_new w _⟩
theorem Box2.lt {w : World} {b : Nat} (h : Box2 w b) : b < w.heap.size := by
  obtain ⟨g, a, n, c, e⟩ := h
  exact (Array.getElem?_eq_some_iff.1 e).1
theorem Box2.below {w w' : World} {b : Nat} (h : Box2 w b) (k : Below w.heap.size w w') : Box2 w' b := by
  have hl := h.lt
  obtain ⟨g, a, n, c, e⟩ := h
  exact ⟨g, a, n, c, (k.block b hl).trans e⟩
theorem Box2.alloc {w : World} {b : Nat} (h : Box2 w b) (o : Obj) : Box2 (w.alloc o) b := h.below ((Below.refl _ _).alloc (Nat.le_refl _) _)
theorem Box2.other {w : World} {b : Nat} (h : Box2 w b) {p : Addr} (hp : p.block ≠ b) (v : Value) : Box2 (w.setCell p v) b := by
  obtain ⟨g, a, n, c, e⟩ := h
  exact ⟨g, a, n, c, (Below.heap_setCell _ _ _ _ (Ne.symm hp)).trans e⟩
/-- Words lie in no such variable. -/
theorem Box2.row {w : World} {b : Nat} (h : Box2 w b) {b' off n : Nat} {x : Nat → Int} (hr : Row w b' off n x) (hn : 0 < n) : b' ≠ b := by
  obtain ⟨g, a, m, c, e⟩ := h
  intro hb
  subst hb
  have h0 := hr 0 hn
  unfold World.cell? at h0
  rw [show w.heap[(⟨b', off + 0, none⟩ : Addr).block]? = _ from e] at h0
  match off, h0 with
  | 0, h0 => cases h0
  | 1, h0 => cases h0
  | k + 2, h0 => simp at h0
theorem Box2.set0 {w : World} {b : Nat} (h : Box2 w b) (g' : Bool) : Box2 (w.setCell ⟨b, 0, none⟩ (.bool g')) b := by
  obtain ⟨g, a, n, c, e⟩ := h
  exact ⟨g', a, n, c, heap_set e _⟩
theorem AI.put {w : World} {b : Nat} (h : Box2 w b) {v : Value} {n : Nat} {z : Int} (k : AI w v n z) {p : Addr} (hp : p.block = b) (u : Value) : AI (w.setCell p u) v n z := by
  obtain ⟨ng, a, cap, x, e, hc, hd, hs, hz⟩ := k
  refine ⟨ng, a, cap, x, e, hc, hd, fun hn => ?_, hz⟩
  obtain ⟨b', off, ea, hr⟩ := hs hn
  exact ⟨b', off, ea, hr.setOther (by rw [hp]; exact Ne.symm (h.row hr hn)) u⟩
theorem IV.put {w : World} {b : Nat} {g : Bool} {a : Option Addr} {n c : Nat} {z : Int} (h : Box2 w b) (k : AI w (.agg #[.bool g, .slice a n c]) n z) :
    IV ((w.setCell ⟨b, 0, none⟩ (.bool g)).setCell ⟨b, 1, none⟩ (.slice a n c)) b g a n c z := by
  have k1 := AI.put h k (p := ⟨b, 0, none⟩) rfl (.bool g)
  have k2 := AI.put (h.set0 g) k1 (p := ⟨b, 1, none⟩) rfl (.slice a n c)
  have hl := h.lt
  obtain ⟨g', a', n', c', e⟩ := h
  have e2 := heap_set (i := 1) (heap_set (i := 0) e (.bool g)) (.slice a n c)
  exact ⟨by unfold World.cell?; rw [e2]; rfl, by unfold World.cell?; rw [e2]; rfl, by simpa [World.setCell] using hl, k2⟩
theorem IV.keep {w : World} {b b2 : Nat} {g : Bool} {a : Option Addr} {n c : Nat} {z : Int} (k : IV w b g a n c z) (h : Box2 w b2) (hb : b ≠ b2) {p : Addr} (hp : p.block = b2) (u : Value) : IV (w.setCell p u) b g a n c z := by
  obtain ⟨k1, k2, k3, k4⟩ := k
  have e : (w.setCell p u).heap[b]? = w.heap[b]? := Below.heap_setCell _ _ _ _ (by rw [hp]; exact hb)
  exact ⟨(World.cell?_of_block e).trans k1, (World.cell?_of_block e).trans k2, by simpa [World.setCell] using k3, AI.put h k4 hp u⟩
theorem Box2.open {w : World} {b : Nat} (h : Box2 w b) : ∃ u v, w.cell? ⟨b, 0, none⟩ = some u ∧ w.cell? ⟨b, 1, none⟩ = some v ∧ w.frozen? ⟨b, 0, none⟩ = false ∧ w.frozen? ⟨b, 1, none⟩ = false := by
  obtain ⟨g, a, n, c, e⟩ := h
  exact ⟨.bool g, .slice a n c, by unfold World.cell?; rw [e]; rfl, by unfold World.cell?; rw [e]; rfl, by simp [World.frozen?, e], by simp [World.frozen?, e]⟩
theorem Box2.new1 (w : World) (o : Obj) (g : Bool) (a : Option Addr) (n c : Nat) : Box2 ((w.alloc o).alloc (.cells #[.bool g, .slice a n c] 24)) (w.heap.size + 1) := by
  have h := Box2.new (w.alloc o) g a n c
  rwa [World.size_alloc] at h
theorem Box2.drew {w : World} {b : Nat} (h : Box2 w b) : Box2 w.drew b := h
theorem Below.set' {u v : World} {p : Addr} (h : Below u.heap.size u v) (hp : u.heap.size ≤ p.block) (x : Value) : Below u.heap.size u (v.setCell p x) := h.setCell hp x
theorem IV.alloc {w : World} {b : Nat} {g : Bool} {a : Option Addr} {n c : Nat} {z : Int} (h : IV w b g a n c z) (o : Obj) : IV (w.alloc o) b g a n c z := h.below ((Below.refl _ _).alloc (Nat.le_refl _) _)
theorem AI.alloc {w : World} {v : Value} {n : Nat} {z : Int} (h : AI w v n z) (o : Obj) : AI (w.alloc o) v n z := h.below ((Below.refl _ _).alloc (Nat.le_refl _) _)
theorem AI.set {w : World} {b i : Nat} {v : Value} {n : Nat} {z : Int} (k : AI w v n z) (h : Box2 w b) {u : Value} : AI (w.setCell ⟨b, i, none⟩ u) v n z := AI.put h k rfl u
theorem IV.keep' {w : World} {b b2 i : Nat} {g : Bool} {a : Option Addr} {n c : Nat} {z : Int} (k : IV w b g a n c z) (h : Box2 w b2) (hb : b ≠ b2) {u : Value} : IV (w.setCell ⟨b2, i, none⟩ u) b g a n c z := IV.keep k h hb rfl u
theorem Box2.set1 {w : World} {b : Nat} (h : Box2 w b) (a' : Option Addr) (n' c' : Nat) : Box2 (w.setCell ⟨b, 1, none⟩ (.slice a' n' c')) b := by
  obtain ⟨g, a, n, c, e⟩ := h
  exact ⟨g, a', n', c', heap_set e _⟩
theorem Box2.other' {w : World} {b b2 i : Nat} (h : Box2 w b) (hp : b2 ≠ b) {v : Value} : Box2 (w.setCell ⟨b2, i, none⟩ v) b := h.other (p := ⟨b2, i, none⟩) hp v
theorem absorb {a b : Prop} (h : a) (k : a → b) : b := k h
/-- A world may be forgotten but for what is known of it. -/
theorem wp_at {P : Program} {c : Code} {Q : Exit → Act → World → Prop} {a : Act} {w : World} (F : World → Prop) (h : F w) (k : ∀ w', F w' → c.wp P Q a w') : c.wp P Q a w := k w h
theorem calls_at {P : Program} {f : FuncId} {args : Array Value} {Q : Ending → World → Prop} {w : World} (F : World → Prop) (h : F w) (k : ∀ w', F w' → Calls P f args w' Q) : Calls P f args w Q := k w h
end Go.Proofs.YtkhchaoehlefdaaDoor
