/- Integers as they are, in variables; contracts: SameWords, SameInt, LikeInt, spoil. -/
import Derived.Test.YtkhchaoehlefdaaDoorZaJ
import Derived.Test.YtkhchaoehlefdaaDoorFaL
set_option linter.unusedVariables false
set_option linter.unusedSimpArgs false
set_option maxRecDepth 100000
namespace Go.Proofs.YtkhchaoehlefdaaDoor
open Go.RowKit

/-- An integer as it is: its sign and its words. -/
def AX (w : World) (v : Value) (n : Nat) (z : Bool × (Nat → Int)) : Prop := ∃ a cap, v = .agg #[.bool z.1, .slice a n cap] ∧ n ≤ cap ∧ Dg z.2 ∧ Sl w a n z.2
theorem AX.ai {w : World} {v : Value} {n : Nat} {z : Bool × (Nat → Int)} (h : AX w v n z) : AI w v n (sg z.1 (V z.2 n)) := by
  obtain ⟨a, cap, h1, h2, h3, h4⟩ := h
  exact ⟨_, a, cap, _, h1, h2, h3, h4, rfl⟩
theorem AI.ax {w : World} {v : Value} {n : Nat} {z : Int} (h : AI w v n z) : ∃ d, AX w v n d ∧ z = sg d.1 (V d.2 n) := by
  obtain ⟨ng, a, cap, x, h1, h2, h3, h4, h5⟩ := h
  exact ⟨(ng, x), ⟨a, cap, h1, h2, h3, h4⟩, h5⟩
theorem AX.below {w w' : World} {v : Value} {n : Nat} {z : Bool × (Nat → Int)} (h : AX w v n z) (k : Below w.heap.size w w') : AX w' v n z := by
  obtain ⟨a, cap, h1, h2, h3, h4⟩ := h
  exact ⟨a, cap, h1, h2, h3, h4.below k⟩
theorem AX.form {w : World} {v : Value} {n : Nat} {z : Bool × (Nat → Int)} (h : AX w v n z) : ∃ a c, v = .agg #[.bool z.1, .slice a n c] := by
  obtain ⟨a, c, rfl, _⟩ := h
  exact ⟨a, c, rfl⟩
theorem AX.open {w : World} {g : Bool} {a : Option Addr} {n c : Nat} {z : Bool × (Nat → Int)} (h : AX w (.agg #[.bool g, .slice a n c]) n z) : g = z.1 ∧ n ≤ c ∧ Dg z.2 ∧ Sl w a n z.2 := by
  obtain ⟨a', c', e, h2, h3, h4⟩ := h
  simp only [Value.agg.injEq, Array.mk.injEq, List.cons.injEq, Value.bool.injEq, Value.slice.injEq, and_true, true_and] at e
  obtain ⟨e1, e2, e3⟩ := e
  subst e2 e3
  exact ⟨e1, h2, h3, h4⟩
theorem AX.put {w : World} {b : Nat} (h : Box2 w b) {v : Value} {n : Nat} {z : Bool × (Nat → Int)} (k : AX w v n z) {p : Addr} (hp : p.block = b) (u : Value) : AX (w.setCell p u) v n z := by
  obtain ⟨a, cap, e, hc, hd, hs⟩ := k
  refine ⟨a, cap, e, hc, hd, fun hn => ?_⟩
  obtain ⟨b', off, ea, hr⟩ := hs hn
  exact ⟨b', off, ea, hr.setOther (by rw [hp]; exact Ne.symm (h.row hr hn)) u⟩
/-- An integer as it is, in a variable. -/
def LV (w : World) (b : Nat) (g : Bool) (a : Option Addr) (n c : Nat) (z : Bool × (Nat → Int)) : Prop :=
  w.cell? ⟨b, 0, none⟩ = some (.bool g) ∧ w.cell? ⟨b, 1, none⟩ = some (.slice a n c) ∧ b < w.heap.size ∧ AX w (.agg #[.bool g, .slice a n c]) n z
theorem LV.below {w w' : World} {b : Nat} {g : Bool} {a : Option Addr} {n c : Nat} {z : Bool × (Nat → Int)} (h : LV w b g a n c z) (k : Below w.heap.size w w') : LV w' b g a n c z :=
  ⟨(k.cell (p := ⟨b, 0, none⟩) h.2.2.1).trans h.1, (k.cell (p := ⟨b, 1, none⟩) h.2.2.1).trans h.2.1, Nat.lt_of_lt_of_le h.2.2.1 k.size, h.2.2.2.below k⟩
theorem LV.up {w w' : World} {b : Nat} {g : Bool} {a : Option Addr} {n c : Nat} {z : Bool × (Nat → Int)} (h : LV w b g a n c z) (k : Below w.heap.size w w') : AX w' (.agg #[.bool g, .slice a n c]) n z := h.2.2.2.below k
theorem LV.new {w : World} {g : Bool} {a : Option Addr} {n c : Nat} {z : Bool × (Nat → Int)} (h : AX w (.agg #[.bool g, .slice a n c]) n z) : LV (w.alloc (.cells #[.bool g, .slice a n c] 24)) w.heap.size g a n c z := by
  have e := World.alloc_heap_new w (.cells #[.bool g, .slice a n c] 24)
  exact ⟨by unfold World.cell?; rw [e]; rfl, by unfold World.cell?; rw [e]; rfl, by simp, h.below ((Below.refl _ _).alloc (Nat.le_refl _) _)⟩
theorem LV.new' {w : World} {b : Nat} {g : Bool} {a : Option Addr} {n c : Nat} {z : Bool × (Nat → Int)} (h : AX w (.agg #[.bool g, .slice a n c]) n z) (hb : w.heap.size = b) : LV (w.alloc (.cells #[.bool g, .slice a n c] 24)) b g a n c z := hb ▸ LV.new h
theorem LV.put {w : World} {b : Nat} {g : Bool} {a : Option Addr} {n c : Nat} {z : Bool × (Nat → Int)} (h : Box2 w b) (k : AX w (.agg #[.bool g, .slice a n c]) n z) :
    LV ((w.setCell ⟨b, 0, none⟩ (.bool g)).setCell ⟨b, 1, none⟩ (.slice a n c)) b g a n c z := by
  have k1 := AX.put h k (p := ⟨b, 0, none⟩) rfl (.bool g)
  have k2 := AX.put (h.set0 g) k1 (p := ⟨b, 1, none⟩) rfl (.slice a n c)
  have hl := h.lt
  obtain ⟨g', a', n', c', e⟩ := h
  have e2 := heap_set (i := 1) (heap_set (i := 0) e (.bool g)) (.slice a n c)
  exact ⟨by unfold World.cell?; rw [e2]; rfl, by unfold World.cell?; rw [e2]; rfl, by simpa [World.setCell] using hl, k2⟩
theorem LV.keep {w : World} {b b2 : Nat} {g : Bool} {a : Option Addr} {n c : Nat} {z : Bool × (Nat → Int)} (k : LV w b g a n c z) (h : Box2 w b2) (hb : b ≠ b2) {p : Addr} (hp : p.block = b2) (u : Value) : LV (w.setCell p u) b g a n c z := by
  obtain ⟨k1, k2, k3, k4⟩ := k
  have e : (w.setCell p u).heap[b]? = w.heap[b]? := Below.heap_setCell _ _ _ _ (by rw [hp]; exact hb)
  exact ⟨(World.cell?_of_block e).trans k1, (World.cell?_of_block e).trans k2, by simpa [World.setCell] using k3, AX.put h k4 hp u⟩
theorem LV.alloc {w : World} {b : Nat} {g : Bool} {a : Option Addr} {n c : Nat} {z : Bool × (Nat → Int)} (h : LV w b g a n c z) (o : Obj) : LV (w.alloc o) b g a n c z := h.below ((Below.refl _ _).alloc (Nat.le_refl _) _)
theorem AX.alloc {w : World} {v : Value} {n : Nat} {z : Bool × (Nat → Int)} (h : AX w v n z) (o : Obj) : AX (w.alloc o) v n z := h.below ((Below.refl _ _).alloc (Nat.le_refl _) _)
theorem AX.set {w : World} {b i : Nat} {v : Value} {n : Nat} {z : Bool × (Nat → Int)} (k : AX w v n z) (h : Box2 w b) {u : Value} : AX (w.setCell ⟨b, i, none⟩ u) v n z := AX.put h k rfl u
theorem LV.keep' {w : World} {b b2 i : Nat} {g : Bool} {a : Option Addr} {n c : Nat} {z : Bool × (Nat → Int)} (k : LV w b g a n c z) (h : Box2 w b2) (hb : b ≠ b2) {u : Value} : LV (w.setCell ⟨b2, i, none⟩ u) b g a n c z := LV.keep k h hb rfl u
theorem BoxZ.alloc {w : World} {b : Nat} (h : BoxZ w b) (o : Obj) : BoxZ (w.alloc o) b := h.below ((Below.refl _ _).alloc (Nat.le_refl _) _)
theorem BoxZ.other {w : World} {b : Nat} (h : BoxZ w b) {p : Addr} (hp : p.block ≠ b) (v : Value) : BoxZ (w.setCell p v) b := by
  obtain ⟨g, a, n, c, e⟩ := h
  exact ⟨g, a, n, c, (Below.heap_setCell _ _ _ _ (Ne.symm hp)).trans e⟩
theorem BoxZ.set1 {w : World} {b : Nat} (h : BoxZ w b) (a' : Option Addr) (n' c' : Nat) : BoxZ (w.setCell ⟨b, 1, none⟩ (.slice a' n' c')) b := by
  obtain ⟨g, a, n, c, e⟩ := h
  exact ⟨g, a', n', c', heap_set2 e _⟩
theorem BoxZ.other' {w : World} {b b2 i : Nat} (h : BoxZ w b) (hp : b2 ≠ b) {v : Value} : BoxZ (w.setCell ⟨b2, i, none⟩ v) b := h.other (p := ⟨b2, i, none⟩) hp v
theorem BoxZ.new1 (w : World) (o : Obj) (g : Bool) (a : Option Addr) (n c : Nat) : BoxZ ((w.alloc o).alloc (.cells #[.bool g, .slice a n c] 28)) (w.heap.size + 1) := by
  have h := BoxZ.new (w.alloc o) g a n c
  rwa [World.size_alloc] at h
theorem BoxZ.drew {w : World} {b : Nat} (h : BoxZ w b) : BoxZ w.drew b := h
theorem ZV.keep {w : World} {b b2 : Nat} {g : Bool} {a : Option Addr} {n c : Nat} {z : Int} (k : ZV w b g a n c z) (h : BoxZ w b2) (hb : b ≠ b2) {p : Addr} (hp : p.block = b2) (u : Value) : ZV (w.setCell p u) b g a n c z := by
  obtain ⟨k1, k2, k3, k4⟩ := k
  have e : (w.setCell p u).heap[b]? = w.heap[b]? := Below.heap_setCell _ _ _ _ (by rw [hp]; exact hb)
  exact ⟨(World.cell?_of_block e).trans k1, (World.cell?_of_block e).trans k2, by simpa [World.setCell] using k3, ZI.put h k4 hp u⟩
theorem ZV.alloc {w : World} {b : Nat} {g : Bool} {a : Option Addr} {n c : Nat} {z : Int} (h : ZV w b g a n c z) (o : Obj) : ZV (w.alloc o) b g a n c z := h.below ((Below.refl _ _).alloc (Nat.le_refl _) _)
theorem ZI.alloc {w : World} {v : Value} {n : Nat} {z : Int} (h : ZI w v n z) (o : Obj) : ZI (w.alloc o) v n z := h.below ((Below.refl _ _).alloc (Nat.le_refl _) _)
theorem ZI.set {w : World} {b i : Nat} {v : Value} {n : Nat} {z : Int} (k : ZI w v n z) (h : BoxZ w b) {u : Value} : ZI (w.setCell ⟨b, i, none⟩ u) v n z := ZI.put h k rfl u
theorem ZV.keep' {w : World} {b b2 i : Nat} {g : Bool} {a : Option Addr} {n c : Nat} {z : Int} (k : ZV w b g a n c z) (h : BoxZ w b2) (hb : b ≠ b2) {u : Value} : ZV (w.setCell ⟨b2, i, none⟩ u) b g a n c z := ZV.keep k h hb rfl u
/-- Rows of numbers are not where words' variables are. -/
theorem ZI.put2 {w : World} {b : Nat} (h : Box2 w b) {v : Value} {n : Nat} {z : Int} (k : ZI w v n z) {p : Addr} (hp : p.block = b) (u : Value) : ZI (w.setCell p u) v n z := by
  obtain ⟨a, c, l, h1, h2, ⟨a', cap, e, hc, hb, hx⟩, h4⟩ := k
  refine ⟨a, c, l, h1, h2, ⟨a', cap, e, hc, hb, fun h0 => ?_⟩, h4⟩
  obtain ⟨b', off, rfl, h2⟩ := hx h0
  refine ⟨b', off, rfl, fun j hj => ?_⟩
  have hr := h2 j hj
  have hne : b' ≠ b := by
    obtain ⟨g, a, m, c, e⟩ := h
    intro hb
    subst hb
    unfold World.cell? at hr
    rw [show w.heap[(⟨b', off + j, none⟩ : Addr).block]? = _ from e] at hr
    match off + j, hr with
    | 0, h0 => cases h0
    | 1, h0 => cases h0
    | k + 2, h0 => simp at h0
  have e : (w.setCell p u).heap[b']? = w.heap[b']? := Below.heap_setCell _ _ _ _ (by rw [hp]; exact hne)
  exact (World.cell?_of_block e).trans hr

/-! ### Same words -/
set_option maxHeartbeats 800000 in
theorem SameWords_yes (a b : Option Addr) (n c d : Nat) (x y : Nat → Int) (w : World) (hx : Sl w a n x) (hy : Sl w b n y) (he : ∀ j, j < n → x j = y j) (hn : n ≤ 1000000000) :
    Calls Tryd.prog 53 #[.slice a n c, .slice b n d] w fun e w' => e = .returned (.bool true) ∧ ∃ m, w' = w.drewN m := by
  have HX := Lib.hid hx
  have HY := Lib.hid hy
  have HE := Lib.hid he
  clear hx hy he
  go_enter Tryd.func53, Tryd.ntmps53
  go_wp2_with fail
  go_loopw [5] (fun i wr => ∃ k m : Nat, k ≤ n ∧ i = .int .i64 k ∧ wr = w.drewN m) (fun i _ => n - (intOf i).toNat)
  case atStart => exact ⟨0, 0, by omega, rfl, rfl⟩
  case round =>
    obtain ⟨k, m, hk, rfl, rfl⟩ := hrel
    by_cases hlt : k < n
    · obtain ⟨b1, o1, rfl, r1⟩ := HX.out (by omega)
      obtain ⟨b2, o2, rfl, r2⟩ := HY.out (by omega)
      have c1 : w.cell? ⟨b1, o1 + k, none⟩ = some (.int .u32 (x k)) := r1 k hlt
      have c2 : w.cell? ⟨b2, o2 + k, none⟩ = some (.int .u32 (x k)) := by rw [HE.out k hlt]; exact r2 k hlt
      clear r1 r2 HX HY HE
      generalize x k = xk at *
      have q1 : (k : Int) < (n : Int) := by omega
      have q2 : (0 : Int) ≤ (k : Int) := by omega
      have q3 : ((k : Int)).toNat = k := rfl
      go_wp2_with fail
      go_quiet (fail)
      clear q1 q2 q3 c1 c2
      go_wp2_with fail
      go_roundw
      case rel => exact ⟨k + 1, m + nq, by omega, by go_num, rfl⟩
      case measure => simp [intOf] <;> omega
    · obtain rfl : k = n := by omega
      clear HX HY HE
      go_wp2_with fail
      go_ret
      exact ⟨rfl, m, rfl⟩

/-- Normal forms of one number have the same words. -/
theorem nr_words {x y : Nat → Int} {n m : Nat} (hx : Dg x) (hy : Dg y) (tx : 0 < n → x (n - 1) ≠ 0) (ty : 0 < m → y (m - 1) ≠ 0) (e : V x n = V y m) : n = m ∧ ∀ j, j < n → x j = y j := by
  have h1 := len_le hx tx (k := m) (by rw [e]; exact V_lt hy m)
  have h2 := len_le hy ty (k := n) (by rw [← e]; exact V_lt hx n)
  obtain rfl : n = m := by omega
  exact ⟨rfl, V_inj hx hy e⟩
theorem NI.open {w : World} {g : Bool} {a : Option Addr} {n c : Nat} {z : Int} (h : NI w (.agg #[.bool g, .slice a n c]) n z) : g = decide (z < 0) ∧ n ≤ c ∧ ∃ x, Dg x ∧ Sl w a n x ∧ (0 < n → x (n - 1) ≠ 0) ∧ V x n = (z.natAbs : Int) := by
  obtain ⟨u, e, a', c', x, rfl, h2, h3, h4, h5, h6⟩ := h
  simp only [Value.agg.injEq, Array.mk.injEq, List.cons.injEq, Value.bool.injEq, Value.slice.injEq, and_true, true_and] at e
  obtain ⟨e1, e2, e3⟩ := e
  subst e2 e3
  exact ⟨e1, h2, x, h3, h4, h5, h6⟩

set_option maxHeartbeats 1600000 in
theorem SameInt_yes (g h : Bool) (a b : Option Addr) (n m c d : Nat) (z : Int) (w : World) (ha : NI w (.agg #[.bool g, .slice a n c]) n z) (hb : ZI w (.agg #[.bool h, .slice b m d]) m z) (hn : n ≤ 1000000000) (hm : m ≤ 100000000) :
    Calls Tryd.prog 18 #[.agg #[.bool g, .slice a n c], .agg #[.bool h, .slice b m d]] w fun e w' => e = .returned (.bool true) ∧ Below w.heap.size w w' := by
  obtain ⟨hg, hc, x, hx, hs, ht, hv⟩ := ha.open
  have HB := Lib.hid (fun w' (k : Below w.heap.size w w') => zInt_any h b m d z w' (hb.below k) hm)
  have HS := Lib.hid (fun w' (k : Below w.heap.size w w') => sl_below hs k)
  have HG := Lib.hid hg
  have HX := Lib.hid hx
  have HT := Lib.hid ht
  have HV := Lib.hid hv
  clear hg hx hs ht hv ha hb
  have A0 := cell_of (i := 0) (_root_.Go.heap_alloc_new w (.cells #[.bool g, .slice a n c] 24)) rfl
  have A1 := cell_of (i := 1) (_root_.Go.heap_alloc_new w (.cells #[.bool g, .slice a n c] 24)) rfl
  have K := Lib.hid (fun w' (k : Below ((w.alloc (.cells #[.bool g, .slice a n c] 24)).alloc (.cells #[.bool h, .slice b m d] 28)).heap.size ((w.alloc (.cells #[.bool g, .slice a n c] 24)).alloc (.cells #[.bool h, .slice b m d] 28)) w') =>
    And.intro (bc (Below.up (Below.one (w.alloc (.cells #[.bool g, .slice a n c] 24)) _) k) A0) (bc (Below.up (Below.one (w.alloc (.cells #[.bool g, .slice a n c] 24)) _) k) A1))
  clear A0 A1
  go_enter Tryd.func18, Tryd.ntmps18
  go_wp2_with fail
  refine (HB.out _ (Below.two _ _ _)).mono ?_
  rintro e w1 ⟨g1, a1, c1, k1, rfl, hR, hk1, hB⟩
  obtain ⟨hg1, hc1, y, hy, hs1, ht1, hv1⟩ := hR.open
  obtain ⟨he, hw⟩ := nr_words HX.out hy HT.out ht1 (by rw [HV.out, hv1])
  subst he
  have hgg : g1 = g := by rw [hg1, HG.out]
  subst hgg
  have BT := Lib.hid (Below.up (Below.two w (.cells #[.bool g1, .slice a n c] 24) (.cells #[.bool h, .slice b m d] 28)) hB)
  have hB3 : Below w1.heap.size w1 (w1.alloc (.cells #[.bool g1, .slice a1 n c1] 24)) := Below.one _ _
  obtain ⟨ka0, ka1⟩ := K.out _ (Below.up hB hB3)
  have SW := Lib.hid (SameWords_yes a a1 n c c1 x y (w1.alloc (.cells #[.bool g1, .slice a1 n c1] 24)) (HS.out _ (Below.up BT.out hB3)) (sl_below hs1 hB3) hw hn)
  have B3 := Lib.hid (Below.up BT.out hB3)
  have hgg : (g1 == g1) = true := by simp
  clear hR hg1 hy hs1 ht1 hv1 hw hB hB3 BT K HB HS HX HT HV HG
  go_wp2_with (go_at_call 53; ((with_reducible refine SW.out.mono ?_); rintro e w' ⟨rfl, mq, rfl⟩))
  go_ret
  exact ⟨rfl, below_drewN B3.out _⟩

set_option maxHeartbeats 1600000 in
theorem LikeInt_yes (g : Bool) (a b : Option Addr) (n c d : Nat) (x : Nat → Int) (w : World) (hs : Sl w a n x) (ht : Sl w b n x) (hn : n ≤ 1000000000) :
    Calls Tryd.prog 24 #[.agg #[.bool g, .slice a n c], .agg #[.bool g, .slice b n d]] w fun e w' => e = .returned (.bool true) ∧ Below w.heap.size w w' := by
  have SW := Lib.hid (SameWords_yes a b n c d x x ((w.alloc (.cells #[.bool g, .slice a n c] 24)).alloc (.cells #[.bool g, .slice b n d] 24)) (sl_below hs (Below.two _ _ _)) (sl_below ht (Below.two _ _ _)) (fun _ _ => rfl) hn)
  have hgg : (g == g) = true := by simp
  clear hs ht
  go_enter Tryd.func24, Tryd.ntmps24
  go_wp2_with (go_at_call 53; ((with_reducible refine SW.out.mono ?_); rintro e w' ⟨rfl, mq, rfl⟩))
  go_ret
  exact ⟨rfl, below_drewN (Below.two _ _ _) _⟩

/-- own, of an integer as it is. -/
def AXf (w : World) (n : Nat) (d : Bool × (Nat → Int)) (e : Ending) (w' : World) : Prop := ∃ g a c k, e = .returned (.agg #[.bool g, .slice a k c]) ∧ AX w' (.agg #[.bool g, .slice a k c]) k d ∧ k = n ∧ Below w.heap.size w w'
theorem own_ax (u : Value) (n : Nat) (d : Bool × (Nat → Int)) (w : World) (hu : AX w u n d) (hn : n ≤ 1000000) :
    Calls Tryd.prog 5 #[u] w (AXf w n d) := by
  obtain ⟨a, c, rfl, hc, hd, hs⟩ := hu
  refine (own_like d.1 a n c d.2 w hc hd hs hn).mono ?_
  rintro e w' ⟨b, rfl, h1, h2, h3, h4⟩
  exact ⟨d.1, _, _, n, rfl, ⟨_, _, rfl, by omega, hd, fun _ => ⟨_, _, rfl, h2⟩⟩, rfl, h3⟩
theorem from_ax (u : Value) (n : Nat) (d : Bool × (Nat → Int)) (w : World) (hu : AX w u n d) (hn : n ≤ 1000000) :
    Calls Tryd.prog 6 #[u] w (Zf w (sg d.1 (V d.2 n)) (2 * n)) := by
  obtain ⟨a, c, rfl, hc, hd, hs⟩ := hu
  exact zFrom_any d.1 a n c d.2 w hc hd hs (by omega)

/-! ### spoil -/
/-- What is no word stays. -/
def Kp (w w' : World) : Prop := ∀ b o v, (∀ z, v ≠ .int .u32 z) → w.cell? ⟨b, o, none⟩ = some v → w'.cell? ⟨b, o, none⟩ = some v
theorem Kp.refl (w : World) : Kp w w := fun _ _ _ _ h => h
theorem Kp.trans {u v w : World} (h : Kp u v) (k : Kp v w) : Kp u w := fun b o x hx hc => k b o x hx (h b o x hx hc)
theorem Kp.below {w w' : World} (h : Below w.heap.size w w') : Kp w w' := fun _ _ _ _ hc => bc h hc
theorem Own.kp {w : World} {b N j : Nat} {x : Nat → Int} (h : Own w b N x) (v : Value) : Kp w (w.setCell ⟨b, j, none⟩ v) := fun b' o u hu hc => by
  by_cases e : b' = b
  · subst e
    obtain ⟨C, h1, h2, h3⟩ := h
    exfalso
    unfold World.cell? at hc
    rw [show w.heap[(⟨b', o, none⟩ : Addr).block]? = _ from h1] at hc
    by_cases ho : o < N
    · have := h3 o ho
      simp only at hc
      rw [this] at hc
      exact hu _ (Option.some.inj hc).symm
    · simp [h2, ho] at hc
  · exact (World.cell?_of_block (Below.heap_setCell _ _ _ _ e)).trans hc
theorem Kp.ins {w w' : World} (h : Kp w w') {v : Value} {l : List Int} (k : InS w v l) : InS w' v l := by
  obtain ⟨a, cap, rfl, hc, hb, hx⟩ := k
  refine ⟨a, cap, rfl, hc, hb, fun h0 => ?_⟩
  obtain ⟨b, off, rfl, h2⟩ := hx h0
  exact ⟨b, off, rfl, fun j hj => h _ _ _ (fun z => by simp) (h2 j hj)⟩
theorem Kp.zi {w w' : World} (h : Kp w w') {v : Value} {n : Nat} {z : Int} (k : ZI w v n z) : ZI w' v n z := by
  obtain ⟨a, c, l, h1, h2, h3, h4⟩ := k
  exact ⟨a, c, l, h1, h2, h.ins h3, h4⟩
/-- An integer whose words lie in a block of the call's own, from base on. -/
def SpO (base : Nat) (w : World) (g : Bool) (a : Option Addr) (n c : Nat) : Prop := n ≤ c ∧ (0 < n → ∃ b N x, a = some ⟨b, 0, none⟩ ∧ base ≤ b ∧ n ≤ N ∧ Own w b N x)
theorem RI.spo {w : World} {base : Nat} {g : Bool} {a : Option Addr} {n c : Nat} {z : Int} (h : RI w base (.agg #[.bool g, .slice a n c]) n z) : SpO base w g a n c := by
  obtain ⟨u, e, x, ⟨a', c', rfl, h2, h3, h4⟩, h5⟩ := h
  simp only [Value.agg.injEq, Array.mk.injEq, List.cons.injEq, Value.bool.injEq, Value.slice.injEq, and_true, true_and] at e
  obtain ⟨e1, e2, e3⟩ := e
  subst e2 e3
  exact ⟨h2, fun hn => let ⟨b, N, e, hb, hN, hO⟩ := h4 hn; ⟨b, N, x, e, hb, hN, hO⟩⟩
theorem SpO.below {base : Nat} {w w' : World} {g : Bool} {a : Option Addr} {n c : Nat} (h : SpO base w g a n c) (k : Below w.heap.size w w') : SpO base w' g a n c :=
  ⟨h.1, fun hn => let ⟨b, N, x, e, hb, hN, hO⟩ := h.2 hn; ⟨b, N, x, e, hb, hN, hO.below k hO.lt⟩⟩
theorem SpO.mono {base B : Nat} {w : World} {g : Bool} {a : Option Addr} {n c : Nat} (h : SpO base w g a n c) (k : B ≤ base) : SpO B w g a n c :=
  ⟨h.1, fun hn => let ⟨b, N, x, e, hb, hN, hO⟩ := h.2 hn; ⟨b, N, x, e, by omega, hN, hO⟩⟩
/-- What spoil leaves. -/
def SpP (base : Nat) (w : World) (e : Ending) (w' : World) : Prop :=
  e = .returned (.tuple #[]) ∧ Kp w w' ∧ Below base w w' ∧ w.heap.size ≤ w'.heap.size ∧ ∀ b N x, Own w b N x → ∃ y, Own w' b N y
/-- Between two rounds. -/
def SpI (base b N : Nat) (w wr : World) : Prop := (∃ x, Own wr b N x) ∧ Kp w wr ∧ Below base w wr ∧ ∀ b' N' x, Own w b' N' x → ∃ y, Own wr b' N' y
theorem SpI.set {base b N : Nat} {w wr : World} (h : SpI base b N w wr) (hb : base ≤ b) {j : Nat} (hj : j < N) (v : Int) : SpI base b N w (wr.setCell ⟨b, j, none⟩ (.int .u32 v)) := by
  obtain ⟨⟨x, hO⟩, hK, hB, hA⟩ := h
  refine ⟨⟨_, hO.set hj v⟩, hK.trans (hO.kp _), hB.setCell (p := ⟨b, j, none⟩) hb _, fun b' N' x' h' => ?_⟩
  obtain ⟨y, hy⟩ := hA b' N' x' h'
  by_cases e : b' = b
  · subst e
    have hN : N' = N := by
      obtain ⟨C, h1, h2, _⟩ := hO
      obtain ⟨C', h1', h2', _⟩ := hy
      rw [h1] at h1'
      cases h1'
      omega
    subst hN
    exact ⟨_, hO.set hj v⟩
  · exact ⟨y, hy.setOther (fun e' => e e'.symm) _⟩
set_option maxHeartbeats 1600000 in
theorem spoil_any (base : Nat) (g : Bool) (a : Option Addr) (n c : Nat) (w : World) (h : SpO base w g a n c) (hbw : base ≤ w.heap.size) (hn : n ≤ 1000000000) :
    Calls Tryd.prog 19 #[.agg #[.bool g, .slice a n c]] w (SpP base w) := by
  obtain ⟨hc, hO⟩ := h
  have BW := Below.one w (.cells #[.bool g, .slice a n c] 24)
  have A1 := cell_of (i := 1) (_root_.Go.heap_alloc_new w (.cells #[.bool g, .slice a n c] 24)) rfl
  by_cases h0 : n = 0
  · subst h0
    clear hO
    go_enter Tryd.func19, Tryd.ntmps19
    go_wp2_with fail
    go_loopw [6] (fun i wr => i = .int .i64 0 ∧ wr = w.alloc (.cells #[.bool g, .slice a 0 c] 24)) (fun _ _ => 0)
    case atStart => exact ⟨rfl, rfl⟩
    case round =>
      obtain ⟨rfl, rfl⟩ := hrel
      go_wp2_with fail
      go_end0
      exact ⟨rfl, Kp.below BW, BW.mono hbw, BW.size, fun b N x h => ⟨x, h.below BW h.lt⟩⟩
  · obtain ⟨b, N, x, rfl, hb, hN, hOw⟩ := hO (by omega)
    have h1 : Hid (SpI base b N w (w.alloc (.cells #[.bool g, .slice (some ⟨b, 0, none⟩) n c] 24))) := Lib.hid ⟨⟨x, hOw.below BW hOw.lt⟩, Kp.below BW, BW.mono hbw, fun b N x h => ⟨x, h.below BW h.lt⟩⟩
    have HA := Lib.hid A1
    have hbl := hOw.lt
    clear A1 hO hOw BW
    go_enter Tryd.func19, Tryd.ntmps19
    go_wp2_with fail
    generalize (w.alloc (.cells #[.bool g, .slice (some ⟨b, 0, none⟩) n c] 24)) = W at *
    go_loopw [6] (fun i wr => ∃ k : Nat, k ≤ n ∧ i = .int .i64 k ∧ Hid (SpI base b N w wr ∧ Kp W wr ∧ W.heap.size ≤ wr.heap.size)) (fun i _ => n - (intOf i).toNat)
    case atStart => exact ⟨0, by omega, rfl, Lib.hid ⟨h1.out, Kp.refl _, Nat.le_refl _⟩⟩
    case round =>
      clear h1
      obtain ⟨k, hk, rfl, HI⟩ := hrel
      obtain ⟨hI, hK, hS⟩ := HI.out
      by_cases hlt : k < n
      · obtain ⟨y, hOy⟩ := hI.1
        have ca := hK _ _ _ (fun z => by simp) HA.out
        have cy := hOy.cell (j := k) (by omega)
        have fy := hOy.free k
        have S := Lib.hid (fun v => And.intro (SpI.set hI hb (j := k) (by omega) v) (And.intro (hK.trans (hOy.kp (j := k) (.int .u32 v))) (show W.heap.size ≤ (wr.setCell ⟨b, k, none⟩ (.int .u32 v)).heap.size by simpa [World.setCell] using hS)))
        clear hI hK HI hOy HA
        generalize y k = yk at *
        go_wp2_with fail
        go_roundw
        case rel => exact ⟨k + 1, by omega, by go_num, Lib.hid (S.out _)⟩
        case measure => simp [intOf] <;> omega
      · obtain rfl : k = n := by omega
        have HR := Lib.hid hI
        clear HI hI hK HA
        go_wp2_with fail
        go_end0
        exact ⟨rfl, HR.out.2.1, HR.out.2.2.1, HR.out.2.2.1.size, HR.out.2.2.2⟩
end Go.Proofs.YtkhchaoehlefdaaDoor
