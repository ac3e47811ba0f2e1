/- The document's integers in memory: Z by its value; in variables. Contracts: digit, cut, made. -/
import Derived.WalkSmall
import Derived.IntWalk
import Derived.Deep.QuietTactic
import Derived.Deep.CutRange
import Derived.Test.YtkhchaoehlefdaaDoorZaA
set_option linter.unusedVariables false
set_option linter.unusedSimpArgs false
namespace Go.Proofs.YtkhchaoehlefdaaDoor
open Go.RowKit

/-! ### Values -/
/-- An integer of the document: a sign and digits. -/
def ZI (w : World) (v : Value) (n : Nat) (z : Int) : Prop := ∃ a c l, v = .agg #[.bool (decide (z < 0)), .slice a n c] ∧ l.length = n ∧ InS w (.slice a n c) l ∧ D16 l ∧ Nl l ∧ Vd l = (z.natAbs : Int)
theorem ZI.below {w w' : World} {v : Value} {n : Nat} {z : Int} (h : ZI w v n z) (k : Below w.heap.size w w') : ZI w' v n z := by
  obtain ⟨a, c, l, h1, h2, h3, h4⟩ := h
  exact ⟨a, c, l, h1, h2, h3.below k, h4⟩
theorem ZI.z {w : World} {v : Value} {n : Nat} {z y : Int} (h : ZI w v n z) (e : z = y) : ZI w v n y := e ▸ h
theorem ZI.form {w : World} {v : Value} {n : Nat} {z : Int} (h : ZI w v n z) : ∃ g a c, v = .agg #[.bool g, .slice a n c] := by
  obtain ⟨a, c, l, rfl, _⟩ := h
  exact ⟨_, a, c, rfl⟩
theorem ZI.lt {w : World} {v : Value} {n : Nat} {z : Int} (h : ZI w v n z) : - Bd n < z ∧ z < Bd n := by
  obtain ⟨a, c, l, rfl, rfl, h3, h4, h5, h6⟩ := h
  have := Vd_lt h4
  omega
theorem ZI.len {w : World} {v : Value} {n k : Nat} {z : Int} (h : ZI w v n z) (h1 : - Bd k < z) (h2 : z < Bd k) : n ≤ k := by
  obtain ⟨a, c, l, rfl, rfl, h3, h4, h5, h6⟩ := h
  exact h5.len h4 (by omega)
/-- Opened: its digits. -/
theorem ZI.open {w : World} {g : Bool} {a : Option Addr} {n c : Nat} {z : Int} (h : ZI w (.agg #[.bool g, .slice a n c]) n z) : ∃ l, l.length = n ∧ InS w (.slice a n c) l ∧ D16 l ∧ Nl l ∧ Vd l = (z.natAbs : Int) ∧ g = decide (z < 0) := by
  obtain ⟨a', c', l, e, h2, h3, h4, h5, h6⟩ := h
  simp only [Value.agg.injEq, Array.mk.injEq, List.cons.injEq, Value.bool.injEq, Value.slice.injEq, and_true, true_and] at e
  obtain ⟨e1, e2, e3⟩ := e
  subst e1 e2 e3
  exact ⟨l, h2, h3, h4, h5, h6, rfl⟩

theorem Below.alloc'' {u v : World} (h : Below u.heap.size u v) (o : Obj) : Below u.heap.size u (v.alloc o) := h.alloc h.size o
theorem Below.one (w : World) (o : Obj) : Below w.heap.size w (w.alloc o) := (Below.refl _ _).alloc (Nat.le_refl _) o
theorem Below.two (w : World) (o p : Obj) : Below w.heap.size w ((w.alloc o).alloc p) := Below.up (Below.one w o) (Below.one _ p)
theorem Below.three (w : World) (o p q : Obj) : Below w.heap.size w (((w.alloc o).alloc p).alloc q) := Below.up (Below.two w o p) (Below.one _ q)
/-- An integer of the document in a variable. -/
def ZV (w : World) (b : Nat) (g : Bool) (a : Option Addr) (n c : Nat) (z : Int) : Prop :=
  w.cell? ⟨b, 0, none⟩ = some (.bool g) ∧ w.cell? ⟨b, 1, none⟩ = some (.slice a n c) ∧ b < w.heap.size ∧ ZI w (.agg #[.bool g, .slice a n c]) n z
theorem ZV.below {w w' : World} {b : Nat} {g : Bool} {a : Option Addr} {n c : Nat} {z : Int} (h : ZV w b g a n c z) (k : Below w.heap.size w w') : ZV w' b g a n c z :=
  ⟨(k.cell (p := ⟨b, 0, none⟩) h.2.2.1).trans h.1, (k.cell (p := ⟨b, 1, none⟩) h.2.2.1).trans h.2.1, Nat.lt_of_lt_of_le h.2.2.1 k.size, h.2.2.2.below k⟩
theorem ZV.up {w w' : World} {b : Nat} {g : Bool} {a : Option Addr} {n c : Nat} {z : Int} (h : ZV w b g a n c z) (k : Below w.heap.size w w') : ZI w' (.agg #[.bool g, .slice a n c]) n z := h.2.2.2.below k
theorem ZV.new {w : World} {g : Bool} {a : Option Addr} {n c : Nat} {z : Int} (h : ZI w (.agg #[.bool g, .slice a n c]) n z) : ZV (w.alloc (.cells #[.bool g, .slice a n c] 28)) w.heap.size g a n c z := by
  have e := _root_.Go.heap_alloc_new w (.cells #[.bool g, .slice a n c] 28)
  exact ⟨by unfold World.cell?; rw [e]; rfl, by unfold World.cell?; rw [e]; rfl, by simp, h.below (Below.one _ _)⟩
theorem ZV.new' {w : World} {b : Nat} {g : Bool} {a : Option Addr} {n c : Nat} {z : Int} (h : ZI w (.agg #[.bool g, .slice a n c]) n z) (hb : w.heap.size = b) : ZV (w.alloc (.cells #[.bool g, .slice a n c] 28)) b g a n c z := hb ▸ ZV.new h
/-- A variable of that type, of whatever it holds. -/
def BoxZ (w : World) (b : Nat) : Prop := ∃ g a n c, w.heap[b]? = some (.cells #[.bool g, .slice a n c] 28 (0, 0))
theorem BoxZ.new (w : World) (g : Bool) (a : Option Addr) (n c : Nat) : BoxZ (w.alloc (.cells #[.bool g, .slice a n c] 28)) w.heap.size := ⟨g, a, n, c, _root_.Go.heap_alloc_new w _⟩
theorem BoxZ.new' {w : World} {b : Nat} {g : Bool} {a : Option Addr} {n c : Nat} (hb : w.heap.size = b) : BoxZ (w.alloc (.cells #[.bool g, .slice a n c] 28)) b := hb ▸ BoxZ.new w g a n c
theorem BoxZ.lt {w : World} {b : Nat} (h : BoxZ w b) : b < w.heap.size := by
  obtain ⟨g, a, n, c, e⟩ := h
  exact (Array.getElem?_eq_some_iff.1 e).1
theorem BoxZ.below {w w' : World} {b : Nat} (h : BoxZ w b) (k : Below w.heap.size w w') : BoxZ w' b := by
  have hl := h.lt
  obtain ⟨g, a, n, c, e⟩ := h
  exact ⟨g, a, n, c, (k.block b hl).trans e⟩
theorem heap_set2 {w : World} {b i : Nat} {C : Array Value} {t : TypeId} (e : w.heap[b]? = some (.cells C t (0, 0))) (v : Value) : (w.setCell ⟨b, i, none⟩ v).heap[b]? = some (.cells (C.setIfInBounds i v) t (0, 0)) := by
  simp [World.setCell, Array.getElem?_modify, e]
/-- Digits lie in no such variable. -/
theorem BoxZ.row {w : World} {b : Nat} (h : BoxZ w b) {b' off : Nat} {x : Int} (hr : w.cell? ⟨b', off, none⟩ = some (.int .i64 x)) : b' ≠ b := by
  obtain ⟨g, a, m, c, e⟩ := h
  intro hb
  subst hb
  unfold World.cell? at hr
  rw [show w.heap[(⟨b', off, none⟩ : Addr).block]? = _ from e] at hr
  match off, hr with
  | 0, h0 => cases h0
  | 1, h0 => cases h0
  | k + 2, h0 => simp at h0
theorem InS.put {w : World} {b : Nat} (h : BoxZ w b) {v : Value} {l : List Int} (k : InS w v l) {p : Addr} (hp : p.block = b) (u : Value) : InS (w.setCell p u) v l := by
  obtain ⟨a, cap, rfl, hc, hb, hx⟩ := k
  refine ⟨a, cap, rfl, hc, hb, fun h0 => ?_⟩
  obtain ⟨b', off, rfl, h2⟩ := hx h0
  refine ⟨b', off, rfl, fun j hj => ?_⟩
  have e : (w.setCell p u).heap[b']? = w.heap[b']? := Below.heap_setCell _ _ _ _ (by rw [hp]; exact h.row (h2 j hj))
  exact (World.cell?_of_block e).trans (h2 j hj)
theorem ZI.put {w : World} {b : Nat} (h : BoxZ w b) {v : Value} {n : Nat} {z : Int} (k : ZI w v n z) {p : Addr} (hp : p.block = b) (u : Value) : ZI (w.setCell p u) v n z := by
  obtain ⟨a, c, l, h1, h2, h3, h4⟩ := k
  exact ⟨a, c, l, h1, h2, h3.put h hp u, h4⟩
theorem BoxZ.set0 {w : World} {b : Nat} (h : BoxZ w b) (g' : Bool) : BoxZ (w.setCell ⟨b, 0, none⟩ (.bool g')) b := by
  obtain ⟨g, a, n, c, e⟩ := h
  exact ⟨g', a, n, c, heap_set2 e _⟩
theorem ZV.put {w : World} {b : Nat} {g : Bool} {a : Option Addr} {n c : Nat} {z : Int} (h : BoxZ w b) (k : ZI w (.agg #[.bool g, .slice a n c]) n z) :
    ZV ((w.setCell ⟨b, 0, none⟩ (.bool g)).setCell ⟨b, 1, none⟩ (.slice a n c)) b g a n c z := by
  have k1 := ZI.put h k (p := ⟨b, 0, none⟩) rfl (.bool g)
  have k2 := ZI.put (h.set0 g) k1 (p := ⟨b, 1, none⟩) rfl (.slice a n c)
  have hl := h.lt
  obtain ⟨g', a', n', c', e⟩ := h
  have e2 := heap_set2 (i := 1) (heap_set2 (i := 0) e (.bool g)) (.slice a n c)
  exact ⟨by unfold World.cell?; rw [e2]; rfl, by unfold World.cell?; rw [e2]; rfl, by simpa [World.setCell] using hl, k2⟩
theorem BoxZ.open {w : World} {b : Nat} (h : BoxZ w b) : ∃ u v, w.cell? ⟨b, 0, none⟩ = some u ∧ w.cell? ⟨b, 1, none⟩ = some v ∧ w.frozen? ⟨b, 0, none⟩ = false ∧ w.frozen? ⟨b, 1, none⟩ = false := by
  obtain ⟨g, a, n, c, e⟩ := h
  exact ⟨.bool g, .slice a n c, by unfold World.cell?; rw [e]; rfl, by unfold World.cell?; rw [e]; rfl, by simp [World.frozen?, e], by simp [World.frozen?, e]⟩
theorem Below.set'' {u v : World} {p : Addr} (h : Below u.heap.size u v) (hp : u.heap.size ≤ p.block) (x : Value) : Below u.heap.size u (v.setCell p x) := h.setCell hp x
/-- A world may be forgotten but for what is known of it. -/
theorem wp_to {P : Program} {c : Code} {Q : Exit → Act → World → Prop} {a : Act} {w : World} (F : World → Prop) (h : F w) (k : ∀ w', F w' → c.wp P Q a w') : c.wp P Q a w := k w h
theorem calls_to {P : Program} {f : FuncId} {args : Array Value} {Q : Ending → World → Prop} {w : World} (F : World → Prop) (h : F w) (k : ∀ w', F w' → Calls P f args w' Q) : Calls P f args w Q := k w h
/-- An integer of two fields is returned. -/
def Zf (w : World) (z : Int) (n : Nat) (e : Ending) (w' : World) : Prop := ∃ g a c k, e = .returned (.agg #[.bool g, .slice a k c]) ∧ ZI w' (.agg #[.bool g, .slice a k c]) k z ∧ k ≤ n ∧ Below w.heap.size w w'
theorem Zf.mono {w : World} {z : Int} {n m : Nat} {e : Ending} {w' : World} (h : Zf w z n e w') (k : n ≤ m) : Zf w z m e w' := by
  obtain ⟨g, a, c, j, h1, h2, h3, h4⟩ := h
  exact ⟨g, a, c, j, h1, h2, by omega, h4⟩
theorem Zf.z {w : World} {z y : Int} {n : Nat} {e : Ending} {w' : World} (h : Zf w z n e w') (k : z = y) : Zf w y n e w' := k ▸ h

/-! ### digit, cut -/
theorem InS.take {w : World} {a : Option Addr} {n cap : Nat} {l : List Int} (h : InS w (.slice a n cap) l) {k : Nat} (hk : k ≤ l.length) : InS w (.slice a k cap) (l.take k) := by
  obtain ⟨a', cap', e, hc, hb, hx⟩ := h
  cases e
  have hl : (l.take k).length = k := by rw [List.length_take]; omega
  refine ⟨a, cap, by rw [hl], by omega, fun x hx => hb x (List.mem_of_mem_take hx), fun h0 => ?_⟩
  obtain ⟨b, off, rfl, h2⟩ := hx (by omega)
  exact ⟨b, off, rfl, fun j hj => by rw [List.getElem_take]; exact h2 j (by omega)⟩
theorem InS.cut {w : World} {a : Option Addr} {n cap : Nat} {l : List Int} (h : InS w (.slice a n cap) l) : InS w (.slice a (cutL l).length cap) (cutL l) := by
  have := h.take (cutN_le l l.length)
  rw [cutL_len]
  exact this
theorem InS.len {w : World} {a : Option Addr} {n cap : Nat} {l : List Int} (h : InS w (.slice a n cap) l) : l.length = n ∧ n ≤ cap := by
  obtain ⟨a', cap', e, hc, hb, hx⟩ := h
  cases e
  exact ⟨rfl, hc⟩

theorem digit_any (s : Value) (l : List Int) (i : Nat) (w : World) (h : InS w s l) :
    Calls Tryd.prog 46 #[s, .int .i64 i] w fun e w' => e = .returned (.int .i64 (gI l i)) ∧ w = w' := by
  have H := Lib.hid h
  obtain ⟨a, cap, rfl, hc⟩ := h.form
  clear h
  by_cases hi : i < l.length
  · obtain ⟨b, off, rfl, hb, _, c⟩ := H.out.at hi
    have e := Lib.hid (gI_at hi)
    generalize l[i] = x at *
    go_enter Tryd.func46, Tryd.ntmps46
    go_wp2_with fail
    go_ret
    exact ⟨ret_int e.out.symm, rfl⟩
  · have e := Lib.hid (gI_out (l := l) (i := i) (by omega))
    go_enter Tryd.func46, Tryd.ntmps46
    go_wp2_with fail
    go_ret
    exact ⟨ret_int e.out.symm, rfl⟩

theorem digit_q (s : Value) (l : List Int) (i : Nat) (w : World) (h : InS w s l) (n : Nat) :
    Calls Tryd.prog 46 #[s, .int .i64 i] (w.drewN n) fun e w' => e = .returned (.int .i64 (gI l i)) ∧ w' = w.drewN n :=
  (digit_any s l i (w.drewN n) (h.below (below_drewN (Below.refl _ _) n))).mono fun _ _ ⟨a, b⟩ => ⟨a, b.symm⟩

set_option maxHeartbeats 400000 in
theorem cut_any (a : Option Addr) (cap : Nat) (l : List Int) (n : Nat) (w : World) (h : InS w (.slice a n cap) l) (hl : n ≤ 1000000000) :
    Calls Tryd.prog 60 #[.slice a n cap] w fun e w' => e = .returned (.slice a (cutL l).length cap) ∧ w = w' := by
  have H := Lib.hid h
  obtain ⟨e0, hc⟩ := h.len
  have hn := cutL_len l
  rw [e0] at hn
  generalize (cutL l).length = m at *
  subst hn
  clear h
  go_enter Tryd.func60, Tryd.ntmps60
  go_wp2
  go_loop [3] (fun i => ∃ k : Nat, k ≤ n ∧ Hid (cutN l k = cutN l n) ∧ i = .int .i64 k) (fun i => (intOf i).toNat)
  case atStart => exact ⟨n, Nat.le_refl _, rfl, rfl⟩
  case round =>
    obtain ⟨k, hk, HT, rfl⟩ := hrel
    by_cases hk0 : 0 < k
    · obtain ⟨j, rfl⟩ : ∃ j, k = j + 1 := ⟨k - 1, by omega⟩
      obtain ⟨b, off, rfl, hb, _, hcell⟩ := H.out.at (k := j) (by omega)
      have HX := Lib.hid (gI_at (l := l) (i := j) (by omega))
      clear H
      generalize l[j] = xj at *
      by_cases h0 : xj = 0
      · subst h0
        go_wp2
        go_round
        case rel => exact ⟨j, by omega, (cutN_go HX.out).symm.trans HT.out, rfl⟩
        case measure => simp [intOf] <;> omega
      · go_wp2
        go_ret
        have : cutN l (j + 1) = j + 1 := cutN_stop (by rw [HX.out]; exact h0)
        exact ⟨ret_len (this.symm.trans HT.out), rfl⟩
    · obtain rfl : k = 0 := by omega
      go_wp2
      go_ret
      exact ⟨ret_len HT.out, rfl⟩

/-! ### made -/
theorem made_any (g : Bool) (a : Option Addr) (cap : Nat) (l : List Int) (n : Nat) (w : World) (h : InS w (.slice a n cap) l) (hd : D16 l) (hl : n ≤ 1000000000) :
    Calls Tryd.prog 36 #[.bool g, .slice a n cap] w (Zf w (sg g (Vd l)) n) := by
  have H := Lib.hid h
  have hm : (cutL l).length ≤ n := by have := h.len; have := cutL_le l; omega
  have C := Lib.hid (fun w' (hB : Below w.heap.size w w') => cut_any a cap l n w' (h.below hB) hl)
  have HV := Lib.hid (Vd_cut l)
  have HP : 0 < (cutL l).length ↔ 0 < Vd (cutL l) := (Nl_cut l).pos hd.cut
  have HC := Lib.hid h.cut
  have HN := Lib.hid (Nl_cut l)
  have HD := Lib.hid hd.cut
  have hv0 := Vd_nonneg hd.cut
  clear h hd
  generalize cutL l = m at *
  have e1 : (g && decide (0 < m.length)) = decide (sg g (Vd l) < 0) := by
    rw [← HV.out]
    cases g
    · simp [sg]; omega
    · simp [sg]; omega
  have E1 := Lib.hid e1
  clear e1
  go_enter Tryd.func36, Tryd.ntmps36
  go_wp2_with fail
  refine (C.out _ (Below.one _ _)).mono ?_
  rintro e w' ⟨rfl, rfl⟩
  have F : ∀ w2, Below w.heap.size w w2 → ZI w2 (.agg #[.bool (decide (sg g (Vd l) < 0)), .slice a m.length cap]) m.length (sg g (Vd l)) := fun w2 hB =>
    ⟨a, cap, m, rfl, rfl, HC.out.below hB, HD.out, HN.out, by rw [HV.out, sg_abs]; rw [← HV.out]; exact hv0⟩
  have F' := Lib.hid F
  clear F HC HN HD HP
  cases g
  · go_wp2_with fail
    refine bodyPost_ret (v := .agg #[.bool false, .slice a m.length cap]) (by simp [results, Tryd.results36, go_sem]) rfl ?_
    have F2 := F'.out _ (Below.one w (.cells #[.bool false, .slice a m.length cap] 28))
    rw [← E1.out] at F2
    exact ⟨_, _, _, _, rfl, F2, hm, Below.one _ _⟩
  · go_wp2_with fail
    refine bodyPost_ret (v := .agg #[.bool (decide (0 < m.length)), .slice a m.length cap]) (by simp [results, Tryd.results36, go_sem]) rfl ?_
    have F2 := F'.out _ (Below.one w (.cells #[.bool (decide (0 < m.length)), .slice a m.length cap] 28))
    rw [← E1.out, Bool.true_and] at F2
    exact ⟨_, _, _, _, rfl, F2, hm, Below.one _ _⟩
end Go.Proofs.YtkhchaoehlefdaaDoor
