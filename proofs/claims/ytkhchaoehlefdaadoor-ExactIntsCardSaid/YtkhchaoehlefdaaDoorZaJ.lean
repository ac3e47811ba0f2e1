/- The program's integers of the document's (Int), and whether integers are the same. -/
import Derived.Test.YtkhchaoehlefdaaDoorZaI
set_option linter.unusedVariables false
set_option linter.unusedSimpArgs false
set_option maxRecDepth 100000
namespace Go.Proofs.YtkhchaoehlefdaaDoor
open Go.RowKit

theorem word_slice : Tryd.prog.underlying 22 = some (.slice 62) := by kernel_rfl
def U32 (x : Int) : Prop := 0 ≤ x ∧ x ≤ 4294967295
def wC (l : List Int) : List Value := l.map fun x => .int .u32 x
/-- Words of the call's own. -/
def Wo (B : Nat) (W : World) (v : Value) (l : List Int) : Prop := Rw 62 1 B W v l.length (wC l) ∧ ∀ x ∈ l, U32 x
theorem Wo.nil (B : Nat) (W : World) : Wo B W (.slice none 0 0) [] := ⟨Rw_nil _ _ _ _, (fun x hx => by cases hx)⟩
theorem Wo.below {B : Nat} {W W' : World} {v : Value} {l : List Int} (h : Wo B W v l) (k : Below W.heap.size W W') : Wo B W' v l := ⟨h.1.below k, h.2⟩
theorem Wo.same {B : Nat} {W W' : World} {v : Value} {l : List Int} (h : Wo B W v l) (k : ∀ g, B ≤ g → g < W.heap.size → W'.heap[g]? = W.heap[g]?) : Wo B W' v l := ⟨h.1.same fun g hg => k g (h.1.lt g hg).1 (h.1.lt g hg).2, h.2⟩
theorem Wo.row {B : Nat} {W : World} {v : Value} {l : List Int} {n : Nat} (h : Wo B W v l) (hn : l.length = n) : ∃ a c, v = .slice a n c ∧ n ≤ c ∧ Sl W a n (gI l) := by
  subst hn
  obtain ⟨hr, hb⟩ := h
  rcases id hr.2 with ⟨rfl, h0⟩ | ⟨g, cap, f, rfl, hB, hf, hc, hm, hx⟩
  · exact ⟨none, 0, by rw [h0], by omega, fun hn => by omega⟩
  · refine ⟨_, cap, rfl, hc, fun hn => ⟨g, 0, rfl, fun k hk => ?_⟩⟩
    have x1 := hx k (by omega)
    have e1 : (wC l)[k]? = some (.int .u32 l[k]) := by simp [wC, hk]
    rw [e1] at x1
    have c1 := hf.cell (i := k) (by omega)
    rw [← Option.some.inj x1] at c1
    rw [Nat.zero_add, gI_at hk]
    exact c1
theorem Wo.dg {B : Nat} {W : World} {v : Value} {l : List Int} (h : Wo B W v l) : Dg (gI l) := fun j => by
  rcases Nat.lt_or_ge j l.length with g | g
  · rw [gI_at g]; exact h.2 _ (List.getElem_mem g)
  · rw [gI_out g]; omega
theorem append_word {ops : Array Oper} {rest : List Oper} {o : Oper} {a : Act} {Q : Exit → Act → World → Prop} {W : World} (hgd : o.guard = none) (s y : Operand)
    (ho : o.op = .call { callee := .builtin .append, args := #[s, y], argTypes := #[22, 22] }) {B : Nat} {v : Value} {l : List Int}
    (hs : a.eval s = v) (h : Wo B W v l) (g : Nat) (x : Int) (hi : U32 x) (hy : a.eval y = .slice (some ⟨g, 0, none⟩) 1 1) (c0 : W.cell? ⟨g, 0, none⟩ = some (.int .u32 x))
    (hl : l.length ≤ 1000000000) (hB : B ≤ W.heap.size)
    (hK : ∀ v' w', Wo B w' v' (l ++ [x]) → Below B W w' → wpList Tryd.prog ops Q rest (a.put o.dst v') w') :
    wpList Tryd.prog ops Q (o :: rest) a W := by
  refine wpList_append_rw hgd s y _ _ ho (.int .u32 0) 4 word_slice u32_info rfl (by decide) hs h.1 _ hy 1 [.int .u32 x]
    (Src.ofSlice W word_slice ⟨g, 0, none⟩ 1 1 _ rfl (fun j u hj => ?_) (fun u hu => ?_)) (by unfold maxLen; omega) (by omega) hB fun v' w' h1 h2 h3 => hK v' w' ⟨?_, ?_⟩ (grown_below h2 (fun g hg => (h.1.lt g hg).1) hB)
  · match j, hj with
    | 0, hj => simp at hj; subst hj; simpa [Addr.add] using c0
  · simp at hu
    subst hu
    rfl
  · have e : wC l ++ [.int .u32 x] = wC (l ++ [x]) := by simp [wC]
    rw [← e, List.length_append]
    exact h1
  · intro x hx
    rcases List.mem_append.1 hx with hx | hx
    · exact h.2 x hx
    · rw [List.mem_singleton.1 hx]; exact hi

/-! ### Int -/
/-- An integer of the program, in normal form. -/
def NI (w : World) (v : Value) (n : Nat) (z : Int) : Prop := ∃ u, v = .agg #[.bool (decide (z < 0)), u] ∧ Nr w u n (z.natAbs : Int)
theorem RI.ni {w : World} {base : Nat} {v : Value} {n : Nat} {z : Int} (h : RI w base v n z) : NI w v n z := by
  obtain ⟨u, rfl, hN⟩ := h
  exact ⟨u, rfl, hN.nr⟩
theorem NI.below {w w' : World} {v : Value} {n : Nat} {z : Int} (h : NI w v n z) (k : Below w.heap.size w w') : NI w' v n z := by
  obtain ⟨u, rfl, hN⟩ := h
  exact ⟨u, rfl, hN.below k⟩
/-- What Int has made so far. -/
def IntI (w : World) (g : Bool) (a : Option Addr) (n c : Nat) (l : List Int) (k : Nat) (wr : World) : Prop :=
  ∃ v ws, wr.heap[w.heap.size]? = some (.cells #[.bool g, .slice a n c] 28 (0, 0)) ∧ wr.heap[w.heap.size + 1]? = some (.cells #[.bool false, .slice none 0 0] 24 (0, 0)) ∧
    wr.heap[w.heap.size + 1 + 1]? = some (.cells #[.bool g, v] 24 (0, 0)) ∧ Wo (w.heap.size + 3) wr v ws ∧ ws.length = k ∧ V (gI ws) k = Vk l (2 * k) ∧ Below w.heap.size w wr
theorem V_snoc {ws : List Int} {k : Nat} {x : Int} (hk : ws.length = k) : V (gI (ws ++ [x])) (k + 1) = V (gI ws) k + x * P k := by
  rw [V_succ, V_congr (y := gI ws) (fun j hj => gI_append (by omega))]
  rw [← hk, gI_snoc]
theorem int_step {l : List Int} {k : Nat} {v : Int} (h : v = Vk l (2 * k)) : v + (gI l (2 * k) + 65536 * gI l (2 * k + 1)) * P k = Vk l (2 * (k + 1)) := by
  rw [show 2 * (k + 1) = 2 * k + 1 + 1 by omega, Vk_succ, Vk_succ, Bd_succ, Bd_P, h]
  generalize gI l (2 * k) = x
  generalize gI l (2 * k + 1) = y
  generalize Vk l (2 * k) = v
  generalize P k = p
  grind
theorem cell_of {w : World} {b i : Nat} {C : Array Value} {t : TypeId} {v : Value} (e : w.heap[b]? = some (.cells C t (0, 0))) (h : C[i]? = some v) : w.cell? ⟨b, i, none⟩ = some v := by
  unfold World.cell?
  rw [show w.heap[(⟨b, i, none⟩ : Addr).block]? = _ from e]
  exact h
theorem free_of {w : World} {b i : Nat} {C : Array Value} {t : TypeId} (e : w.heap[b]? = some (.cells C t (0, 0))) : w.frozen? ⟨b, i, none⟩ = false := by
  unfold World.frozen?
  rw [show w.heap[(⟨b, i, none⟩ : Addr).block]? = _ from e]
  simp
/-- One word more. -/
theorem IntI.next {w wr w' : World} {g : Bool} {a : Option Addr} {n c : Nat} {l : List Int} {k : Nat} {v v' : Value} {ws : List Int} {x : Int}
    (h1 : wr.heap[w.heap.size]? = some (.cells #[.bool g, .slice a n c] 28 (0, 0))) (h2 : wr.heap[w.heap.size + 1]? = some (.cells #[.bool false, .slice none 0 0] 24 (0, 0)))
    (h3 : wr.heap[w.heap.size + 1 + 1]? = some (.cells #[.bool g, v] 24 (0, 0))) (hlen : ws.length = k) (hv : V (gI ws) k = Vk l (2 * k)) (hB : Below w.heap.size w wr)
    (hs : w.heap.size + 3 ≤ wr.heap.size) (hb : Below (w.heap.size + 3) wr w') (hW : Wo (w.heap.size + 3) w' v' (ws ++ [x])) (hx : x = gI l (2 * k) + 65536 * gI l (2 * k + 1)) :
    IntI w g a n c l (k + 1) (w'.setCell ⟨w.heap.size + 1 + 1, 1, none⟩ v') := by
  have e1 := (hb.block _ (show w.heap.size < w.heap.size + 3 by omega)).trans h1
  have e2 := (hb.block _ (show w.heap.size + 1 < w.heap.size + 3 by omega)).trans h2
  have e3 := (hb.block _ (show w.heap.size + 1 + 1 < w.heap.size + 3 by omega)).trans h3
  refine ⟨v', ws ++ [x], ?_, ?_, heap_set2 e3 v', ?_, by simp [hlen], ?_, (hB.trans (hb.mono (by omega))).setCell (p := ⟨w.heap.size + 1 + 1, 1, none⟩) (by show _ ≤ w.heap.size + 1 + 1; omega) _⟩
  · rw [Below.heap_setCell _ _ _ _ (by show w.heap.size ≠ w.heap.size + 1 + 1; omega)]; exact e1
  · rw [Below.heap_setCell _ _ _ _ (by show w.heap.size + 1 ≠ w.heap.size + 1 + 1; omega)]; exact e2
  · exact hW.same fun g hg _ => Below.heap_setCell _ _ _ _ (by show g ≠ w.heap.size + 1 + 1; omega)
  · rw [V_snoc hlen, hx]; exact int_step hv

/-- What Int returns. -/
def IntP (w : World) (z : Int) (N : Nat) (e : Ending) (w' : World) : Prop := ∃ g a c k, e = .returned (.agg #[.bool g, .slice a k c]) ∧ NI w' (.agg #[.bool g, .slice a k c]) k z ∧ k ≤ N ∧ Below w.heap.size w w'

set_option maxHeartbeats 1600000 in
theorem zInt_any (g : Bool) (a : Option Addr) (n c : Nat) (z : Int) (w : World) (h : ZI w (.agg #[.bool g, .slice a n c]) n z) (hn : n ≤ 100000000) :
    Calls Tryd.prog 52 #[.agg #[.bool g, .slice a n c]] w (IntP w z ((n + 1) / 2)) := by
  obtain ⟨l, hl, hi, hd, hnl, hv, hg⟩ := h.open
  have HI := Lib.hid (fun w' (k : Below w.heap.size w w') => hi.below k)
  have HD := Lib.hid hd
  have HNL := Lib.hid hnl
  have HV := Lib.hid hv
  have HG := Lib.hid hg
  have HL := Lib.hid hl
  clear hl hi hd hnl hv hg h
  have h0 : Hid (IntI w g a n c l 0 (((w.alloc (.cells #[.bool g, .slice a n c] 28)).alloc (.cells #[.bool false, .slice none 0 0] 24)).alloc (.cells #[.bool g, .slice none 0 0] 24))) := Lib.hid (by
    have a1 := _root_.Go.heap_alloc_new w (.cells #[.bool g, .slice a n c] 28)
    have a2 := _root_.Go.heap_alloc_new (w.alloc (.cells #[.bool g, .slice a n c] 28)) (.cells #[.bool false, .slice none 0 0] 24)
    have a3 := _root_.Go.heap_alloc_new ((w.alloc (.cells #[.bool g, .slice a n c] 28)).alloc (.cells #[.bool false, .slice none 0 0] 24)) (.cells #[.bool g, .slice none 0 0] 24)
    rw [World.size_alloc] at a2
    rw [World.size_alloc, World.size_alloc] at a3
    refine ⟨.slice none 0 0, [], ?_, ?_, a3, Wo.nil _ _, rfl, rfl, Below.three _ _ _ _⟩
    · rw [Below.heap_alloc _ _ _ (by simp; omega), Below.heap_alloc _ _ _ (by simp)]; exact a1
    · rw [Below.heap_alloc _ _ _ (by simp)]; exact a2)
  go_enter Tryd.func52, Tryd.ntmps52
  go_wp2_with fail
  generalize (((w.alloc (.cells #[.bool g, .slice a n c] 28)).alloc (.cells #[.bool false, .slice none 0 0] 24)).alloc (.cells #[.bool g, .slice none 0 0] 24)) = W at *
  go_loopw [4] (fun i wr => ∃ k j : Nat, Hid (j = 2 * k) ∧ j ≤ n + 1 ∧ i = .int .i64 (j : Int) ∧ Hid (IntI w g a n c l k wr)) (fun i _ => n + 1 - (intOf i).toNat)
  case atStart => exact ⟨0, 0, Lib.hid rfl, by omega, rfl, h0⟩
  case round =>
    clear h0
    obtain ⟨k, j, HJ, hj, rfl, HR⟩ := hrel
    obtain ⟨v, ws, h1, h2, h3, hW, hlen, hvk, hB⟩ := HR.out
    have hs : w.heap.size + 3 ≤ wr.heap.size := by
      have := (Array.getElem?_eq_some_iff.1 h3).1
      omega
    have ca0 := cell_of (i := 0) h1 rfl
    have ca1 := cell_of (i := 1) h1 rfl
    have co0 := cell_of (i := 0) h3 rfl
    have co1 := cell_of (i := 1) h3 rfl
    have fo1 := free_of (i := 1) h3
    have cr0 := cell_of (i := 0) h2 rfl
    have cr1 := cell_of (i := 1) h2 rfl
    have fr0 := free_of (i := 0) h2
    have fr1 := free_of (i := 1) h2
    obtain ⟨va, vc, rfl, hkvc, hrow⟩ := hW.row hlen
    have H3 := Lib.hid h3
    have WO := Lib.hid hW
    have hkb : k ≤ 100000000 := by have := HJ.out; omega
    have hws : ws.length ≤ 1000000000 := by omega
    by_cases hlt : j < n
    · have NX := Lib.hid (fun x v' w' => IntI.next (x := x) (v' := v') (w' := w') h1 h2 h3 hlen hvk hB hs)
      have HX := HI.out _ hB
      obtain ⟨b, off, rfl, hb, _, c0⟩ := HX.at (k := j) (by have := HL.out; omega)
      rw [← gI_at (by have := HL.out; omega)] at c0
      have x0 := HD.out.gI j
      have y0 := HD.out.gI (j + 1)
      have EJ := Lib.hid (show gI l (2 * k) = gI l j by rw [HJ.out])
      have EJ1 := Lib.hid (show gI l (2 * k + 1) = gI l (j + 1) by rw [HJ.out])
      by_cases hlt2 : j + 1 < n
      · obtain ⟨b', off', e', hb', _, c1⟩ := HX.at (k := j + 1) (by have := HL.out; omega)
        cases e'
        rw [← gI_at (by have := HL.out; omega)] at c1
        clear h1 h2 h3 hW hvk hB HX HR hrow
        generalize gI l j = x at *
        generalize gI l (j + 1) = y at *
        have hU : U32 (x + 65536 * y) := by unfold U32; omega
        have hE : x + 65536 * y = gI l (2 * k) + 65536 * gI l (2 * k + 1) := by rw [EJ.out, EJ1.out]
        have HE := Lib.hid hE
        have u1 : 0 ≤ x + 65536 * y := hU.1
        have u2 : x + 65536 * y ≤ 4294967295 := hU.2
        clear hE EJ EJ1
        go_wp2_with (at_builtin; refine append_word rfl _ _ rfl rfl (WO.out.below (Below.one _ _)) wr.heap.size (x + 65536 * y) hU rfl (new_one _ _ _) hws (by simp; omega) ?_)
        intro v' w' h5 h6
        obtain ⟨va', vc', rfl, _, _⟩ := h5.row (n := k + 1) (by simp [hlen])
        have hb6 : Below (w.heap.size + 3) wr w' := ((Below.refl wr.heap.size wr).alloc (Nat.le_refl _) _).mono hs |>.trans h6
        have e3 := (hb6.block _ (show w.heap.size + 1 + 1 < w.heap.size + 3 by omega)).trans H3.out
        have co2 := cell_of (i := 1) e3 rfl
        have fo2 := free_of (i := 1) e3
        have S := Lib.hid (NX.out _ _ w' hb6 h5 HE.out)
        clear h5 h6 hb6 e3 NX WO HE H3
        go_wp2
        go_roundw
        case rel => exact ⟨k + 1, j + 2, Lib.hid (by have := HJ.out; omega), by omega, by go_num, S⟩
        case measure => simp [intOf]; omega
      · have hy0 : gI l (j + 1) = 0 := gI_out (by have := HL.out; omega)
        clear h1 h2 h3 hW hvk hB HX HR hrow
        generalize gI l j = x at *
        have hU : U32 x := by unfold U32; omega
        have hE : x = gI l (2 * k) + 65536 * gI l (2 * k + 1) := by rw [EJ.out, EJ1.out, hy0]; omega
        have HE := Lib.hid hE
        clear hE EJ EJ1 hy0 y0
        go_wp2_with (at_builtin; refine append_word rfl _ _ rfl rfl (WO.out.below (Below.one _ _)) wr.heap.size x hU rfl (new_one _ _ _) hws (by simp; omega) ?_)
        intro v' w' h5 h6
        obtain ⟨va', vc', rfl, _, _⟩ := h5.row (n := k + 1) (by simp [hlen])
        have hb6 : Below (w.heap.size + 3) wr w' := ((Below.refl wr.heap.size wr).alloc (Nat.le_refl _) _).mono hs |>.trans h6
        have e3 := (hb6.block _ (show w.heap.size + 1 + 1 < w.heap.size + 3 by omega)).trans H3.out
        have co2 := cell_of (i := 1) e3 rfl
        have fo2 := free_of (i := 1) e3
        have S := Lib.hid (NX.out _ _ w' hb6 h5 HE.out)
        clear h5 h6 hb6 e3 NX WO HE H3
        go_wp2
        go_roundw
        case rel => exact ⟨k + 1, j + 2, Lib.hid (by have := HJ.out; omega), by omega, by go_num, S⟩
        case measure => simp [intOf]; omega
    · have hVz : V (gI ws) k = (z.natAbs : Int) := by rw [hvk, Vk_all (by have := HL.out; have := HJ.out; omega), HV.out]
      have hdg := hW.dg
      have hnorm : 0 < k → gI ws (k - 1) ≠ 0 := by
        intro hk0 e0
        obtain ⟨k', rfl⟩ : ∃ k', k = k' + 1 := ⟨k - 1, by omega⟩
        rw [Nat.add_sub_cancel] at e0
        rw [V_succ, e0] at hVz
        have t1 := V_lt hdg k'
        obtain ⟨n', rfl⟩ : ∃ n', n = n' + 1 := ⟨n - 1, by have := HJ.out; omega⟩
        have t2 := Vd_top HD.out HNL.out HL.out
        have t3 := Bd_mono (show 2 * k' ≤ n' by have := HJ.out; omega)
        rw [Bd_P] at t3
        rw [HV.out] at t2
        omega
      have e1 := heap_set2 (i := 1) (heap_set2 (i := 0) h2 (.bool g)) (.slice va k vc)
      have F1 := cell_of (i := 0) e1 rfl
      have F2 := cell_of (i := 1) e1 rfl
      have hrow2 : Sl ((wr.setCell ⟨w.heap.size + 1, 0, none⟩ (.bool g)).setCell ⟨w.heap.size + 1, 1, none⟩ (.slice va k vc)) va k (gI ws) := by
        have q := (hW.same (W' := (wr.setCell ⟨w.heap.size + 1, 0, none⟩ (.bool g)).setCell ⟨w.heap.size + 1, 1, none⟩ (.slice va k vc)) fun b hb _ => by
          rw [Below.heap_setCell _ _ _ _ (by show b ≠ w.heap.size + 1; omega), Below.heap_setCell _ _ _ _ (by show b ≠ w.heap.size + 1; omega)]).row hlen
        obtain ⟨a', c', e', _, hr⟩ := q
        cases e'
        exact hr
      have S : Hid (IntP w z ((n + 1) / 2) (.returned (.agg #[.bool g, .slice va k vc])) ((wr.setCell ⟨w.heap.size + 1, 0, none⟩ (.bool g)).setCell ⟨w.heap.size + 1, 1, none⟩ (.slice va k vc))) := Lib.hid
        ⟨g, va, vc, k, rfl, ⟨.slice va k vc, by rw [HG.out], va, vc, gI ws, rfl, hkvc, hdg, hrow2, hnorm, hVz⟩, by have := HJ.out; omega, (hB.setCell (p := ⟨w.heap.size + 1, 0, none⟩) (by show _ ≤ w.heap.size + 1; omega) _).setCell (p := ⟨w.heap.size + 1, 1, none⟩) (by show _ ≤ w.heap.size + 1; omega) _⟩
      have G1 := Lib.hid F1
      have G2 := Lib.hid F2
      clear h1 h2 h3 hW hvk hB HR hrow hVz hdg hnorm e1 F1 F2 hrow2
      go_wp2_with fail
      exact bodyPost_ret (v := .agg #[.bool g, .slice va k vc]) (by simp [results, Tryd.results52, go_sem, G1.out, G2.out, cr0, cr1]) rfl S.out
end Go.Proofs.YtkhchaoehlefdaaDoor
