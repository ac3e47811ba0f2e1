/- Numerals appended to rows of the call's own. -/
import Derived.Test.YtlegacllbohbmaaDoorCaD
import Derived.Test.YtlegacllbohbmaaDoorCaE
set_option linter.unusedVariables false
set_option linter.unusedSimpArgs false
namespace Go.Proofs.YtlegacllbohbmaaDoor
open Go.RowKit Go.Shelf Go.Sort

/-- A slice of bytes of the call's own. -/
def By (B : Nat) (W : World) (v : Value) (l : List UInt8) : Prop := Rw 5 1 B W v l.length (Lib.byteCells l)
theorem u8_info : (Tryd.prog.info? 5).map (fun i => (i.zero, i.size, i.bytes)) = some (some (.int .u8 0), 1, 1) := by kernel_rfl
theorem u8_slice : Tryd.prog.underlying 27 = some (.slice 5) := by kernel_rfl
theorem str_kind : Tryd.prog.underlying 9 = some .string := by kernel_rfl
theorem bc_append (l m : List UInt8) : Lib.byteCells l ++ Lib.byteCells m = Lib.byteCells (l ++ m) := by simp [Lib.byteCells]
theorem src_str (s : ByteArray) (W : World) : Src Tryd.prog 1 9 (.string s) s.data.toList.length (Lib.byteCells s.data.toList) W := by
  have h := Src.ofString (P := Tryd.prog) W str_kind s
  have e : s.size = s.data.toList.length := by rw [Array.length_toList]; rfl
  rw [e] at h
  exact h
/-- A string's bytes behind a row. -/
theorem append_str {ops : Array Oper} {rest : List Oper} {o : Oper} {a : Act} {Q : Exit → Act → World → Prop} {W : World} (hgd : o.guard = none) (s y : Operand)
    (ho : o.op = .call { callee := .builtin .append, args := #[s, y], argTypes := #[27, 9] }) {B : Nat} {v : Value} {l : List UInt8}
    (hs : a.eval s = v) (h : By B W v l) (x : ByteArray) (m : List UInt8) (hx : x.data.toList = m) (hy : a.eval y = .string x) (hl : l.length + m.length ≤ 140737488355328) (hB : B ≤ W.heap.size)
    (hK : ∀ v' w', By B w' v' (l ++ m) → W.grownBy w' v.ownBlock → (v'.ownBlock = v.ownBlock ∨ ∃ g, v'.ownBlock = some g ∧ W.heap.size ≤ g) → wpList Tryd.prog ops Q rest (a.put o.dst v') w') :
    wpList Tryd.prog ops Q (o :: rest) a W := by
  subst hx
  refine wpList_append_rw hgd s y _ _ ho (.int .u8 0) 1 u8_slice u8_info rfl (by decide) hs h (.string x) hy _ _ (src_str x W) (by unfold maxLen; omega) (by omega) hB fun v' w' h1 h2 h3 => hK v' w' ?_ h2 h3
  unfold By
  rw [← bc_append, List.length_append]
  exact h1

/-- The same at a step of a region that draws its order. -/
theorem step_append_str {ops : Array Oper} {o : Oper} {a : Act} {K : Act → World → Prop} {Q : Exit → Act → World → Prop} {E : Prop} {W : World} (hgd : o.guard = none) (s y : Operand)
    (ho : o.op = .call { callee := .builtin .append, args := #[s, y], argTypes := #[27, 9] }) {B : Nat} {v : Value} {l : List UInt8}
    (hs : a.eval s = v) (h : By B W v l) (x : ByteArray) (hy : a.eval y = .string x) (hl : l.length + x.size ≤ 140737488355328) (hB : B ≤ W.heap.size)
    (hK : ∀ v' w', By B w' v' (l ++ x.data.toList) → W.grownBy w' v.ownBlock → (v'.ownBlock = v.ownBlock ∨ ∃ g, v'.ownBlock = some g ∧ W.heap.size ≤ g) → K (a.put o.dst v') w') :
    if Region.wanted o (yielded ops a.tmps) = true then Oper.wp Tryd.prog o a W K Q else E := by
  have e : x.size = x.data.toList.length := by rw [Array.length_toList]; rfl
  rw [e] at hl
  refine step_append_rw hgd s y _ _ ho (.int .u8 0) 1 u8_slice u8_info rfl (by decide) hs h (.string x) hy _ _ (src_str x W) (by unfold maxLen; omega) (by omega) hB fun v' w' h1 h2 h3 => hK v' w' ?_ h2 h3
  unfold By
  rw [← bc_append, List.length_append]
  exact h1

set_option maxHeartbeats 800000 in
set_option maxRecDepth 100000 in
theorem AppendUint_small (B u : Nat) (hu : u < 100) (sv : Value) (l : List UInt8) (w : World) (h : By B w sv l) (hB : B ≤ w.heap.size) (hl : l.length + 20 ≤ 140737488355328) :
    Calls Tryd.prog 79 #[sv, .int .u64 u, .int .i64 10] w fun e w' => ∃ v', e = .returned v' ∧ By B w' v' (l ++ Lib.decDigits u) ∧ Below B w w' := by
  have hlen : (Lib.decDigits u).length ≤ 20 := by
    rw [Lib.decDigits_length]
    by_cases h10 : u < 10
    · rw [Lib.nDigits_small h10]; omega
    · rw [Lib.nDigits_big h10, Lib.nDigits_small (show u / 10 < 10 by omega)]; omega
  have HH := Lib.hid h
  have CS := Lib.hid (fun W => Any.internal_strconv_small { laysM176 with } u hu W)
  rw [show laysM176_ren.f 283 = 55 by kernel_rfl] at CS
  obtain ⟨d, hd⟩ : ∃ d, d = Lib.decDigits u := ⟨_, rfl⟩
  rw [← hd] at hlen
  have HD := Lib.hid hd
  rw [← hd] at CS
  rw [← hd]
  clear h hd
  go_enter Tryd.func79, Tryd.ntmps79
  go_wp2_with (first
    | (go_at_call 55; refine (CS.out _).mono ?_; rintro e w' ⟨rfl, rfl⟩)
    | (at_builtin; refine append_str rfl _ _ rfl rfl HH.out ⟨d.toArray⟩ d (by simp) rfl (by omega) hB ?_))
  intro v' w1 hown hgrow _
  have HO := Lib.hid hown
  have HG := Lib.hid hgrow
  clear hown hgrow
  go_wp2
  go_ret
  exact ⟨v', rfl, HO.out, grown_below HG.out (fun g hg => (HH.out.lt g hg).1) hB⟩

/-- A slice's cells behind a row. -/
theorem append_cells {ops : Array Oper} {rest : List Oper} {o : Oper} {a : Act} {Q : Exit → Act → World → Prop} {W : World} (hgd : o.guard = none) (s y : Operand)
    (ho : o.op = .call { callee := .builtin .append, args := #[s, y], argTypes := #[27, 27] }) {B : Nat} {v : Value} {l : List UInt8}
    (hs : a.eval s = v) (h : By B W v l) (b off m c : Nat) (d : List UInt8) (hd : d.length = m) (hy : a.eval y = .slice (some ⟨b, off, none⟩) m c) (hc : ∀ j u, (Lib.byteCells d)[j]? = some u → W.cell? ((⟨b, off, none⟩ : Addr).add j) = some u)
    (hl : l.length + d.length ≤ 140737488355328) (hB : B ≤ W.heap.size)
    (hK : ∀ v' w', By B w' v' (l ++ d) → W.grownBy w' v.ownBlock → (v'.ownBlock = v.ownBlock ∨ ∃ g, v'.ownBlock = some g ∧ W.heap.size ≤ g) → wpList Tryd.prog ops Q rest (a.put o.dst v') w') :
    wpList Tryd.prog ops Q (o :: rest) a W := by
  subst hd
  refine wpList_append_rw hgd s y _ _ ho (.int .u8 0) 1 u8_slice u8_info rfl (by decide) hs h _ hy d.length (Lib.byteCells d)
    (Src.ofSlice W u8_slice _ _ _ _ (by rw [Lib.byteCells_length, Nat.mul_one]) hc (fun u hu => by simp only [Lib.byteCells, List.mem_map] at hu; obtain ⟨_, _, rfl⟩ := hu; rfl))
    (by unfold maxLen; omega) (by omega) hB fun v' w' h1 h2 h3 => hK v' w' ?_ h2 h3
  unfold By
  rw [← bc_append, List.length_append]
  exact h1

set_option maxHeartbeats 1600000 in
set_option maxRecDepth 100000 in
theorem AppendUint_big (B u : Nat) (hu : 100 ≤ u) (hu64 : u < 18446744073709551616) (sv : Value) (l : List UInt8) (w : World) (h : By B w sv l) (hB : B ≤ w.heap.size) (hl : l.length + 20 ≤ 140737488355328)
    (htab : Lib.TabIs Tryd.prog w "internal/strconv.uint64pow10" .u64 Lib.pow10Tab) :
    Calls Tryd.prog 79 #[sv, .int .u64 u, .int .i64 10] w fun e w' => ∃ v', e = .returned v' ∧ By B w' v' (l ++ Lib.decDigits u) ∧ Below B w w' := by
  have hu1 : 1 ≤ u := by omega
  have hnd20 : Lib.nDigits u ≤ 20 := by have := Lib.numDigits_eq u hu1 hu64; split at this <;> omega
  have hal : Tryd.prog.arrayLen 105 = 24 := by kernel_rfl
  have hsl : ∀ W, (Instr.sliceAt 105 (.pointer (some ⟨w.heap.size, 0, none⟩)) none (some (.int .i64 (Lib.nDigits u : Int))) none).run Tryd.prog W = .ok (.slice (some ⟨w.heap.size, 0, none⟩) (Lib.nDigits u) 24) W := fun W => by
    rw [run_sliceAt_array_h W 105 ⟨w.heap.size, 0, none⟩ (by kernel_rfl) .i64 (Lib.nDigits u : Int) (by omega) (by rw [hal]; omega), hal, show Tryd.prog.elem 105 = 5 by kernel_rfl]
    simp [go_sem]
  have hH0 := Lib.holds_zero0 w 105 (Lib.nDigits u) (by omega)
  have hfmt := Any.internal_strconv_formatBase10 { laysM176 with } w.heap.size 0 24 u (Array.replicate (Lib.nDigits u) 0) (w.alloc (.cells Lib.zeros24 105)) hH0 (by rw [Array.size_replicate]; exact Lib.lt_pow_nDigits u) hu64 (by rw [Array.size_replicate]; omega)
  rw [Array.size_replicate] at hfmt
  have hnum := Any.internal_strconv_numDigits { laysM176 with } u hu1 hu64 (w.alloc (.cells Lib.zeros24 105)) (Lib.tabIs_alloc htab _)
  rw [show laysM176_ren.f 284 = 56 by kernel_rfl] at hnum
  rw [show laysM176_ren.f 285 = 57 by kernel_rfl] at hfmt
  have HH0 := Lib.hid hH0
  have HF := Lib.hid hfmt
  have HN := Lib.hid hnum
  have HH := Lib.hid h
  clear hH0 hal hfmt hnum h htab
  have iu : (100 : Int) ≤ (u : Int) := by omega
  go_enter Tryd.func79, Tryd.ntmps79
  go_wp2_with fail
  refine HN.out.mono ?_
  rintro e w' ⟨rfl, rfl⟩
  clear HN
  go_wp2_with fail
  refine HF.out.mono ?_
  rintro e w' ⟨rfl, k, v', dk, rfl, hF⟩
  have hcells : ∀ j u', (Lib.byteCells (Lib.decDigits u))[j]? = some u' → ((putRow (fun (b : UInt8) => Value.int .u8 (b.toNat : Int)) (w.alloc (.cells Lib.zeros24 105)) w.heap.size 0 dk).drewN k).cell? ((⟨w.heap.size, 0, none⟩ : Addr).add j) = some u' := by
    intro j u' hj
    have hjl : j < (Lib.decDigits u).length := by
      have h5 := (List.getElem?_eq_some_iff.1 hj).1
      rwa [Lib.byteCells_length] at h5
    have e5 : (Lib.byteCells (Lib.decDigits u))[j]? = some (Value.int .u8 ((Lib.decDigits u)[j].toNat : Int)) := by simp [Lib.byteCells, hjl]
    rw [e5] at hj
    cases hj
    rw [Lib.row_is_numeral hF j hjl, Lib.add_plain, World.cell?_drewN]
    exact cell?_putRow (fun (b : UInt8) => Value.int .u8 (b.toNat : Int)) _ w.heap.size 0 _ dk HH0.out (by rw [hF.size, Array.size_replicate]) j (by rw [hF.size]; rw [Lib.decDigits_length] at hjl; exact hjl)
  obtain ⟨os, eo⟩ := Lib.fin_at w (.cells Lib.zeros24 105) dk k 0
  have hb2 : Below w.heap.size w ((putRow (fun (b : UInt8) => Value.int .u8 (b.toNat : Int)) (w.alloc (.cells Lib.zeros24 105)) w.heap.size 0 dk).drewN k) := by rw [eo]; exact Lib.below_grow w.heap.size w (Nat.le_refl _) k os
  have CC := Lib.hid hcells
  have B2 := Lib.hid hb2
  have hsz2 := hb2.size
  have D := Lib.hid (Lib.decDigits_length u)
  clear eo HF HH0 hcells hF hb2
  generalize (putRow (fun (b : UInt8) => Value.int .u8 (b.toNat : Int)) (w.alloc (.cells Lib.zeros24 105)) w.heap.size 0 dk).drewN k = W2 at *
  go_wp2_with (at_builtin; refine append_cells rfl _ _ rfl rfl (HH.out.below B2.out) w.heap.size 0 (Lib.nDigits u) 24 (Lib.decDigits u) D.out rfl CC.out (by rw [D.out]; omega) (by omega) ?_)
  intro v2 w3 hown hgrow _
  have HO := Lib.hid hown
  have HG := Lib.hid hgrow
  clear hown hgrow
  go_wp2
  go_ret
  exact ⟨v2, rfl, HO.out, (B2.out.mono hB).trans (grown_below HG.out (fun g hg => ((HH.out.below B2.out).lt g hg).1) (by omega))⟩
end Go.Proofs.YtlegacllbohbmaaDoor
