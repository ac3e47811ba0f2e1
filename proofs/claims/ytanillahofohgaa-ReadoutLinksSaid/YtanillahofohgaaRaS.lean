/- Layer 5: strings in rows of the call's own; a link's queue and buffer. -/
import Derived.Shelf.Strconv.Clone
import Derived.Shelf.Slices.Delete
import Derived.Lib.RowBridge
import Derived.Deep.RegionLaw
import Derived.Test.YtanillahofohgaaRaR
set_option linter.unusedVariables false
set_option linter.unusedSimpArgs false
set_option maxRecDepth 100000
namespace Go.Proofs.Ytanillahofohgaa
open Go.RowKit Go.Shelf

def laysM316_ren : Go.Shelf.Ren := ⟨fun | 316 => 72 | n => n, fun | 9 => 9 | 3 => 3 | 4 => 4 | 37 => 51 | 0 => 0 | 127 => 123 | 5 => 5 | n => n, fun | n => n⟩
theorem laysM316 : Go.Proofs.LaysM.n316 Try.prog laysM316_ren := {
  mixed := by kernel_rfl
  f316 := Try.func72.trans (congrArg some (by kernel_rfl))
  t0 := Try.underlying0
  a0 := Try.isAgg0
  z0 := Try.sizeOf0
  v0 := Try.zeroValue0
  t3 := Try.underlying3
  a3 := Try.isAgg3
  z3 := Try.sizeOf3
  v3 := Try.zeroValue3
  t4 := Try.underlying4
  a4 := Try.isAgg4
  z4 := Try.sizeOf4
  v4 := Try.zeroValue4
  t9 := Try.underlying9
  a9 := Try.isAgg9
  z9 := Try.sizeOf9
  v9 := Try.zeroValue9
  t37 := Try.underlying51
  a37 := Try.isAgg51
  z37 := Try.sizeOf51
  v37 := Try.zeroValue51
  t127 := Try.underlying123
  a127 := Try.isAgg123
  z127 := Try.sizeOf123
  v127 := Try.zeroValue123
  t5 := Try.underlying5
  a5 := Try.isAgg5
  z5 := Try.sizeOf5
  v5 := Try.zeroValue5
  i0 := by kernel_rfl
  i3 := by kernel_rfl
  i4 := by kernel_rfl
  i5 := by kernel_rfl
  i9 := by kernel_rfl
  i37 := by kernel_rfl
  i127 := by kernel_rfl }

def laysDel_ren : Go.Shelf.Ren := ⟨fun | 24 => 73 | n => n, fun | 0 => 0 | 3 => 3 | 4 => 4 | 9 => 9 | 24 => 63 | n => n, fun | n => n⟩
theorem laysDel : Go.Proofs.Lays2.n24 Try.prog laysDel_ren := {
  mixed := by kernel_rfl
  f24 := Try.func73.trans (congrArg some (by kernel_rfl))
  t0 := Try.underlying0
  a0 := Try.isAgg0
  z0 := Try.sizeOf0
  v0 := Try.zeroValue0
  t3 := Try.underlying3
  a3 := Try.isAgg3
  z3 := Try.sizeOf3
  v3 := Try.zeroValue3
  t4 := Try.underlying4
  a4 := Try.isAgg4
  z4 := Try.sizeOf4
  v4 := Try.zeroValue4
  t9 := Try.underlying9
  a9 := Try.isAgg9
  z9 := Try.sizeOf9
  v9 := Try.zeroValue9
  t24 := Try.underlying63
  a24 := Try.isAgg63
  z24 := Try.sizeOf63
  v24 := Try.zeroValue63
  i9 := by kernel_rfl }

theorem cloneI_any (s : ByteArray) (w : World) (hs : s.size ≤ 1000000) : Calls Try.prog 72 #[.string s] w fun e w' => e = .returned (.string s) ∧ Below w.heap.size w w' := by
  have h := Any.stringslite_Clone laysM316 s w (by omega)
  rwa [show laysM316_ren.f 316 = 72 by kernel_rfl] at h
theorem clone_any (s : ByteArray) (w : World) (hs : s.size ≤ 1000000) : Calls Try.prog 56 #[.string s] w fun e w' => e = .returned (.string s) ∧ Below w.heap.size w w' := by
  go_enter Try.func56, Try.ntmps56
  go_wp2_with fail
  refine (cloneI_any s w hs).mono ?_
  rintro e w' ⟨rfl, hB⟩
  have HB := Lib.hid hB
  clear hB
  go_wp2_with fail
  go_ret
  exact ⟨rfl, HB.out⟩

/-! ### Strings in a row -/
abbrev Strs := List (List UInt8)
def stC (l : Strs) : List Value := l.map fun s => .string (str s)
theorem enc_str (s : List UInt8) : encStr s = .string (str s) := by unfold str; rfl
theorem stC_len (l : Strs) : (stC l).length = l.length := by simp [stC]
theorem stC_append (l m : Strs) : stC l ++ stC m = stC (l ++ m) := by simp [stC]
/-- Strings in a row of the call's own. -/
def So (B : Nat) (W : World) (v : Value) (l : Strs) : Prop := Rw 9 1 B W v l.length (stC l)
theorem st_info : (Try.prog.info? 9).map (fun i => (i.zero, i.size, i.bytes)) = some (some (.string ⟨#[]⟩), 1, 16) := by kernel_rfl
theorem st_slice : Try.prog.underlying 63 = some (.slice 9) := by kernel_rfl
theorem So.form {B : Nat} {W : World} {v : Value} {l : Strs} (h : So B W v l) : ∃ a c, v = .slice a l.length c ∧ l.length ≤ c := by
  obtain ⟨a, cap, rfl, hc⟩ := Rw.form h
  exact ⟨a, cap, rfl, hc⟩
theorem So.nil (B : Nat) (W : World) : So B W (.slice none 0 0) [] := Rw_nil _ _ _ _
theorem So.below {B : Nat} {W W' : World} {v : Value} {l : Strs} (h : So B W v l) (k : Below W.heap.size W W') : So B W' v l := Rw.below h k
/-- A string behind a row. -/
theorem append_str1 {ops : Array Oper} {rest : List Oper} {o : Oper} {a : Act} {Q : Exit → Act → World → Prop} {W : World} (hgd : o.guard = none) (s y : Operand)
    (ho : o.op = .call { callee := .builtin .append, args := #[s, y], argTypes := #[63, 63] }) {B : Nat} {v : Value} {l : Strs}
    (hs : a.eval s = v) (h : So B W v l) (g : Nat) (x : List UInt8) (hy : a.eval y = .slice (some ⟨g, 0, none⟩) 1 1) (c0 : W.cell? ⟨g, 0, none⟩ = some (.string (str x))) (hl : l.length ≤ 1000000000) (hB : B ≤ W.heap.size)
    (hK : ∀ v' w', So B w' v' (l ++ [x]) → W.grownBy w' v.ownBlock → (v'.ownBlock = v.ownBlock ∨ ∃ g, v'.ownBlock = some g ∧ W.heap.size ≤ g) → wpList Try.prog ops Q rest (a.put o.dst v') w') :
    wpList Try.prog ops Q (o :: rest) a W := by
  refine wpList_append_rw hgd s y _ _ ho (.string ⟨#[]⟩) 16 st_slice st_info rfl (by decide) hs h _ hy 1 (stC [x])
    (Src.ofSlice W st_slice ⟨g, 0, none⟩ 1 1 _ rfl (fun j u hj => ?_) (fun u hu => by simp [stC] at hu; subst hu; rfl)) (by unfold maxLen; omega) (by omega) hB fun v' w' h1 h2 h3 => hK v' w' ?_ h2 h3
  · match j, hj with
    | 0, hj => simp [stC] at hj; subst hj; simpa [Addr.add] using c0
  · unfold So
    rw [← stC_append, List.length_append]
    exact h1

set_option maxHeartbeats 1600000 in
/-- add, at the k-th cell of block lb. -/
theorem add_any (B lb k N : Nat) (t : TypeId) (ht : t ≠ 9) (f : Nat → Value) (v : Value) (l : Strs) (s : List UInt8) (w : World) (rf : RF w lb t N f) (hk : k < N) (hv : f k = v) (h : So B w v l) (hB : B ≤ w.heap.size) (hl : l.length ≤ 100000000) :
    Calls Try.prog 55 #[.pointer (some ⟨lb, k, none⟩), .string (str s)] w fun e w' => e = .returned (.tuple #[]) ∧ ∃ v' w5, w' = w5.setCell ⟨lb, k, none⟩ v' ∧ So B w5 v' (l ++ [s]) ∧
      (∃ W1, Below w.heap.size w W1 ∧ W1.grownBy w5 v.ownBlock ∧ (v'.ownBlock = v.ownBlock ∨ ∃ g, v'.ownBlock = some g ∧ W1.heap.size ≤ g)) ∧ w5.heap[lb]? = w.heap[lb]? := by
  obtain ⟨va, vc, rfl, hvc⟩ := h.form
  have c0 := rf.cell hk
  have f0 := rf.frozen hk
  rw [hv] at c0
  have hb := rf.lt
  have NE : Hid (some lb ≠ (Value.slice va l.length vc).ownBlock) := Lib.hid fun e => by
    obtain ⟨c, fz, e1⟩ := Rw.kind h lb e.symm
    obtain ⟨c2, fz2, e2⟩ := rf.kind
    rw [e1] at e2
    cases e2
    exact ht rfl
  have b1 : Below w.heap.size w (w.alloc (.cells #[.string (str s)] 9)) := (Below.refl _ _).alloc (Nat.le_refl _) _
  have BY : Hid (So B (w.alloc (.cells #[.string (str s)] 9)) (.slice va l.length vc) l) := Lib.hid (h.below b1)
  have B1 := Lib.hid b1
  have C0 := Lib.hid c0
  have F0 := Lib.hid f0
  have HRF := Lib.hid rf
  clear b1 h hv rf
  go_enter Try.func55, Try.ntmps55
  go_wp2_with (at_builtin; refine append_str1 rfl _ _ rfl rfl BY.out w.heap.size s rfl (new_one _ _ _) (by omega) (by simp; omega) ?_)
  intro v5 w5 h5 g5 l5
  obtain ⟨a5, k5, rfl, hk5⟩ := So.form h5
  have hl1 : (l ++ [s]).length = l.length + 1 := by simp
  rw [hl1] at h5 l5 hk5
  have H5 := Lib.hid h5
  have G5 := Lib.hid g5
  have L5 := Lib.hid l5
  have E5 : Hid (w5.heap[lb]? = w.heap[lb]?) := Lib.hid ((g5.block lb (by simp; omega) NE.out).trans (B1.out.block lb hb))
  have c5 := (World.cell?_of_block (w := w) E5.out).trans C0.out
  have f5 := (World.frozen?_of_block (w := w) E5.out).trans F0.out
  clear h5 g5 l5
  go_wp2
  go_end0
  exact ⟨rfl, _, _, rfl, H5.out, ⟨_, B1.out, G5.out, by have := L5.out; simpa using this⟩, E5.out⟩
theorem size_any (lb k : Nat) (a : Option Addr) (n c : Nat) (w : World) (hc : w.cell? ⟨lb, k, none⟩ = some (.slice a n c)) :
    Calls Try.prog 54 #[.pointer (some ⟨lb, k, none⟩)] w fun e w' => e = .returned (.int .i64 (n : Nat)) ∧ w = w' := by
  go_enter Try.func54, Try.ntmps54
  go_wp2_with fail
  go_ret
  exact ⟨rfl, rfl⟩

set_option maxHeartbeats 1600000 in
/-- Delete of the first string. -/
theorem Delete_any (B g cap : Nat) (x : List UInt8) (l : Strs) (w : World) (h : So B w (.slice (some ⟨g, 0, none⟩) (l.length + 1) cap) (x :: l)) :
    Calls Try.prog 73 #[.slice (some ⟨g, 0, none⟩) (l.length + 1) cap, .int .i64 0, .int .i64 1] w fun e w' => e = .returned (.slice (some ⟨g, 0, none⟩) l.length cap) ∧ So B w' (.slice (some ⟨g, 0, none⟩) l.length cap) l ∧ OnB g w w' := by
  obtain ⟨hlen, hr⟩ := id h
  rcases hr with ⟨e, _⟩ | ⟨g', cap', f, e, hB, rf, hc, hm, hx⟩
  · cases e
  cases e
  rw [Nat.mul_one] at rf
  have hx' : ∀ j, j < (x :: l).length → f j = .string (str ((x :: l)[j]?.getD [])) := fun j hj => by
    have h1 := hx j (by simpa using hj)
    simp only [stC, List.getElem?_map] at h1
    rw [List.getElem?_eq_getElem hj] at h1
    simp only [Option.map_some] at h1
    rw [← Option.some.inj h1, List.getElem?_eq_getElem hj]
    rfl
  have hH : Go.Sort.Holds encStr w g 0 (x :: l).toArray := fun j hj => by
    have hj' : j < (x :: l).length := by simpa using hj
    have hjc : j < cap := by have : (x :: l).length = l.length + 1 := rfl
                             omega
    rw [Nat.zero_add]
    refine ⟨?_, rf.frozen hjc⟩
    rw [rf.cell hjc, hx' j hj', enc_str]
    congr 3
    rw [List.getElem?_eq_getElem hj']
    simp [getElem!_pos (x :: l).toArray j hj]
  have hd := Any.slices_Delete_string laysDel g 0 cap 0 1 (x :: l) w hH hc (by unfold maxLen at hm; omega) (by omega) (by simp)
  rw [show laysDel_ren.f 24 = 73 by kernel_rfl] at hd
  refine hd.mono ?_
  rintro e w' ⟨rfl, q, rfl⟩
  have el : (List.take 0 (x :: l) ++ List.drop 1 (x :: l) ++ List.replicate (1 - 0) ([] : List UInt8)) = l ++ [[]] := rfl
  rw [el, Lib.putRow_eq_setCells encStr w g 0 (x :: l).toArray (l ++ [[]]) q hH (by simp)]
  have o1 : OnB g w (w.drewN q) := ⟨Below.drewN (Below.refl _ _) q, rfl, fun _ _ => rfl⟩
  refine ⟨rfl, ⟨by simp [stC_len], .inr ⟨g, cap, _, rfl, hB, by rw [Nat.mul_one]; exact RF.sets _ 0 (w.drewN q) f (rf.of_block rfl), by have := hc; simp at this; omega, hm, fun j hj => ?_⟩⟩, o1.trans (OnB.sets g _ 0 _)⟩
  rw [Nat.mul_one] at hj
  have hj2 : j < (l ++ [([] : List UInt8)]).length := by simp; omega
  rw [if_pos (by rw [List.length_map]; omega), Nat.sub_zero, List.getElem?_map, List.getElem?_append_left hj]
  simp only [stC, List.getElem?_map]
  rw [List.getElem?_eq_getElem hj]
  simp only [Option.map_some, Option.getD_some, enc_str]

set_option maxHeartbeats 1600000 in
/-- cut of the first string, at the k-th cell of block lb. -/
theorem cut_any (B lb k N : Nat) (t : TypeId) (ht : t ≠ 9) (f : Nat → Value) (v : Value) (x : List UInt8) (l : Strs) (w : World) (rf : RF w lb t N f) (hk : k < N) (hv : f k = v) (h : So B w v (x :: l)) (hl : l.length ≤ 100000000) :
    Calls Try.prog 59 #[.pointer (some ⟨lb, k, none⟩), .int .i64 0] w fun e w' => e = .returned (.string (str x)) ∧ ∃ v' w5 g, w' = w5.setCell ⟨lb, k, none⟩ v' ∧ So B w5 v' l ∧ v.ownBlock = some g ∧ v'.ownBlock = some g ∧ g ≠ lb ∧ OnB g w w5 := by
  obtain ⟨g, cap, rfl, hx0, hcap⟩ : ∃ g cap, v = .slice (some ⟨g, 0, none⟩) (l.length + 1) cap ∧ w.cell? ⟨g, 0, none⟩ = some (.string (str x)) ∧ l.length + 1 ≤ cap := by
    obtain ⟨_, ⟨_, h0⟩ | ⟨g, cap, f', rfl, hB, r2, hc, hm, hx⟩⟩ := id h
    · simp at h0
    · refine ⟨g, cap, rfl, ?_, hc⟩
      have := Rw.cells h (g := g) rfl 0 (.string (str x)) rfl
      simpa [Addr.add] using this
  have c0 := rf.cell hk
  have f0 := rf.frozen hk
  rw [hv] at c0
  have hb := rf.lt
  have hgl : g ≠ lb := fun e => by
    subst e
    obtain ⟨c, fz, e1⟩ := Rw.kind h g rfl
    obtain ⟨c2, fz2, e2⟩ := rf.kind
    rw [e1] at e2
    cases e2
    exact ht rfl
  have HD := Lib.hid (Delete_any B g cap x l w h)
  have C0 := Lib.hid c0
  have F0 := Lib.hid f0
  clear h hv rf
  go_enter Try.func59, Try.ntmps59
  go_wp2_with (go_at_call 73; refine HD.out.mono ?_; rintro e w5 ⟨rfl, h5, o5⟩; have H5 := Lib.hid h5; have O5 := Lib.hid o5; have c5 := o5.cell C0.out hgl.symm; have f5 := (World.frozen?_of_block (w := w) (o5.2.2 lb hgl.symm)).trans F0.out; clear h5 o5)
  go_ret
  exact ⟨rfl, _, _, g, rfl, H5.out, rfl, rfl, hgl, O5.out⟩
end Go.Proofs.Ytanillahofohgaa
