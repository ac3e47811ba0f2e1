/- Laws for make and copy of rows of words; contracts: fresh, ofWord, addWords, addTo, takeFrom. -/
import Derived.Test.YtkhchaoehlefdaaDoorExB
import Derived.Laws.CopyOwn
namespace Go.Proofs.YtkhchaoehlefdaaDoor
open Go.RowKit

theorem u32_info : (Tryd.prog.info? 62).map (fun i => (i.zero, i.size, i.bytes)) = some (some (.int .u32 0), 1, 4) := by kernel_rfl
theorem u32_size : (Tryd.prog.info? 62).map (·.size) = some 1 := by kernel_rfl

/-- 'make' of n words. -/
theorem make32 {ops : Array Oper} {rest : List Oper} {o : Oper} {a : Act} {Q : Exit → Act → World → Prop} {w : World}
    (hg : o.guard = none) (l c : Operand) (t : TypeId) (hop : o.op = Op.makeSlice t l c) (h1 : Tryd.prog.underlying t = some (.slice 62))
    (n : Nat) (L C : Int) (hl : a.eval l = .int .i64 L) (hc : a.eval c = .int .i64 C) (hL : L = (n : Int)) (hC : C = (n : Int)) (hn : n ≤ 1000000000)
    (hK : ∀ w', Own w' w.heap.size n (fun _ => 0) → Below w.heap.size w w' → wpList Tryd.prog ops Q rest (a.put o.dst (.slice (some ⟨w.heap.size, 0, none⟩) n n)) w') :
    wpList Tryd.prog ops Q (o :: rest) a w := by
  obtain ⟨i, hi, hz0, hz1, hz2⟩ := info_parts u32_info
  refine wpList_make_full w hg l c t hop w.heap.size 62 i _ 1 h1 hi hz0 hz1 .i64 .i64 L C n hl hc hL hC (by rw [hz2]; omega) (by unfold maxLen; omega) (Nat.le_refl _) ?_
  intro w' hown hgrow
  refine hK w' ?_ ⟨hgrow.os, hgrow.tape, hgrow.output, hgrow.size, fun k hk => hgrow.block k hk (by simp)⟩
  obtain ⟨h1, h2 | ⟨g, cap, cur, hv, hg, hh, hle, hm, hsz, htk⟩⟩ := hown
  · exact absurd h2.1 (by simp)
  · simp only [Value.slice.injEq, Option.some.injEq, Addr.mk.injEq, and_true] at hv
    obtain ⟨hv1, _, hv2⟩ := hv
    subst hv1
    subst hv2
    refine ⟨cur, hh, by omega, fun j hj => ?_⟩
    have e : cur.toList = (madeCells (Value.int .u32 0).cells (n * 1)).toList := by
      rw [← htk, List.take_of_length_le (by simp; omega)]
    have e2 : cur = madeCells (Value.int .u32 0).cells (n * 1) := Array.toList_inj.1 e
    rw [e2]
    simp [madeCells, Value.cells, hj, Nat.mod_one]

/-- For a walk's arms: this is a call of copy. -/
theorem is_copy {P : Program} {ops : Array Oper} {rest : List Oper} {a : Act} {Q : Exit → Act → World → Prop} {w : World} {dst : Option Tmp} {x : Array Operand} {y : Array TypeId} {ty : TypeId} {pos : String} {after : Array Edge} {g : Option (Nat × Bool)}
    (h : wpList P ops Q (⟨dst, .call { callee := .builtin .copy, args := x, argTypes := y }, ty, pos, after, g⟩ :: rest) a w) : wpList P ops Q (⟨dst, .call { callee := .builtin .copy, args := x, argTypes := y }, ty, pos, after, g⟩ :: rest) a w := h

/-- What copy leaves. -/
def cpy (x : Nat → Int) (off k : Nat) (y : Nat → Int) : Nat → Int := fun j => if off ≤ j ∧ j < off + k then y (j - off) else x j
theorem cpy_zero (x : Nat → Int) (off : Nat) (y : Nat → Int) : cpy x off 0 y = x := by funext j; simp only [cpy]; split <;> first | omega | rfl
theorem cpy_in {x : Nat → Int} {off k : Nat} {y : Nat → Int} {j : Nat} (h : j < k) : cpy x off k y (off + j) = y j := by
  simp only [cpy]; rw [if_pos (by omega)]; congr 1; omega
theorem cpy_out {x : Nat → Int} {off k : Nat} {y : Nat → Int} {j : Nat} (h : j < off ∨ off + k ≤ j) : cpy x off k y j = x j := by
  simp only [cpy]; rw [if_neg (by omega)]
theorem Dg.cpy {x y : Nat → Int} (hx : Dg x) (hy : Dg y) (off k : Nat) : Dg (cpy x off k y) := by
  intro j; simp only [Go.Proofs.YtkhchaoehlefdaaDoor.cpy]; split
  · exact hy _
  · exact hx _

theorem copy32 {ops : Array Oper} {rest : List Oper} {o : Oper} {a : Act} {Q : Exit → Act → World → Prop} {w : World}
    (hgd : o.guard = none) (d s : Operand) (dT sT : TypeId)
    (ho : o.op = .call { callee := .builtin .copy, args := #[d, s], argTypes := #[dT, sT] }) (hu : Tryd.prog.underlying dT = some (.slice 62))
    (g off dLen dCap : Nat) (sp : Option Addr) (sLen sCap : Nat) (hd : a.eval d = .slice (some ⟨g, off, none⟩) dLen dCap) (hs : a.eval s = .slice sp sLen sCap)
    (N : Nat) (x y : Nat → Int) (hO : Own w g N x) (k : Nat) (hk : k = Nat.min sLen dLen) (hfit : off + k ≤ N)
    (hsrc : 0 < sLen → ∃ b p, sp = some ⟨b, p, none⟩ ∧ Row w b p sLen y)
    (h : ∀ w', Own w' g N (cpy x off k y) → Chg g w w' → wpList Tryd.prog ops Q rest (a.put o.dst (goInt k)) w') : wpList Tryd.prog ops Q (o :: rest) a w := by
  by_cases hk0 : k = 0
  · subst hk0
    refine wpList_copy_nothing hgd d s dT sT ho 62 hu u32_size _ sp dLen dCap sLen sCap hd hs hk.symm ?_
    exact h w (by rw [cpy_zero]; exact hO) (Chg.refl _ _)
  · have hs0 : 0 < sLen := by
      have : k ≤ sLen := by rw [hk]; exact Nat.min_le_left _ _
      omega
    have hks : k ≤ sLen := by rw [hk]; exact Nat.min_le_left _ _
    obtain ⟨b, p, rfl, hr⟩ := hsrc hs0
    obtain ⟨C, hC, hN, hx⟩ := hO
    have hlen : ((List.range k).map fun j => Value.int .u32 (y j)).length = k := by simp
    refine wpList_copy_own hgd d s dT sT ho 62 hu u32_size g off dLen dCap ⟨b, p, none⟩ sLen sCap hd hs C _ hC ((List.range k).map fun j => Value.int .u32 (y j)) (by rw [hlen, hk]) ?_ (by rw [hlen]; omega) ?_ ?_
    · intro j v hj
      simp only [List.getElem?_map, Option.map_eq_some_iff] at hj
      obtain ⟨i, hi, rfl⟩ := hj
      have hji := List.getElem?_eq_some_iff.1 hi
      obtain ⟨hlt, he⟩ := hji
      simp at hlt he
      subst he
      have := hr j (by omega)
      rcases Nat.eq_zero_or_pos j with rfl | hj0
      · simpa [Addr.add] using this
      · simpa [Addr.add, Nat.ne_of_gt hj0] using this
    · intro v hv
      simp only [List.mem_map] at hv
      obtain ⟨i, _, rfl⟩ := hv
      rfl
    · rw [hlen]
      refine h _ ⟨_, setRow_heap w g C _ _ _ hC, ?_, ?_⟩ ⟨rfl, rfl, rfl, by simp [World.setRow], fun i hi hb => setRow_other w g i _ hb⟩
      · simp; omega
      · intro j hj
        have hCl : C.toList.length = N := by simpa using hN
        simp only [List.getElem?_toArray]
        rcases Nat.lt_or_ge j off with g1 | g1
        · rw [List.getElem?_append_left (by simp; omega), List.getElem?_take_of_lt g1, cpy_out (by omega)]
          simpa using hx j hj
        · rw [List.getElem?_append_right (by simp; omega)]
          have e1 : (List.take off C.toList).length = off := by simp; omega
          rw [e1]
          rcases Nat.lt_or_ge j (off + k) with g2 | g2
          · rw [List.getElem?_append_left (by simp; omega)]
            obtain ⟨i, rfl⟩ : ∃ i, j = off + i := ⟨j - off, by omega⟩
            rw [cpy_in (by omega), Nat.add_sub_cancel_left, List.getElem?_map, List.getElem?_range (by omega)]
            rfl
          · rw [List.getElem?_append_right (by simp; omega), hlen, List.getElem?_drop, cpy_out (by omega), show off + k + (j - off - k) = j by omega]
            simpa using hx j hj
end Go.Proofs.YtkhchaoehlefdaaDoor
