/- Layer 5: zero suppression. -/
import Derived.Deep.OwnRows
import Derived.Test.YtanillahofohgaaRaD
set_option linter.unusedVariables false
set_option linter.unusedSimpArgs false
namespace Go.Proofs.Ytanillahofohgaa
open Go.RowKit

theorem raw_info : (Try.prog.info? 35).map (fun i => (i.zero, i.size, i.bytes)) = some (some (.agg #[.int .i64 0, .int .i64 0]), 2, 16) := by kernel_rfl
theorem raw_slice : Try.prog.underlying 25 = some (.slice 35) := by kernel_rfl
theorem bool_info : (Try.prog.info? 4).map (fun i => (i.zero, i.size, i.bytes)) = some (some (.bool false), 1, 1) := by kernel_rfl
theorem int_info : (Try.prog.info? 3).map (fun i => (i.zero, i.size, i.bytes)) = some (some (.int .i64 0), 1, 8) := by kernel_rfl
theorem int_slice : Try.prog.underlying 22 = some (.slice 3) := by kernel_rfl

/-- A hit behind a row. -/
theorem append_hit {ops : Array Oper} {rest : List Oper} {o : Oper} {a : Act} {Q : Exit → Act → World → Prop} {W : World} (hgd : o.guard = none) (s y : Operand)
    (ho : o.op = .call { callee := .builtin .append, args := #[s, y], argTypes := #[25, 25] }) {B : Nat} {v : Value} {l : Hits}
    (hs : a.eval s = v) (h : Ho B W v l) (g : Nat) (x1 x2 : Int) (hi : I64 x1 ∧ I64 x2) (hy : a.eval y = .slice (some ⟨g, 0, none⟩) 1 1) (c0 : W.cell? ⟨g, 0, none⟩ = some (.int .i64 x1)) (c1 : W.cell? ⟨g, 1, none⟩ = some (.int .i64 x2))
    (hl : l.length ≤ 1000000000) (hB : B ≤ W.heap.size)
    (hK : ∀ v' w', Ho B w' v' (l ++ [(x1, x2)]) → Below B W w' → wpList Try.prog ops Q rest (a.put o.dst v') w') :
    wpList Try.prog ops Q (o :: rest) a W := by
  refine wpList_append_rw hgd s y _ _ ho (.agg #[.int .i64 0, .int .i64 0]) 16 raw_slice raw_info rfl (by decide) hs h.1 _ hy 1 [.int .i64 x1, .int .i64 x2]
    (Src.ofSlice W raw_slice ⟨g, 0, none⟩ 1 1 _ rfl (fun j u hj => ?_) (fun u hu => ?_)) (by unfold maxLen; omega) (by omega) hB fun v' w' h1 h2 h3 => hK v' w' ⟨?_, ?_⟩ (grown_below h2 (fun g hg => (h.1.lt g hg).1) hB)
  · match j, hj with
    | 0, hj => simp at hj; subst hj; simpa [Addr.add] using c0
    | 1, hj => simp at hj; subst hj; simpa [Addr.add] using c1
  · simp at hu
    rcases hu with rfl | rfl <;> rfl
  · rw [← hiC_append, List.length_append]
    exact h1
  · intro x hx
    rcases List.mem_append.1 hx with hx | hx
    · exact h.2 x hx
    · rw [List.mem_singleton.1 hx]; exact hi

/-! ### The numbers -/
/-- Is i in the list? -/
def dead (d : List Int) (i : Nat) : Bool := d.any fun x => x == (i : Int)
theorem dead_take (d : List Int) (k : Nat) (h : k < d.length) (i : Nat) : dead (d.take (k + 1)) i = (dead (d.take k) i || d[k] == (i : Int)) := by
  unfold dead
  rw [List.take_succ_eq_append_getElem h, List.any_append]
  simp
def getI (l : List Int) (i : Nat) : Int := (l[i]?).getD 0
theorem getI_at (l : List Int) (i : Nat) (h : i < l.length) : getI l i = l[i] := by unfold getI; rw [List.getElem?_eq_getElem h]; rfl
def supE (l : List Int) (p q : Int) (d : List Int) (i : Nat) : Hits := if !dead d i && decide (q < getI l i - p) then [((i : Int), getI l i - p)] else []
def supL (l : List Int) (p q : Int) (d : List Int) (k : Nat) : Hits := (List.range k).flatMap (supE l p q d)
theorem supL_succ (l : List Int) (p q : Int) (d : List Int) (k : Nat) : supL l p q d (k + 1) = supL l p q d k ++ supE l p q d k := by
  unfold supL
  rw [List.range_succ, List.flatMap_append]
  simp
theorem supE_len (l : List Int) (p q : Int) (d : List Int) (i : Nat) : (supE l p q d i).length ≤ 1 := by
  unfold supE; split <;> simp
theorem supL_len (l : List Int) (p q : Int) (d : List Int) : ∀ k, (supL l p q d k).length ≤ k
  | 0 => by simp [supL]
  | k + 1 => by
    rw [supL_succ, List.length_append]
    have := supL_len l p q d k
    have := supE_len l p q d k
    omega
def supOk (l : List Int) (p q : Int) : Bool := allM l && (inB p 0 4095 && inB q 0 4095)
def supErr (l : List Int) (p q : Int) : Int := if 4096 < l.length then 3 else if supOk l p q then 0 else 2
def supH (l : List Int) (p q : Int) (d : List Int) : Hits := if supErr l p q = 0 then supL l p q d l.length else []
theorem ret_two {v : Value} {k : IntKind} {a b : Int} (h : a = b) : Ending.returned (.tuple #[v, .int k a]) = .returned (.tuple #[v, .int k b]) := by rw [h]
/-- What both answer. -/
def SupPost (B : Nat) (w : World) (l : List Int) (p q : Int) (d : List Int) (e : Ending) (w' : World) : Prop :=
  ∃ v, e = .returned (.tuple #[v, .int .i64 (supErr l p q)]) ∧ Ho B w' v (supH l p q d) ∧ Below B w w'
theorem supNo {B : Nat} {w w' : World} {l : List Int} {p q : Int} {d : List Int} {x : Int} (h : supErr l p q = x) (hx : x ≠ 0) (hB : Below B w w') : SupPost B w l p q d (.returned (.tuple #[.slice none 0 0, .int .i64 x])) w' := by
  refine ⟨.slice none 0 0, by rw [h], ?_, hB⟩
  unfold supH
  rw [if_neg (by omega)]
  exact Ho.nil _ _
theorem supYes {B : Nat} {w w' : World} {l : List Int} {p q : Int} {d : List Int} {v : Value} (h : supErr l p q = 0) (hv : Ho B w' v (supL l p q d l.length)) (hB : Below B w w') : SupPost B w l p q d (.returned (.tuple #[v, .int .i64 0])) w' := by
  refine ⟨v, by rw [h], ?_, hB⟩
  unfold supH
  rw [if_pos h]
  exact hv

set_option maxRecDepth 100000 in
set_option maxHeartbeats 1600000 in
theorem refSuppress_any (va vd : Value) (l d : List Int) (p q : Int) (w : World) (ha : InS w va l) (hd : InS w vd d) (hl : l.length ≤ 1099511627776) (hdl : d.length ≤ 1099511627776) (hp : I64 p) (hq : I64 q) :
    Calls Try.prog 13 #[va, .int .i64 p, .int .i64 q, vd] w (SupPost w.heap.size w l p q d) := by
  have HA := Lib.hid ha
  have HD := Lib.hid hd
  have AM := Lib.hid (refAll_any va l w ha hl)
  obtain ⟨a, ca, rfl, hca⟩ := ha.form
  obtain ⟨b, cb, rfl, hcb⟩ := hd.form
  have IW := Lib.hid refIn_any
  clear ha hd
  by_cases h4 : 4096 < l.length
  · have hE : Hid (supErr l p q = 3) := Lib.hid (by unfold supErr; rw [if_pos h4])
    go_enter Try.func13, Try.ntmps13
    go_wp2_with fail
    go_ret2
    exact supNo hE.out (by decide) (Below.refl _ _)
  cases h1 : allM l with
  | false =>
    have hE : Hid (supErr l p q = 2) := Lib.hid (by unfold supErr supOk; rw [if_neg h4, h1]; rfl)
    rw [h1] at AM
    go_enter Try.func13, Try.ntmps13
    go_wp2_with (go_at_call 42; refine AM.out.mono ?_; rintro e w' ⟨rfl, rfl⟩)
    go_ret2
    exact supNo hE.out (by decide) (Below.refl _ _)
  | true =>
    rw [h1] at AM
    cases h2 : inB p 0 4095 with
    | false =>
      have hE : Hid (supErr l p q = 2) := Lib.hid (by unfold supErr supOk; rw [if_neg h4, h1, h2]; rfl)
      go_enter Try.func13, Try.ntmps13
      go_wp2_with (first | (go_at_call 42; refine AM.out.mono ?_; rintro e w' ⟨rfl, rfl⟩) | (go_at_call 43; refine (IW.out _ _ _ _).mono ?_; rintro e w' ⟨rfl, rfl⟩; rw [h2]))
      go_ret2
      exact supNo hE.out (by decide) (Below.refl _ _)
    | true =>
      cases h3 : inB q 0 4095 with
      | false =>
        have hE : Hid (supErr l p q = 2) := Lib.hid (by unfold supErr supOk; rw [if_neg h4, h1, h2, h3]; rfl)
        go_enter Try.func13, Try.ntmps13
        go_wp2_with (first | (go_at_call 42; refine AM.out.mono ?_; rintro e w' ⟨rfl, rfl⟩) | (go_at_call 43; refine (IW.out _ _ _ _).mono ?_; rintro e w' ⟨rfl, rfl⟩; first | rw [h2] | rw [h3]))
        go_ret2
        exact supNo hE.out (by decide) (Below.refl _ _)
      | true =>
        have hE : Hid (supErr l p q = 0) := Lib.hid (by unfold supErr supOk; rw [if_neg h4, h1, h2, h3]; rfl)
        have hp2 := inB_true.1 h2
        have hq2 := inB_true.1 h3
        have hm := Lib.hid (fun (k : Nat) (hk : k < l.length) => allM_get h1 hk)
        go_enter Try.func13, Try.ntmps13
        go_wp2_with (first | (go_at_call 42; refine AM.out.mono ?_; rintro e w' ⟨rfl, rfl⟩) | (go_at_call 43; refine (IW.out _ _ _ _).mono ?_; rintro e w' ⟨rfl, rfl⟩; first | rw [h2] | rw [h3]))
        clear AM h1 h2 h3 IW
        go_loopw [10, 11, 12, 13] (fun o i _ _ wr => ∃ k : Nat, k ≤ l.length ∧ i = .int .i64 k ∧ Hid (Ho w.heap.size wr o (supL l p q d k)) ∧ Hid (Below w.heap.size w wr)) (fun _ i _ _ _ => l.length - (intOf i).toNat)
        case atStart => exact ⟨0, Nat.zero_le _, rfl, Lib.hid (Ho.nil _ _), Lib.hid (Below.refl _ _)⟩
        case round =>
          obtain ⟨k, hk, rfl, HO, BL⟩ := hrel
          by_cases hlt : k < l.length
          · obtain ⟨b1, o1, rfl, hb1, hi1, c1⟩ := (HA.out.below BL.out).at hlt
            have hmk := hm.out k hlt
            have HS := Lib.hid (supL_succ l p q d k)
            have HE : Hid (supE l p q d k = if !dead d k && decide (q < l[k] - p) then [((k : Int), l[k] - p)] else []) := Lib.hid (by unfold supE; rw [getI_at l k hlt])
            have HLL := supL_len l p q d k
            generalize supL l p q d k = L at *
            generalize supE l p q d k = E at *
            generalize l[k] = x at *
            obtain ⟨t, ht⟩ : ∃ t, t = decide (p + q < x) := ⟨_, rfl⟩
            go_wp2_with fail
            have ht2 : Hid (decide (q < x - p) = t) := Lib.hid (by rw [ht]; apply decide_eq_decide.2; omega)
            rw [← ht]
            clear ht
            go_loop [12, 13] (fun s i => ∃ j : Nat, j ≤ d.length ∧ i = .int .i64 j ∧ s = .bool (t && !dead (d.take j) k)) (fun _ i => d.length - (intOf i).toNat)
            case atStart => exact ⟨0, Nat.zero_le _, rfl, by simp [dead]⟩
            case round =>
              obtain ⟨j, hj, rfl, rfl⟩ := hrel
              by_cases hjd : j < d.length
              · obtain ⟨b2, o2, rfl, hb2, hi2, c2⟩ := (HD.out.below BL.out).at hjd
                have HT := Lib.hid (dead_take d j hjd k)
                generalize d[j] = z at *
                generalize dead (d.take j) k = dj at *
                cases hs : (t && !dj) with
                | false =>
                  have HF : Hid ((t && !dead (d.take (j + 1)) k) = false) := Lib.hid (by rw [HT.out]; revert hs; cases t <;> cases dj <;> simp [bne])
                  go_wp2_with fail
                  go_round
                  case rel => exact ⟨j + 1, by omega, by go_num, by rw [HF.out]⟩
                  case measure => simp [intOf]; omega
                | true =>
                  have HF : Hid ((t && !dead (d.take (j + 1)) k) = (z != (k : Int))) := Lib.hid (by rw [HT.out]; revert hs; cases t <;> cases dj <;> simp [bne])
                  go_wp2_with fail
                  go_round
                  case rel => exact ⟨j + 1, by omega, by go_num, by rw [HF.out]⟩
                  case measure => simp [intOf]; omega
              · obtain rfl : j = d.length := by omega
                have HT : Hid (d.take d.length = d) := Lib.hid (List.take_of_length_le (Nat.le_refl _))
                rw [HT.out]
                rw [ht2.out] at HE
                cases hs : (t && !dead d k) with
                | false =>
                  have HF : Hid (E = []) := Lib.hid (by rw [HE.out, Bool.and_comm, hs]; rfl)
                  go_wp2_with fail
                  go_roundw
                  case rel => exact ⟨k + 1, by omega, by go_num, Lib.hid (by rw [HS.out, HF.out, List.append_nil]; exact HO.out), BL⟩
                  case measure => simp [intOf]; omega
                | true =>
                  have HF : Hid (E = [((k : Int), x - p)]) := Lib.hid (by rw [HE.out, Bool.and_comm, hs]; rfl)
                  have hhi : I64 (k : Int) ∧ I64 (x - p) := by unfold I64; omega
                  go_wp2_with (at_builtin; refine append_hit rfl _ _ rfl rfl (HO.out.below (Below.alloc (Below.refl _ _) (Nat.le_refl _) _)) wr.heap.size (k : Int) (x - p) hhi rfl ?_ ?_ (by omega) (by have := BL.out.size; simp; omega) ?_)
                  intro v' w' h5 h6
                  have HO2 := Lib.hid h5
                  have BL2 := Lib.hid ((BL.out.alloc BL.out.size _).trans h6)
                  clear h5 h6
                  go_wp2
                  go_roundw
                  case rel => exact ⟨k + 1, by omega, by go_num, Lib.hid (by rw [HS.out, HF.out]; exact HO2.out), BL2⟩
                  case measure => simp [intOf]; omega
          · obtain rfl : k = l.length := by omega
            go_wp2_with fail
            go_ret2
            exact supYes hE.out HO.out BL.out
end Go.Proofs.Ytanillahofohgaa
