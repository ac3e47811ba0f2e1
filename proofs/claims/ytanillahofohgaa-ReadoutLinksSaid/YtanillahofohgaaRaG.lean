/- Layer 5: measurements that pile up. -/
import Derived.Deep.OwnRows
import Derived.Laws.IdiomCopy
import Derived.Test.YtanillahofohgaaRaF
set_option linter.unusedVariables false
set_option linter.unusedSimpArgs false
namespace Go.Proofs.Ytanillahofohgaa
open Go.RowKit

/-! ### Numbers of the call's own -/
def inC (l : List Int) : List Value := l.map fun x => .int .i64 x
def Io (B : Nat) (W : World) (v : Value) (l : List Int) : Prop := Rw 3 1 B W v l.length (inC l) ∧ ∀ x ∈ l, I64 x
theorem Io.ins {B : Nat} {W : World} {v : Value} {l : List Int} (h : Io B W v l) : InS W v l := by
  obtain ⟨hr, hb⟩ := h
  rcases id hr.2 with ⟨rfl, h0⟩ | ⟨g, cap, f, rfl, hB, hf, hc, hm, hx⟩
  · exact ⟨none, 0, by rw [h0], by omega, hb, fun hn => by omega⟩
  · refine ⟨_, cap, rfl, hc, hb, fun hn => ⟨g, 0, rfl, fun k hk => ?_⟩⟩
    have x1 := hx k (by omega)
    have e1 : (inC l)[k]? = some (.int .i64 l[k]) := by simp [inC, hk]
    rw [e1] at x1
    have c1 := hf.cell (i := k) (by omega)
    rw [← Option.some.inj x1] at c1
    rw [Nat.zero_add]
    exact c1
theorem Io.nil (B : Nat) (W : World) : Io B W (.slice none 0 0) [] := ⟨Rw_nil _ _ _ _, (fun x hx => by cases hx)⟩
theorem Io.below {B : Nat} {W W' : World} {v : Value} {l : List Int} (h : Io B W v l) (k : Below W.heap.size W W') : Io B W' v l := ⟨h.1.below k, h.2⟩
theorem Io.mono {B B' : Nat} {W : World} {v : Value} {l : List Int} (h : Io B W v l) (k : B' ≤ B) : Io B' W v l := ⟨h.1.mono k, h.2⟩
theorem new_one (W : World) (a : Value) (t : TypeId) : (W.alloc (.cells #[a] t)).cell? ⟨W.heap.size, 0, none⟩ = some a := by
  have h := _root_.Go.heap_alloc_new W (.cells #[a] t)
  unfold World.cell?; rw [h]; rfl
/-- A number behind a row. -/
theorem append_one {ops : Array Oper} {rest : List Oper} {o : Oper} {a : Act} {Q : Exit → Act → World → Prop} {W : World} (hgd : o.guard = none) (s y : Operand)
    (ho : o.op = .call { callee := .builtin .append, args := #[s, y], argTypes := #[22, 22] }) {B : Nat} {v : Value} {l : List Int}
    (hs : a.eval s = v) (h : Io B W v l) (g : Nat) (x : Int) (hi : I64 x) (hy : a.eval y = .slice (some ⟨g, 0, none⟩) 1 1) (c0 : W.cell? ⟨g, 0, none⟩ = some (.int .i64 x))
    (hl : l.length ≤ 1000000000) (hB : B ≤ W.heap.size)
    (hK : ∀ v' w', Io B w' v' (l ++ [x]) → Below B W w' → wpList Try.prog ops Q rest (a.put o.dst v') w') :
    wpList Try.prog ops Q (o :: rest) a W := by
  refine wpList_append_rw hgd s y _ _ ho (.int .i64 0) 8 int_slice int_info rfl (by decide) hs h.1 _ hy 1 [.int .i64 x]
    (Src.ofSlice W int_slice ⟨g, 0, none⟩ 1 1 _ rfl (fun j u hj => ?_) (fun u hu => ?_)) (by unfold maxLen; omega) (by omega) hB fun v' w' h1 h2 h3 => hK v' w' ⟨?_, ?_⟩ (grown_below h2 (fun g hg => (h.1.lt g hg).1) hB)
  · match j, hj with
    | 0, hj => simp at hj; subst hj; simpa [Addr.add] using c0
  · simp at hu
    subst hu
    rfl
  · have e : inC l ++ [.int .i64 x] = inC (l ++ [x]) := by simp [inC]
    rw [← e, List.length_append]
    exact h1
  · intro x hx
    rcases List.mem_append.1 hx with hx | hx
    · exact h.2 x hx
    · rw [List.mem_singleton.1 hx]; exact hi

/-! ### The numbers -/
def pilE (a b : List Int) (i : Nat) : Int := min (getI a i + getI b i) 4095
def pilL (a b : List Int) (k : Nat) : List Int := (List.range k).map (pilE a b)
theorem pilL_succ (a b : List Int) (k : Nat) : pilL a b (k + 1) = pilL a b k ++ [pilE a b k] := by unfold pilL; rw [List.range_succ]; simp
theorem pilL_len (a b : List Int) (k : Nat) : (pilL a b k).length = k := by simp [pilL]
theorem pilL_at (a b : List Int) (k i : Nat) (h : i < (pilL a b k).length) : (pilL a b k)[i] = pilE a b i := by simp [pilL]
theorem pilE_comm (a b : List Int) (i : Nat) : pilE a b i = pilE b a i := by unfold pilE; rw [Int.add_comm]
def pilErr (a b : List Int) : Int := if 4096 < a.length ∨ 4096 < b.length then 3 else if allM a && allM b then 0 else 2
def pilR (a b : List Int) : List Int := if pilErr a b = 0 then pilL a b (max a.length b.length) else []
theorem pilErr_comm (a b : List Int) : pilErr a b = pilErr b a := by
  unfold pilErr
  rw [Bool.and_comm]
  simp only [or_comm]
theorem pilR_comm (a b : List Int) : pilR a b = pilR b a := by
  unfold pilR pilL
  rw [pilErr_comm, Nat.max_comm]
  congr 1
  apply List.map_congr_left
  intro i _
  exact pilE_comm a b i
theorem getI_bd {l : List Int} (h : allM l = true) (i : Nat) : 0 ≤ getI l i ∧ getI l i ≤ 4095 := by
  unfold getI
  by_cases hi : i < l.length
  · rw [List.getElem?_eq_getElem hi]; exact allM_get h hi
  · rw [List.getElem?_eq_none (by omega)]; decide
theorem getI_out (l : List Int) (i : Nat) (h : ¬ i < l.length) : getI l i = 0 := by unfold getI; rw [List.getElem?_eq_none (by omega)]; rfl
/-- What both answer. -/
def PilPost (B : Nat) (w : World) (a b : List Int) (e : Ending) (w' : World) : Prop :=
  ∃ v, e = .returned (.tuple #[v, .int .i64 (pilErr a b)]) ∧ Io B w' v (pilR a b) ∧ Below B w w'
theorem pilNo {B : Nat} {w w' : World} {a b : List Int} {x : Int} (h : pilErr a b = x) (hx : x ≠ 0) (hB : Below B w w') : PilPost B w a b (.returned (.tuple #[.slice none 0 0, .int .i64 x])) w' := by
  refine ⟨.slice none 0 0, by rw [h], ?_, hB⟩
  unfold pilR
  rw [if_neg (by omega)]
  exact Io.nil _ _
theorem pilYes {B : Nat} {w w' : World} {a b : List Int} {v : Value} (h : pilErr a b = 0) (hv : Io B w' v (pilL a b (max a.length b.length))) (hB : Below B w w') : PilPost B w a b (.returned (.tuple #[v, .int .i64 0])) w' := by
  refine ⟨v, by rw [h], ?_, hB⟩
  unfold pilR
  rw [if_pos h]
  exact hv

set_option maxRecDepth 100000 in
set_option maxHeartbeats 1600000 in
theorem refPile_any (va vb : Value) (l m : List Int) (w : World) (ha : InS w va l) (hb : InS w vb m) (hl : l.length ≤ 1099511627776) (hml : m.length ≤ 1099511627776) :
    Calls Try.prog 16 #[va, vb] w (PilPost w.heap.size w l m) := by
  have HA := Lib.hid ha
  have HB := Lib.hid hb
  have AM := Lib.hid (refAll_any va l w ha hl)
  have BM := Lib.hid (refAll_any vb m w hb hml)
  obtain ⟨a, ca, rfl, hca⟩ := ha.form
  obtain ⟨b, cb, rfl, hcb⟩ := hb.form
  clear ha hb
  by_cases h4 : 4096 < l.length
  · have hE : Hid (pilErr l m = 3) := Lib.hid (by unfold pilErr; rw [if_pos (.inl h4)])
    go_enter Try.func16, Try.ntmps16
    go_wp2_with fail
    go_ret2
    exact pilNo hE.out (by decide) (Below.refl _ _)
  by_cases h5 : 4096 < m.length
  · have hE : Hid (pilErr l m = 3) := Lib.hid (by unfold pilErr; rw [if_pos (.inr h5)])
    go_enter Try.func16, Try.ntmps16
    go_wp2_with fail
    all_goals
      go_ret2
      exact pilNo hE.out (by decide) (Below.refl _ _)
  have h45 : ¬ (4096 < l.length ∨ 4096 < m.length) := by omega
  cases h1 : allM l with
  | false =>
    have hE : Hid (pilErr l m = 2) := Lib.hid (by unfold pilErr; rw [if_neg h45, h1]; rfl)
    rw [h1] at AM
    clear h45
    go_enter Try.func16, Try.ntmps16
    go_wp2_with (go_at_call 42; refine AM.out.mono ?_; rintro e w' ⟨rfl, rfl⟩)
    go_ret2
    exact pilNo hE.out (by decide) (Below.refl _ _)
  | true =>
    rw [h1] at AM
    cases h2 : allM m with
    | false =>
      have hE : Hid (pilErr l m = 2) := Lib.hid (by unfold pilErr; rw [if_neg h45, h1, h2]; rfl)
      rw [h2] at BM
      clear h45
      go_enter Try.func16, Try.ntmps16
      go_wp2_with (go_at_call 42; first | ((with_reducible refine AM.out.mono ?_); rintro e w' ⟨rfl, rfl⟩) | ((with_reducible refine BM.out.mono ?_); rintro e w' ⟨rfl, rfl⟩))
      go_ret2
      exact pilNo hE.out (by decide) (Below.refl _ _)
    | true =>
      have hE : Hid (pilErr l m = 0) := Lib.hid (by unfold pilErr; rw [if_neg h45, h1, h2]; rfl)
      rw [h2] at BM
      have GA := Lib.hid (fun i => getI_bd h1 i)
      have GB := Lib.hid (fun i => getI_bd h2 i)
      clear h45 h1 h2
      go_enter Try.func16, Try.ntmps16
      go_wp2_with (go_at_call 42; first | ((with_reducible refine AM.out.mono ?_); rintro e w' ⟨rfl, rfl⟩) | ((with_reducible refine BM.out.mono ?_); rintro e w' ⟨rfl, rfl⟩))
      clear AM BM
      go_loopw [6, 7, 8] (fun o i _ wr => ∃ k : Nat, k ≤ max l.length m.length ∧ i = .int .i64 k ∧ Hid (Io w.heap.size wr o (pilL l m k)) ∧ Hid (Below w.heap.size w wr)) (fun _ i _ _ => max l.length m.length - (intOf i).toNat)
      case atStart => exact ⟨0, Nat.zero_le _, rfl, Lib.hid (Io.nil _ _), Lib.hid (Below.refl _ _)⟩
      case round =>
        obtain ⟨k, hk, rfl, HO, BL⟩ := hrel
        by_cases hlt : k < max l.length m.length
        · have HS := Lib.hid (pilL_succ l m k)
          have HLL := pilL_len l m k
          have ga := GA.out k
          have gb := GB.out k
          have HE : Hid (pilE l m k = min (getI l k + getI m k) 4095) := Lib.hid rfl
          have XA := Lib.hid (getI_at l k)
          have XB := Lib.hid (getI_at m k)
          have OA := Lib.hid (getI_out l k)
          have OB := Lib.hid (getI_out m k)
          obtain ⟨x, hx⟩ : ∃ x, x = getI l k := ⟨_, rfl⟩
          obtain ⟨y, hy⟩ : ∃ y, y = getI m k := ⟨_, rfl⟩
          rw [← hx, ← hy] at HE
          rw [← hx] at XA OA ga
          rw [← hy] at XB OB gb
          clear hx hy
          generalize pilL l m k = L at *
          generalize pilE l m k = E at *
          by_cases ka : k < l.length
          · obtain ⟨b1, o1, rfl, hb1, hi1, c1⟩ := (HA.out.below BL.out).at ka
            rw [← XA.out ka] at c1
            by_cases kb : k < m.length
            · obtain ⟨b2, o2, rfl, hb2, hi2, c2⟩ := (HB.out.below BL.out).at kb
              rw [← XB.out kb] at c2
              have hI : I64 (min (x + y) 4095) := by unfold I64; omega
              have hE2 : Hid (E = min (x + y) 4095) := Lib.hid (by rw [HE.out])
              go_wp2_with (at_builtin; refine append_one rfl _ _ rfl rfl (HO.out.below (Below.alloc (Below.refl _ _) (Nat.le_refl _) _)) wr.heap.size (min (x + y) 4095) hI rfl (new_one _ _ _) (by omega) (by have := BL.out.size; simp; omega) ?_)
              intro v' w' h5 h6
              have HO2 := Lib.hid h5
              have BL2 := Lib.hid ((BL.out.alloc BL.out.size _).trans h6)
              clear h5 h6
              go_wp2
              go_roundw
              case rel => exact ⟨k + 1, by omega, by go_num, Lib.hid (by rw [HS.out, hE2.out]; exact HO2.out), BL2⟩
              case measure => simp [intOf]; omega
            · have hy0 := OB.out kb
              have hI : I64 (min x 4095) := by unfold I64; omega
              have hE2 : Hid (E = min x 4095) := Lib.hid (by rw [HE.out, hy0, Int.add_zero])
              go_wp2_with (at_builtin; refine append_one rfl _ _ rfl rfl (HO.out.below (Below.alloc (Below.refl _ _) (Nat.le_refl _) _)) wr.heap.size (min x 4095) hI rfl (new_one _ _ _) (by omega) (by have := BL.out.size; simp; omega) ?_)
              intro v' w' h5 h6
              have HO2 := Lib.hid h5
              have BL2 := Lib.hid ((BL.out.alloc BL.out.size _).trans h6)
              clear h5 h6
              go_wp2
              go_roundw
              case rel => exact ⟨k + 1, by omega, by go_num, Lib.hid (by rw [HS.out, hE2.out]; exact HO2.out), BL2⟩
              case measure => simp [intOf]; omega
          · have kb : k < m.length := by omega
            obtain ⟨b2, o2, rfl, hb2, hi2, c2⟩ := (HB.out.below BL.out).at kb
            rw [← XB.out kb] at c2
            have hx0 := OA.out ka
            have hI : I64 (min y 4095) := by unfold I64; omega
            have hE2 : Hid (E = min y 4095) := Lib.hid (by rw [HE.out, hx0, Int.zero_add])
            go_wp2_with (at_builtin; refine append_one rfl _ _ rfl rfl (HO.out.below (Below.alloc (Below.refl _ _) (Nat.le_refl _) _)) wr.heap.size (min y 4095) hI rfl (new_one _ _ _) (by omega) (by have := BL.out.size; simp; omega) ?_)
            intro v' w' h5 h6
            have HO2 := Lib.hid h5
            have BL2 := Lib.hid ((BL.out.alloc BL.out.size _).trans h6)
            clear h5 h6
            go_wp2
            go_roundw
            case rel => exact ⟨k + 1, by omega, by go_num, Lib.hid (by rw [HS.out, hE2.out]; exact HO2.out), BL2⟩
            case measure => simp [intOf]; omega
        · obtain rfl : k = max l.length m.length := by omega
          have h6 : ¬ (max l.length m.length : Int) < l.length := by omega
          have h7 : ¬ (max l.length m.length : Int) < m.length := by omega
          go_wp2_with fail
          go_ret2
          exact pilYes hE.out HO.out BL.out
end Go.Proofs.Ytanillahofohgaa
