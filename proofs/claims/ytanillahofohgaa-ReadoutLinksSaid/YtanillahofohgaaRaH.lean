/- Layer 5: measurements that pile up, the program's. -/
import Derived.Laws.CopyOwn
import Derived.Test.YtanillahofohgaaRaG
set_option linter.unusedVariables false
set_option linter.unusedSimpArgs false
namespace Go.Proofs.Ytanillahofohgaa
open Go.RowKit

theorem add_at (b off i : Nat) : (⟨b, off, none⟩ : Addr).add i = ⟨b, off + i, none⟩ := by unfold Addr.add; split <;> simp_all
theorem sz_setCells (b : Nat) : ∀ (vs : List Value) (o : Nat) (w : World), (w.setCells b o vs).heap.size = w.heap.size
  | [], _, _ => rfl
  | v :: r, o, w => by rw [World.setCells, sz_setCells b r]; simp
theorem int_size : (Try.prog.info? 3).map (·.size) = some 1 := by kernel_rfl
/-- For a walk's arms: this is a call of copy. -/
theorem is_copy {P : Program} {ops : Array Oper} {rest : List Oper} {a : Act} {Q : Exit → Act → World → Prop} {w : World} {dst : Option Tmp} {x : Array Operand} {y : Array TypeId} {ty : TypeId} {pos : String} {after : Array Edge} {g : Option (Nat × Bool)}
    (h : wpList P ops Q (⟨dst, .call { callee := .builtin .copy, args := x, argTypes := y }, ty, pos, after, g⟩ :: rest) a w) : wpList P ops Q (⟨dst, .call { callee := .builtin .copy, args := x, argTypes := y }, ty, pos, after, g⟩ :: rest) a w := h
/-- 'copy' of a list onto a row of zeros. -/
theorem copy_ints {ops : Array Oper} {rest : List Oper} {o : Oper} {a : Act} {Q : Exit → Act → World → Prop} {W : World} (hgd : o.guard = none) (d s : Operand)
    (ho : o.op = .call { callee := .builtin .copy, args := #[d, s], argTypes := #[22, 22] }) (g n : Nat) (hd : a.eval d = .slice (some ⟨g, 0, none⟩) n n) (hR : RF W g 3 n (fun _ => .int .i64 0))
    {v : Value} {l : List Int} (hs : a.eval s = v) (hv : InS W v l) (hn : l.length ≤ n)
    (hK : ∀ w', RF w' g 3 n (fun j => .int .i64 (getI l j)) → Below g W w' → w'.heap.size = W.heap.size → wpList Try.prog ops Q rest (a.put o.dst (goInt l.length)) w') : wpList Try.prog ops Q (o :: rest) a W := by
  have hmin : Nat.min l.length n = l.length := Nat.min_eq_left hn
  have H := Lib.hid hv
  obtain ⟨ad, cap, rfl, hc⟩ := hv.form
  clear hv
  by_cases h0 : l.length = 0
  · have hl : l = [] := List.eq_nil_of_length_eq_zero h0
    subst hl
    exact wpList_copy_nothing hgd d s _ _ ho 3 int_slice int_size _ ad n n _ cap hd hs (by simp) (hK W (hR.congr (fun i _ => by simp [getI])) (Below.refl _ _) rfl)
  · obtain ⟨_, _, e, _, _, hx⟩ := H.out
    cases e
    obtain ⟨b, off, rfl, hcell⟩ := hx (by omega)
    have hlen : (inC l).length = l.length := by simp [inC]
    have hrun := run_copy_cells (P := Try.prog) W 22 22 o.type 3 g 0 n n ⟨b, off, none⟩ l.length cap (inC l) int_slice int_size (by rw [hlen, hmin])
      (fun j u hj => by
        have hjl : j < l.length := by have := (List.getElem?_eq_some_iff.1 hj).1; omega
        have e : (inC l)[j]? = some (.int .i64 l[j]) := by simp [inC, hjl]
        rw [e] at hj
        cases hj
        rw [add_at]
        exact hcell j hjl)
      (fun j hj => by rw [Nat.zero_add, hR.cell (by omega)]; rfl) (fun j hj => by rw [Nat.zero_add]; exact hR.frozen (by omega)) (fun u hu => by simp only [inC, List.mem_map] at hu; obtain ⟨_, _, rfl⟩ := hu; rfl)
    refine wpList_plain hgd fun K hK' => ?_
    unfold Oper.wp execOp
    simp only [ho, resolve, invoke, builtin, Sem.run_bind, Sem.run_pure, Result.andThen_ok, List.map_toArray, List.map_cons, List.map_nil, hd, hs, hrun]
    rw [hlen]
    refine hK' _ _ (hK _ ((RF.sets (inC l) 0 W _ hR).congr (fun j hj => ?_)) (Lib.below_setCells_w (Nat.le_refl g) _ _ _) ?_)
    · rw [hlen]
      by_cases hj : j < l.length
      · rw [if_pos (by omega), Nat.sub_zero]
        have e : (inC l)[j]? = some (.int .i64 l[j]) := by simp [inC, hj]
        rw [e, getI_at l j hj]
        rfl
      · rw [if_neg (by omega), getI_out l j hj]
    · exact sz_setCells _ _ _ _

theorem setI (f : Nat → Int) (i : Nat) (x : Int) (j : Nat) : (if j = i then Value.int .i64 x else .int .i64 (f j)) = .int .i64 (if j = i then x else f j) := by split <;> rfl
/-- How far the sums have come. -/
def pilM (a b : List Int) (k i : Nat) : Int := if i < k then pilE a b i else getI a i
theorem rf_io {B : Nat} {W : World} {g n : Nat} {f : Nat → Value} {l : List Int} (h : RF W g 3 n f) (hB : B ≤ g) (hl : l.length = n) (hn : n ≤ maxLen) (hf : ∀ i (hi : i < l.length), f i = .int .i64 l[i]) (hb : ∀ x ∈ l, I64 x) : Io B W (.slice (some ⟨g, 0, none⟩) n n) l := by
  subst hl
  refine ⟨⟨by simp [inC], .inr ⟨g, l.length, f, rfl, hB, by rw [Nat.mul_one]; exact h, Nat.le_refl _, hn, fun j hj => ?_⟩⟩, hb⟩
  rw [Nat.mul_one] at hj
  rw [hf j hj]
  simp [inC, hj]
theorem pil_bd {a b : List Int} (ha : ∀ i, 0 ≤ getI a i ∧ getI a i ≤ 4095) (hb : ∀ i, 0 ≤ getI b i ∧ getI b i ≤ 4095) (i : Nat) : 0 ≤ pilE a b i ∧ pilE a b i ≤ 4095 := by
  have := ha i; have := hb i
  unfold pilE; omega

set_option maxRecDepth 100000 in
set_option maxHeartbeats 1600000 in
theorem Pile_any (va vb : Value) (l m : List Int) (w : World) (ha : InS w va l) (hb : InS w vb m) (hl : l.length ≤ 1099511627776) (hml : m.length ≤ 1099511627776) :
    Calls Try.prog 15 #[va, vb] w (PilPost w.heap.size w l m) := by
  have HA := Lib.hid ha
  have HB := Lib.hid hb
  have AM := Lib.hid (areMeasured_any va l w ha hl)
  have BM := Lib.hid (areMeasured_any vb m w hb hml)
  obtain ⟨a, ca, rfl, hca⟩ := ha.form
  obtain ⟨b, cb, rfl, hcb⟩ := hb.form
  clear ha hb
  by_cases h4 : 4096 < l.length
  · have hE : Hid (pilErr l m = 3) := Lib.hid (by unfold pilErr; rw [if_pos (.inl h4)])
    go_enter Try.func15, Try.ntmps15
    go_wp2_with fail
    go_ret2
    exact pilNo hE.out (by decide) (Below.refl _ _)
  by_cases h5 : 4096 < m.length
  · have hE : Hid (pilErr l m = 3) := Lib.hid (by unfold pilErr; rw [if_pos (.inr h5)])
    go_enter Try.func15, Try.ntmps15
    go_wp2_with fail
    all_goals
      go_ret2
      exact pilNo hE.out (by decide) (Below.refl _ _)
  have h45 : ¬ (4096 < l.length ∨ 4096 < m.length) := by omega
  cases h1 : allM l with
  | false =>
    have hE : Hid (pilErr l m = 2) := Lib.hid (by unfold pilErr; rw [if_neg h45, h1]; rfl)
    rw [h1] at AM
    clear h45
    go_enter Try.func15, Try.ntmps15
    go_wp2_with (go_at_call 40; refine AM.out.mono ?_; rintro e w' ⟨rfl, rfl⟩)
    go_ret2
    exact pilNo hE.out (by decide) (Below.refl _ _)
  | true =>
    rw [h1] at AM
    cases h2 : allM m with
    | false =>
      have hE : Hid (pilErr l m = 2) := Lib.hid (by unfold pilErr; rw [if_neg h45, h1, h2]; rfl)
      rw [h2] at BM
      clear h45
      go_enter Try.func15, Try.ntmps15
      go_wp2_with (go_at_call 40; first | ((with_reducible refine AM.out.mono ?_); rintro e w' ⟨rfl, rfl⟩) | ((with_reducible refine BM.out.mono ?_); rintro e w' ⟨rfl, rfl⟩))
      go_ret2
      exact pilNo hE.out (by decide) (Below.refl _ _)
    | true =>
      have hE : Hid (pilErr l m = 0) := Lib.hid (by unfold pilErr; rw [if_neg h45, h1, h2]; rfl)
      rw [h2] at BM
      have GA := Lib.hid (fun i => getI_bd h1 i)
      have GB := Lib.hid (fun i => getI_bd h2 i)
      clear h45 h1 h2
      have hmx : (max (l.length : Int) (m.length : Int)) = ((max l.length m.length : Nat) : Int) := by omega
      obtain ⟨n, hn⟩ : ∃ n, n = max l.length m.length := ⟨_, rfl⟩
      rw [← hn] at hmx
      have HMK := run_make_row' (P := Try.prog) 22 3 (.int .i64 0) 8 Try.underlying22 int_info rfl .i64 .i64 n (by omega) (by omega)
      obtain ⟨C, hC⟩ : ∃ C, madeCells #[.int .i64 0] n = C := ⟨_, rfl⟩
      rw [hC] at HMK
      have RD := Lib.hid (made_rf w (.int .i64 0) n 3 C hC)
      have hln : l.length ≤ n := by omega
      have HN := Lib.hid hn
      clear hn hC
      go_enter Try.func15, Try.ntmps15
      have h4' : (l.length : Int) ≤ 4096 := by omega
      have h5' : (m.length : Int) ≤ 4096 := by omega
      go_wp2_with (first
        | (go_at_call 40; (first | ((with_reducible refine AM.out.mono ?_); rintro e w' ⟨rfl, rfl⟩) | ((with_reducible refine BM.out.mono ?_); rintro e w' ⟨rfl, rfl⟩)))
        | (refine is_copy ?_; refine copy_ints rfl _ _ rfl w.heap.size n rfl RD.out rfl (HA.out.below (Below.alloc (Below.refl _ _) (Nat.le_refl _) _)) hln ?_))
      intro w2 hr hb2 hsz
      have R2 := Lib.hid hr
      have B2 : Hid (Below w.heap.size w w2) := Lib.hid ((Below.alloc (Below.refl _ _) (Nat.le_refl _) _).trans hb2)
      have hsz2 : w2.heap.size = w.heap.size + 1 := hsz
      clear hr hb2 hsz RD HMK AM BM hmx
      go_wp2
      go_loopw [7, 8, 36] (fun _ _ i wr => ∃ k : Nat, k ≤ m.length ∧ i = .int .i64 k ∧ Hid (RF wr w.heap.size 3 n (fun i => .int .i64 (pilM l m k i))) ∧ Hid (Below w.heap.size w wr) ∧ wr.heap.size = w.heap.size + 1) (fun _ _ i _ => m.length - (intOf i).toNat)
      case atStart => exact ⟨0, Nat.zero_le _, rfl, Lib.hid (R2.out.congr (fun i _ => by simp [pilM])), B2, hsz2⟩
      case round =>
        obtain ⟨k, hk, rfl, HR, BL, hwr⟩ := hrel
        by_cases hlt : k < m.length
        · obtain ⟨b1, o1, rfl, hb1, hi1, c1⟩ := (HB.out.below BL.out).at hlt
          have hkn : k < n := by have := HN.out; omega
          have c2 := HR.out.cell hkn
          have f2 := HR.out.frozen hkn
          have ga := GA.out k
          have gb := GB.out k
          have e1 : pilM l m k k = getI l k := by unfold pilM; rw [if_neg (by omega)]
          rw [e1] at c2
          rw [← getI_at m k hlt] at c1
          have R3 : Hid (RF (wr.setCell ⟨w.heap.size, k, none⟩ (.int .i64 (min (getI l k + getI m k) 4095))) w.heap.size 3 n (fun i => .int .i64 (pilM l m (k + 1) i))) := Lib.hid ((HR.out.set k _).congr (fun j _ => by
            rw [setI]
            congr 1
            unfold pilM
            by_cases h1 : j = k
            · subst h1; rw [if_pos rfl, if_pos (by omega)]; rfl
            · rw [if_neg h1]
              by_cases h2 : j < k
              · rw [if_pos h2, if_pos (by omega)]
              · rw [if_neg h2, if_neg (by omega)]))
          have B3 : Hid (Below w.heap.size w (wr.setCell ⟨w.heap.size, k, none⟩ (.int .i64 (min (getI l k + getI m k) 4095)))) := Lib.hid (BL.out.setCell (p := ⟨w.heap.size, k, none⟩) (Nat.le_refl _) _)
          generalize getI l k = x at *
          generalize getI m k = y at *
          go_wp2_with fail
          go_roundw
          case rel => exact ⟨k + 1, by omega, by go_num, R3, B3, by simpa using hwr⟩
          case measure => simp [intOf]; omega
        · obtain rfl : k = m.length := by omega
          have hx : Hid (Io w.heap.size wr (.slice (some ⟨w.heap.size, 0, none⟩) n n) (pilL l m n)) := Lib.hid (rf_io HR.out (Nat.le_refl _) (pilL_len _ _ _) (by unfold maxLen; have := HN.out; omega) (fun i hi => by
            rw [pilL_at]
            congr 1
            unfold pilM
            by_cases h1 : i < m.length
            · rw [if_pos h1]
            · rw [if_neg h1]
              unfold pilE
              have := GA.out i
              rw [getI_out m i h1]
              omega) (fun x hx => by
            unfold pilL at hx
            simp only [List.mem_map] at hx
            obtain ⟨i, _, rfl⟩ := hx
            have := pil_bd GA.out GB.out i
            unfold I64; omega))
          go_wp2_with fail
          go_ret2
          exact pilYes hE.out (by rw [← HN.out]; exact hx.out) BL.out
end Go.Proofs.Ytanillahofohgaa
