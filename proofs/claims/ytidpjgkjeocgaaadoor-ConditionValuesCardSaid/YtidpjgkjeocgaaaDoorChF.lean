/-
  ConditionValues: for every snapshot and every three numbers the law returns true, and each argument reads as it did.
  Conditions: none beside the row's own; the tables are tied to the program's text.
-/
import Derived.Deep.SlicePairs
import Derived.Test.YtidpjgkjeocgaaaDoorChA
import Derived.Test.YtidpjgkjeocgaaaDoorChE
set_option linter.unusedVariables false
set_option linter.unusedSimpArgs false
namespace Go.Proofs.YtidpjgkjeocgaaaDoor
open Go Go.ChangeShapes Go.WideShapes Go.ChangeAt Go.RowKit

section
variable {H : Type} {enc : TypeId × Value → H}
set_option maxRecDepth 100000 in
/-- A row of cells that reads as a number is a number. -/
theorem cellNum {W : World} {b : Nat} {sp : Nat → Bool} {hd : Bool} {n : Nat} {v : Value} {x : DataW H × List MemPlace} (h : DataW.trod enc Tryd.prog W b sp hd n 3 [v] = some x) : ∃ a, v = .int .i64 a := by
  obtain ⟨a, e, _⟩ := DataW.trod_int Tryd.underlying3 h
  exact ⟨a, by simpa using e⟩
theorem some_of_len {α : Type} {xs : List α} {n i : Nat} (h : xs.length = n) (hi : i < n) : ∃ b, xs[i]? = some b := ⟨xs[i]'(by omega), List.getElem?_eq_getElem (by omega)⟩
end
theorem deTri3 : Tryd.prog.cellsOf 26 = 3 := by kernel_rfl
theorem deReadTri : Tryd.prog.readableRec 26 = true := by kernel_rfl
theorem deRowTri : (26 : TypeId) < Tryd.prog.types.size := of_decide_eq_true (by kernel_rfl)
theorem arrayOf3 {α : Type} {cs : Array α} (h : cs.size = 3) : ∃ c0 c1 c2, cs = #[c0, c1, c2] := by
  obtain ⟨l⟩ := cs
  match l, h with
  | [c0, c1, c2], _ => exact ⟨c0, c1, c2, rfl⟩
section
variable {H : Type} {enc : TypeId × Value → H}
set_option maxRecDepth 100000 in
theorem okTri {W : World} {base : Nat} {v : Value} (h : Value.okWide Tryd.prog W .any base 26 v) : ∃ cs, v = .agg cs ∧ cs.size = 3 := by
  have ht := Tryd.underlying26
  simp only [Value.okWide, ht] at h
  obtain ⟨cs, h1, h2, _⟩ := h
  exact ⟨cs, h1, h2.trans deTri3⟩
set_option maxRecDepth 100000 in
theorem openTri {W : World} {base : Nat} {v : Value} {d : DataW H} {p : List MemPlace} (hv : Value.okWide Tryd.prog W .any base 26 v)
    (h : DataW.Trod enc Tryd.prog W 0 (fun _ => true) true 26 v d p) : ∃ a0 a1 a2, v = .agg #[.int .i64 a0, .int .i64 a1, .int .i64 a2] := by
  obtain ⟨cs, rfl, hsz⟩ := okTri hv
  obtain ⟨c0, c1, c2, rfl⟩ := arrayOf3 hsz
  obtain ⟨fuel, hf⟩ := h
  obtain ⟨xs, m, _, _, _, hxl, hall⟩ := DataW.trod_array Tryd.underlying26 hf
  rw [cnInt1] at hall
  have key : ∀ (i : Nat) (c : Value), i < 3 → ((#[c0, c1, c2] : Array Value).toList.drop (i * 1)).take 1 = [c] → ∃ a, c = .int .i64 a := fun i c hi e => by
    obtain ⟨b, hb⟩ := some_of_len hxl hi
    have h1 := hall i hi
    rw [hb] at h1
    have h2 : DataW.trod enc Tryd.prog W 0 (fun _ => true) true m 3 [c] = some b := by rw [← e]; exact h1
    exact cellNum h2
  obtain ⟨a0, rfl⟩ := key 0 c0 (by omega) rfl
  obtain ⟨a1, rfl⟩ := key 1 c1 (by omega) rfl
  obtain ⟨a2, rfl⟩ := key 2 c2 (by omega) rfl
  exact ⟨a0, a1, a2, rfl⟩
end
theorem cnEnt2 : Tryd.prog.cellsOf 44 = 2 := by kernel_rfl
theorem cnEnts1 : Tryd.prog.cellsOf 22 = 1 := by kernel_rfl
theorem cnKinds7 : Tryd.prog.cellsOf 23 = 7 := by kernel_rfl
theorem cnStr1 : Tryd.prog.cellsOf 9 = 1 := by kernel_rfl
theorem cnSnap9 : Tryd.prog.cellsOf 25 = 9 := by kernel_rfl
theorem deReadSnap : Tryd.prog.readableRec 25 = true := by kernel_rfl
theorem deRowSnap : (25 : TypeId) < Tryd.prog.types.size := of_decide_eq_true (by kernel_rfl)
theorem arrayOf9 {α : Type} {cs : Array α} (h : cs.size = 9) : ∃ c0 c1 c2 c3 c4 c5 c6 c7 c8, cs = #[c0, c1, c2, c3, c4, c5, c6, c7, c8] := by
  obtain ⟨l⟩ := cs
  match l, h with
  | [c0, c1, c2, c3, c4, c5, c6, c7, c8], _ => exact ⟨c0, c1, c2, c3, c4, c5, c6, c7, c8, rfl⟩
theorem i64_of_wf {z : Int} (h : (Lit.int .i64 z).wf = true) : -9223372036854775808 ≤ z ∧ z ≤ 9223372036854775807 := by
  simp [Lit.wf, IntKind.min, IntKind.max, IntKind.signed, IntKind.bits] at h
  omega
section
variable {H : Type} {enc : TypeId × Value → H}
set_option maxRecDepth 100000 in
/-- A cell that reads as a list of entries is one. -/
theorem openEnts {W : World} {n : Nat} {v : Value} {x : DataW H × List MemPlace} (h : DataW.trod enc Tryd.prog W 0 (fun _ => true) true n 22 [v] = some x) : ∃ l : Ents, EnS W v l ∧ l.length ≤ maxLen := by
  rcases Go.Deep.open_slice_pairs Tryd.underlying22 Tryd.underlying44 cnEnt2 rfl rfl cnInt1 cnInt1 h with ⟨e, _⟩ | ⟨a, len, cap, m, nn, V0, V1, D0, D1, P0, P1, e, _, hlc, hcm, hm, _, hx⟩
  · simp only [List.cons.injEq, and_true] at e
    subst e
    exact ⟨[], ⟨none, 0, rfl, (fun x hx => by cases hx), fun h => absurd h (by decide)⟩, by unfold maxLen; decide⟩
  · simp only [List.cons.injEq, and_true] at e
    subst e
    rw [if_pos rfl] at hm
    have key : ∀ i, i < len → ∃ p : Int × Int, V0 i = .int .i64 p.1 ∧ V1 i = .int .i64 p.2 ∧ InI p := fun i hi => by
      obtain ⟨_, _, h1, h2⟩ := hx i (by omega)
      obtain ⟨y, e1, _, w1⟩ := DataW.trod_int Tryd.underlying3 h1
      obtain ⟨z, e2, _, w2⟩ := DataW.trod_int Tryd.underlying3 h2
      simp only [List.cons.injEq, and_true] at e1 e2
      exact ⟨(y, z), e1, e2, i64_of_wf w1, i64_of_wf w2⟩
    obtain ⟨f, hf⟩ := Go.Deep.choose_lt key
    have hl : ((List.range len).map f).length = len := by simp
    refine ⟨(List.range len).map f, ⟨some a, cap, by rw [hl], fun x hxm => ?_, fun h0 => ?_⟩, by rw [hl]; exact Nat.le_trans hlc hcm⟩
    · obtain ⟨i, hi, rfl⟩ := List.mem_map.1 hxm
      exact (hf i (List.mem_range.1 hi)).2.2
    · rw [hl] at h0
      have h1 := (hx 0 (by omega)).1
      have hs : a.spot = none := World.cell?_spot (a := a) (by simpa [Addr.add] using h1)
      obtain ⟨b, off, spot⟩ := a
      simp only at hs
      subst hs
      refine ⟨b, off, rfl, fun k hk => ?_⟩
      have hk' : k < len := by rw [hl] at hk; exact hk
      obtain ⟨g0, g1, _, _⟩ := hx k (by omega)
      obtain ⟨f0, f1, _⟩ := hf k hk'
      rw [add_plain] at g0 g1
      rw [f0, Nat.mul_comm] at g0
      rw [f1, Nat.mul_comm, ← Nat.add_assoc] at g1
      have e : ((List.range len).map f)[k] = f k := by simp
      rw [e]
      exact ⟨g0, g1⟩
set_option maxRecDepth 100000 in
/-- An argument that is a snapshot. -/
theorem openSnap {W : World} {base : Nat} {v : Value} {d : DataW H} {p : List MemPlace} (hv : Value.okWide Tryd.prog W .any base 25 v)
    (h : DataW.Trod enc Tryd.prog W 0 (fun _ => true) true 25 v d p) : ∃ (s : ByteArray) (T : Int) (u0 u1 u2 u3 u4 u5 u6 : Value) (ls : Nat → Ents), v = .agg #[.string s, .int .i64 T, u0, u1, u2, u3, u4, u5, u6] ∧ (EnS W u0 (ls 0) ∧ EnS W u1 (ls 1) ∧ EnS W u2 (ls 2) ∧ EnS W u3 (ls 3) ∧ EnS W u4 (ls 4) ∧ EnS W u5 (ls 5) ∧ EnS W u6 (ls 6)) ∧ ∀ j, j < 7 → (ls j).length ≤ maxLen := by
  obtain ⟨cs, rfl, hsz⟩ := okWide_struct Tryd.underlying25 hv
  obtain ⟨c0, c1, c2, c3, c4, c5, c6, c7, c8, rfl⟩ := arrayOf9 (hsz.trans cnSnap9)
  obtain ⟨fuel, hf⟩ := h
  obtain ⟨xs, m, _, _, _, hxl, hall⟩ := DataW.trod_struct Tryd.underlying25 hf
  have hxl3 : xs.length = 3 := hxl
  obtain ⟨x0, hx0⟩ := some_of_len hxl3 (i := 0) (by omega)
  obtain ⟨x1, hx1⟩ := some_of_len hxl3 (i := 1) (by omega)
  obtain ⟨x2, hx2⟩ := some_of_len hxl3 (i := 2) (by omega)
  have g0 : DataW.trod enc Tryd.prog W 0 (fun _ => true) true m 9 (((#[c0, c1, c2, c3, c4, c5, c6, c7, c8] : Array Value).toList.drop 0).take (Tryd.prog.cellsOf 9)) = xs[0]? := hall 0 _ rfl
  rw [hx0, cnStr1] at g0
  have g1 : DataW.trod enc Tryd.prog W 0 (fun _ => true) true m 3 (((#[c0, c1, c2, c3, c4, c5, c6, c7, c8] : Array Value).toList.drop 1).take (Tryd.prog.cellsOf 3)) = xs[1]? := hall 1 _ rfl
  rw [hx1, cnInt1] at g1
  have g2 : DataW.trod enc Tryd.prog W 0 (fun _ => true) true m 23 (((#[c0, c1, c2, c3, c4, c5, c6, c7, c8] : Array Value).toList.drop 2).take (Tryd.prog.cellsOf 23)) = xs[2]? := hall 2 _ rfl
  rw [hx2, cnKinds7] at g2
  obtain ⟨s, e0, _⟩ := DataW.trod_string Tryd.underlying9 g0
  obtain ⟨T, e1, _⟩ := DataW.trod_int Tryd.underlying3 g1
  obtain ⟨ys, mm, _, _, _, hyl, hya⟩ := DataW.trod_array Tryd.underlying23 g2
  rw [cnEnts1] at hya
  simp at e0 e1
  subst e0 e1
  have hyl7 : ys.length = 7 := hyl
  have key : ∀ (i : Nat) (c : Value), i < 7 → (((((#[.string s, .int .i64 T, c2, c3, c4, c5, c6, c7, c8] : Array Value).toList.drop 2).take 7).drop (i * 1)).take 1 = [c]) → ∃ l : Ents, EnS W c l ∧ l.length ≤ maxLen := fun i c hi e => by
    obtain ⟨b, hb⟩ := some_of_len hyl7 hi
    have h1 := hya i hi
    rw [hb] at h1
    have h2 : DataW.trod enc Tryd.prog W 0 (fun _ => true) true mm 22 [c] = some b := by rw [← e]; exact h1
    exact openEnts h2
  obtain ⟨l0, E0, n0⟩ := key 0 c2 (by omega) rfl
  obtain ⟨l1, E1, n1⟩ := key 1 c3 (by omega) rfl
  obtain ⟨l2, E2, n2⟩ := key 2 c4 (by omega) rfl
  obtain ⟨l3, E3, n3⟩ := key 3 c5 (by omega) rfl
  obtain ⟨l4, E4, n4⟩ := key 4 c6 (by omega) rfl
  obtain ⟨l5, E5, n5⟩ := key 5 c7 (by omega) rfl
  obtain ⟨l6, E6, n6⟩ := key 6 c8 (by omega) rfl
  exact ⟨s, T, c2, c3, c4, c5, c6, c7, c8, fun k => match k with | 0 => l0 | 1 => l1 | 2 => l2 | 3 => l3 | 4 => l4 | 5 => l5 | _ => l6, rfl, ⟨E0, E1, E2, E3, E4, E5, E6⟩, pick7 n0 n1 n2 n3 n4 n5 n6⟩
end

set_option maxRecDepth 100000 in
theorem valuesLifted (os : Os) (started : os.Started) (H : Type) (enc : TypeId × Value → H) (F : Stop.Interp) :
    ReturnsInHanded {} Tryd.checked os 3 .any ((OpenSpec.ofChange Rows.conditionValuesSpec).preRow enc Tryd.prog Tryd.f3 [] false Laid4)
      (((OpenSpec.ofChange Rows.conditionValuesSpec).at F).post enc Tryd.prog Tryd.f3 false true false false) := by
  refine returnsInHanded_of_row (C := Tryd.checked) (s := OpenSpec.ofChange Rows.conditionValuesSpec) cnOwn started (by kernel_rfl) Tryd.func3
    (ChangeSpec.witness_shaped (enc := enc) (C := Tryd.checked) (os := os) (s := Rows.conditionValuesSpec) (X := fun w _ => laidMetH Tryd.prog Laid4 w) false (World.doorLaid Tryd.prog 400 os) #[.agg #[.string ⟨#[]⟩, .int .i64 0, .slice none 0 0, .slice none 0 0, .slice none 0 0, .slice none 0 0, .slice none 0 0, .slice none 0 0, .slice none 0 0], .agg #[.int .i64 0, .int .i64 0, .int .i64 0]] 8 rfl (World.shaped_of_RefB (by kernel_rfl) (by kernel_rfl)) (by kernel_rfl) (by kernel_rfl) (by kernel_rfl) (cnDoor os _)) ?_
  intro W base args ds gs before hval0 hW _ _ _ hL hsh _
  have hval : ∀ (j : Nat) t v, Tryd.f3.params[j]? = some t → args[j]? = some v → Value.okWide Tryd.prog W .any base t v := hval0
  have hW' := hW
  obtain ⟨p, q, hA0, hV, rfl, hfz, hnd⟩ := hW
  have hA : DataW.TrodAll enc Tryd.prog W 0 (fun _ => true) true Tryd.f3.params.toList args.toList ds p := hA0
  rw [Tryd.params3] at hA hval
  obtain ⟨v0, v1, d0, d1, p0, p1, rfl, rfl, rfl, h0, h1⟩ := trodAll_two hA
  obtain ⟨rfl, rfl⟩ := trodVars_none hV
  obtain ⟨s, T, u0, u1, u2, u3, u4, u5, u6, ls, rfl, hE, hL7⟩ := openSnap (hval 0 25 v0 rfl rfl) h0
  obtain ⟨q0, q1, q2, rfl⟩ := openTri (hval 1 26 v1 rfl rfl) h1
  clear hA0 hval0
  simp only [List.append_nil, List.nil_append] at hW'
  have hlt : ∀ x ∈ p0 ++ p1, x.block < W.heap.size := fun x hx => hW'.lt x hx
  refine (values_any s T ls u0 u1 u2 u3 u4 u5 u6 q0 q1 q2 W hE hL7 (pow_of_laid hL) (tz_of_laid hL)).mono fun e W' ⟨he, hB⟩ => ?_
  subst he
  refine ⟨_, rfl, _, _, _, [], p0 ++ p1, [], hW', trodAll_mk1 (shut_bool Tryd.underlying4 _), ?_, rfl, hB.frame _, fun h => by cases h⟩
  have t0 := Below.trod cnLaidOut deReadSnap deRowSnap h0 hB (fun x hx => hlt x (List.mem_append_left _ hx))
  have t1 := Below.trod cnLaidOut deReadTri deRowTri h1 hB (fun x hx => hlt x (List.mem_append_right _ hx))
  have t := trodAll_mk2 t0 t1
  exact t

theorem valuesRow : Rows.ConditionValuesSaid :=
  OpenClaim.holds_of_cond 3 Tryd.f3 rfl rfl rfl rfl rfl rfl rfl ⟨rfl, rfl, rfl, rfl, rfl⟩ rfl rfl rfl rfl rfl (by kernel_rfl) Tryd.func3 (by kernel_rfl)
    (of_decide_eq_true (by kernel_rfl)) (by unfold Func.isWrapper; first | (rw [if_pos (by decide +kernel)]; kernel_rfl) | (rw [if_neg (by decide +kernel)]; exact ⟨rfl, rfl⟩))
    (fun os started H enc _ F0 => by rw [OpenClaim.pre_eq_preRow]; exact valuesLifted os started H enc F0)

theorem valuesHolds : Rows.ConditionValuesCardSaid :=
  Claim7.holds_tied_plain_at .later [] [.data, .data, .data] true (true, "d467edfc15e53c67ebf4116f2b846b91799719a45c2373883caad64099f6ec3d") false
    valuesRow (fun _ h => by cases h) (by kernel_rfl) (fun _ h => by cases h) conditionValues_row_tie rfl ⟨rfl, rfl⟩ (by kernel_rfl) rfl
    (fun f fn hf hfn => by
      obtain rfl : f = 3 := Option.some.inj ((show Tryd.prog.funcNamed "hodoscope/hodoscopelaw04.ConditionValues" = some 3 by kernel_rfl).symm.trans hf) |>.symm
      obtain rfl : fn = Tryd.f3 := (Option.some.inj (Tryd.func3.symm.trans hfn)).symm
      exact ⟨by kernel_rfl, fun j t ht => by
        rw [Tryd.params3] at ht
        have hm : t ∈ [25, 26] := by simpa using Array.mem_of_getElem? ht
        have hall : ([25, 26].all fun u => !Tryd.prog.wantsStandIn u) = true := by kernel_rfl
        exact (show Tryd.prog.wantsStandIn t = false by simpa using List.all_eq_true.1 hall t hm)⟩)
    (by kernel_rfl)
#print axioms valuesHolds
end Go.Proofs.YtidpjgkjeocgaaaDoor
