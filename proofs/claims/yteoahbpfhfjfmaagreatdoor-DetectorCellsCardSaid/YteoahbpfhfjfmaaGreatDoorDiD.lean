/-
  DetectorCells: for every plane and every four numbers the law returns true, and each argument reads as it did.
  Conditions: none beside the row's own; the tables are tied to the program's text.
-/
import Derived.Test.YteoahbpfhfjfmaaGreatDoorDhA
import Derived.Test.YteoahbpfhfjfmaaGreatDoorDiC
set_option linter.unusedVariables false
set_option linter.unusedSimpArgs false
namespace Go.Proofs.YteoahbpfhfjfmaaGreatDoor
open Go Go.ChangeShapes Go.WideShapes Go.ChangeAt Go.RowKit

theorem dePlane7 : Tryz.prog.cellsOf 43 = 7 := by kernel_rfl
theorem deReadPlane : Tryz.prog.readableRec 43 = true := by kernel_rfl
theorem deRowPlane : (43 : TypeId) < Tryz.prog.types.size := of_decide_eq_true (by kernel_rfl)
theorem deFour4 : Tryz.prog.cellsOf 44 = 4 := by kernel_rfl
theorem deReadFour : Tryz.prog.readableRec 44 = true := by kernel_rfl
theorem deRowFour : (44 : TypeId) < Tryz.prog.types.size := of_decide_eq_true (by kernel_rfl)

section
variable {H : Type} {enc : TypeId × Value → H}
set_option maxRecDepth 100000 in
/-- A row of cells that reads as a number is a number. -/
theorem cellNum {W : World} {b : Nat} {sp : Nat → Bool} {hd : Bool} {n : Nat} {v : Value} {x : DataW H × List MemPlace} (h : DataW.trod enc Tryz.prog W b sp hd n 3 [v] = some x) : ∃ a, v = .int .i64 a := by
  obtain ⟨a, e, _⟩ := DataW.trod_int Tryz.underlying3 h
  exact ⟨a, by simpa using e⟩
set_option maxRecDepth 100000 in
theorem okFour {W : World} {base : Nat} {v : Value} (h : Value.okWide Tryz.prog W .any base 44 v) : ∃ cs, v = .agg cs ∧ cs.size = 4 := by
  have ht := Tryz.underlying44
  simp only [Value.okWide, ht] at h
  obtain ⟨cs, h1, h2, _⟩ := h
  exact ⟨cs, h1, h2.trans deFour4⟩
theorem some_of_len {α : Type} {xs : List α} {n i : Nat} (h : xs.length = n) (hi : i < n) : ∃ b, xs[i]? = some b := ⟨xs[i]'(by omega), List.getElem?_eq_getElem (by omega)⟩

set_option maxRecDepth 100000 in
/-- An argument of four numbers. -/
theorem openFour {W : World} {base : Nat} {v : Value} {d : DataW H} {p : List MemPlace} (hv : Value.okWide Tryz.prog W .any base 44 v)
    (h : DataW.Trod enc Tryz.prog W 0 (fun _ => true) true 44 v d p) : ∃ a b c e, v = .agg #[.int .i64 a, .int .i64 b, .int .i64 c, .int .i64 e] := by
  obtain ⟨cs, rfl, hsz⟩ := okFour hv
  obtain ⟨c0, c1, c2, c3, rfl⟩ := Go.Joins.array4 hsz
  obtain ⟨fuel, hf⟩ := h
  obtain ⟨xs, m, _, _, _, hxl, hall⟩ := DataW.trod_array Tryz.underlying44 hf
  rw [deInt1] at hall
  have key : ∀ (i : Nat) (c : Value), i < 4 → ((#[c0, c1, c2, c3] : Array Value).toList.drop (i * 1)).take 1 = [c] → ∃ a, c = .int .i64 a := fun i c hi e => by
    obtain ⟨b, hb⟩ := some_of_len hxl hi
    have h1 := hall i hi
    rw [hb] at h1
    have h2 : DataW.trod enc Tryz.prog W 0 (fun _ => true) true m 3 [c] = some b := by rw [← e]; exact h1
    exact cellNum h2
  obtain ⟨a0, rfl⟩ := key 0 c0 (by omega) rfl
  obtain ⟨a1, rfl⟩ := key 1 c1 (by omega) rfl
  obtain ⟨a2, rfl⟩ := key 2 c2 (by omega) rfl
  obtain ⟨a3, rfl⟩ := key 3 c3 (by omega) rfl
  exact ⟨a0, a1, a2, a3, rfl⟩

theorem array7 {α : Type} {cs : Array α} (h : cs.size = 7) : ∃ c0 c1 c2 c3 c4 c5 c6, cs = #[c0, c1, c2, c3, c4, c5, c6] := by
  obtain ⟨l⟩ := cs
  match l, h with
  | [c0, c1, c2, c3, c4, c5, c6], _ => exact ⟨c0, c1, c2, c3, c4, c5, c6, rfl⟩

set_option maxRecDepth 100000 in
/-- An argument that is a plane. -/
theorem openPlane {W : World} {base : Nat} {v : Value} {d : DataW H} {p : List MemPlace} (hv : Value.okWide Tryz.prog W .any base 43 v)
    (h : DataW.Trod enc Tryz.prog W 0 (fun _ => true) true 43 v d p) : ∃ q0 q1 q2 q3 q4 q5 q6, v = .agg #[.int .i64 q0, .int .i64 q1, .int .i64 q2, .int .i64 q3, .int .i64 q4, .int .i64 q5, .int .i64 q6] := by
  obtain ⟨cs, rfl, hsz⟩ := okWide_struct Tryz.underlying43 hv
  obtain ⟨c0, c1, c2, c3, c4, c5, c6, rfl⟩ := array7 (hsz.trans dePlane7)
  obtain ⟨fuel, hf⟩ := h
  obtain ⟨xs, m, _, _, _, hxl, hall⟩ := DataW.trod_struct Tryz.underlying43 hf
  have hxl7 : xs.length = 7 := hxl
  have key : ∀ (i : Nat) (f : Field) (c : Value), i < 7 → (∀ b, DataW.trod enc Tryz.prog W 0 (fun _ => true) true m f.type (((#[c0, c1, c2, c3, c4, c5, c6] : Array Value).toList.drop f.offset).take (Tryz.prog.cellsOf f.type)) = b → xs[i]? = b) → f.type = 3 → f.offset = i → ((#[c0, c1, c2, c3, c4, c5, c6] : Array Value).toList.drop i).take 1 = [c] → ∃ a, c = .int .i64 a := fun i f c hi hh ht ho e => by
    obtain ⟨b, hb⟩ := some_of_len hxl7 hi
    have h1 := hh _ rfl
    rw [hb, ht, ho, deInt1, e] at h1
    exact cellNum h1.symm
  obtain ⟨a0, rfl⟩ := key 0 _ c0 (by omega) (fun b hb => by rw [← hb]; exact (hall 0 _ rfl).symm) rfl rfl rfl
  obtain ⟨a1, rfl⟩ := key 1 _ c1 (by omega) (fun b hb => by rw [← hb]; exact (hall 1 _ rfl).symm) rfl rfl rfl
  obtain ⟨a2, rfl⟩ := key 2 _ c2 (by omega) (fun b hb => by rw [← hb]; exact (hall 2 _ rfl).symm) rfl rfl rfl
  obtain ⟨a3, rfl⟩ := key 3 _ c3 (by omega) (fun b hb => by rw [← hb]; exact (hall 3 _ rfl).symm) rfl rfl rfl
  obtain ⟨a4, rfl⟩ := key 4 _ c4 (by omega) (fun b hb => by rw [← hb]; exact (hall 4 _ rfl).symm) rfl rfl rfl
  obtain ⟨a5, rfl⟩ := key 5 _ c5 (by omega) (fun b hb => by rw [← hb]; exact (hall 5 _ rfl).symm) rfl rfl rfl
  obtain ⟨a6, rfl⟩ := key 6 _ c6 (by omega) (fun b hb => by rw [← hb]; exact (hall 6 _ rfl).symm) rfl rfl rfl
  exact ⟨a0, a1, a2, a3, a4, a5, a6, rfl⟩
end

set_option maxRecDepth 100000 in
theorem cellsLifted (os : Os) (started : os.Started) (H : Type) (enc : TypeId × Value → H) (F : Stop.Interp) :
    ReturnsInHanded {} Tryz.checked os 5 .any ((OpenSpec.ofChange Rows.detectorCellsSpec).preRow enc Tryz.prog Tryz.f5 [] false Laid)
      (((OpenSpec.ofChange Rows.detectorCellsSpec).at F).post enc Tryz.prog Tryz.f5 false true false false) := by
  refine returnsInHanded_of_row (C := Tryz.checked) (s := OpenSpec.ofChange Rows.detectorCellsSpec) deOwn started (by kernel_rfl) Tryz.func5
    (ChangeSpec.witness_shaped (enc := enc) (C := Tryz.checked) (os := os) (s := Rows.detectorCellsSpec) (X := fun w _ => laidMetH Tryz.prog Laid w) false (World.doorLaid Tryz.prog 400 os) #[.agg #[.int .i64 0, .int .i64 0, .int .i64 0, .int .i64 0, .int .i64 0, .int .i64 0, .int .i64 0], .agg #[.int .i64 0, .int .i64 0, .int .i64 0, .int .i64 0]] 8 rfl (World.shaped_of_RefB (by kernel_rfl) (by kernel_rfl)) (by kernel_rfl) (by kernel_rfl) (by kernel_rfl) (deDoor os _)) ?_
  intro W base args ds gs before hval0 hW _ _ _ hL hsh _
  have hval : ∀ (j : Nat) t v, Tryz.f5.params[j]? = some t → args[j]? = some v → Value.okWide Tryz.prog W .any base t v := hval0
  have hW' := hW
  obtain ⟨p, q, hA0, hV, rfl, hfz, hnd⟩ := hW
  have hA : DataW.TrodAll enc Tryz.prog W 0 (fun _ => true) true Tryz.f5.params.toList args.toList ds p := hA0
  rw [Tryz.params5] at hA hval
  obtain ⟨v0, v1, d0, d1, p0, p1, rfl, rfl, rfl, h0, h1⟩ := trodAll_two hA
  obtain ⟨rfl, rfl⟩ := trodVars_none hV
  obtain ⟨q0, q1, q2, q3, q4, q5, q6, rfl⟩ := openPlane (hval 0 43 v0 rfl rfl) h0
  obtain ⟨c, r, u, v, rfl⟩ := openFour (hval 1 44 v1 rfl rfl) h1
  clear hA0 hval0
  simp only [List.append_nil] at hW'
  have hlt : ∀ x ∈ p0 ++ p1, x.block < W.heap.size := fun x hx => hW'.lt x hx
  refine (cells_any q0 q1 q2 q3 q4 q5 q6 c r u v W (frames_of_laid hL) (pow_of_laid hL) (ml_of_shape hsh)).mono fun e W' ⟨he, hB⟩ => ?_
  subst he
  refine ⟨_, rfl, _, _, _, [], p0 ++ p1, [], hW', trodAll_mk1 (shut_bool Tryz.underlying4 _), ?_, rfl, hB.frame _, fun h => by cases h⟩
  have t0 := Below.trod deLaidOut deReadPlane deRowPlane h0 hB (fun x hx => hlt x (List.mem_append_left _ hx))
  have t1 := Below.trod deLaidOut deReadFour deRowFour h1 hB (fun x hx => hlt x (List.mem_append_right _ hx))
  have t := trodAll_mk2 t0 t1
  exact t

theorem cellsRow : Rows.DetectorCellsSaid :=
  OpenClaim.holds_of_cond 5 Tryz.f5 rfl rfl rfl rfl rfl rfl rfl ⟨rfl, rfl, rfl, rfl, rfl⟩ rfl rfl rfl rfl rfl (by kernel_rfl) Tryz.func5 (by kernel_rfl)
    (of_decide_eq_true (by kernel_rfl)) (by unfold Func.isWrapper; first | (rw [if_pos (by decide +kernel)]; kernel_rfl) | (rw [if_neg (by decide +kernel)]; exact ⟨rfl, rfl⟩))
    (fun os started H enc _ F0 => by rw [OpenClaim.pre_eq_preRow]; exact cellsLifted os started H enc F0)

theorem cellsHolds : Rows.DetectorCellsCardSaid :=
  Claim7.holds_tied_plain_at .later [] [.data, .data, .data, .sentinel, .sentinel, .data] true (true, "64f89276a0ff3a13702af10bb7406f92d972294f3b32e3dd7b816149fea92553") true
    cellsRow (fun _ h => by cases h) (by kernel_rfl) (fun _ h => by cases h) detectorCells_row_tie rfl ⟨rfl, rfl⟩ (by kernel_rfl) rfl
    (fun f fn hf hfn => by
      obtain rfl : f = 5 := Option.some.inj ((show Tryz.prog.funcNamed "hodoscope/hodoscopelaw03.DetectorCells" = some 5 by kernel_rfl).symm.trans hf) |>.symm
      obtain rfl : fn = Tryz.f5 := (Option.some.inj (Tryz.func5.symm.trans hfn)).symm
      exact ⟨by kernel_rfl, fun j t ht => by
        rw [Tryz.params5] at ht
        have hm : t ∈ [43, 44] := by simpa using Array.mem_of_getElem? ht
        have hall : ([43, 44].all fun u => !Tryz.prog.wantsStandIn u) = true := by kernel_rfl
        exact (show Tryz.prog.wantsStandIn t = false by simpa using List.all_eq_true.1 hall t hm)⟩)
    (by kernel_rfl)
#print axioms cellsHolds
end Go.Proofs.YteoahbpfhfjfmaaGreatDoor
