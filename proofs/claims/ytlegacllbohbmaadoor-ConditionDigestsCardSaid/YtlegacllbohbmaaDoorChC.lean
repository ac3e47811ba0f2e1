/-
  ConditionDigests: for every string, every number and every change of a byte the law returns true, and each argument reads as it did.
  Conditions: none beside the row's own; the tables are tied to the program's text.
-/
import Derived.Test.YtlegacllbohbmaaDoorChA
import Derived.Test.YtlegacllbohbmaaDoorChB
set_option linter.unusedVariables false
set_option linter.unusedSimpArgs false
namespace Go.Proofs.YtlegacllbohbmaaDoor
open Go Go.ChangeShapes Go.WideShapes Go.ChangeAt Go.RowKit

section
variable {H : Type} {enc : TypeId × Value → H}
set_option maxRecDepth 100000 in
/-- A row of cells that reads as a number is a number. -/
theorem cellNum {W : World} {b : Nat} {sp : Nat → Bool} {hd : Bool} {n : Nat} {v : Value} {x : DataW H × List MemPlace} (h : DataW.trod enc Tryd.prog W b sp hd n 3 [v] = some x) : ∃ a, v = .int .i64 a := by
  obtain ⟨a, e, _⟩ := DataW.trod_int Tryd.underlying3 h
  exact ⟨a, by simpa using e⟩
theorem some_of_len {α : Type} {xs : List α} {n i : Nat} (h : xs.length = n) (hi : i < n) : ∃ b, xs[i]? = some b := ⟨xs[i]'(by omega), List.getElem?_eq_getElem (by omega)⟩
end
theorem deTwo2 : Tryd.prog.cellsOf 23 = 2 := by kernel_rfl
theorem deReadTwo : Tryd.prog.readableRec 23 = true := by kernel_rfl
theorem deRowTwo : (23 : TypeId) < Tryd.prog.types.size := of_decide_eq_true (by kernel_rfl)
theorem arrayOf2 {α : Type} {cs : Array α} (h : cs.size = 2) : ∃ c0 c1, cs = #[c0, c1] := by
  obtain ⟨l⟩ := cs
  match l, h with
  | [c0, c1], _ => exact ⟨c0, c1, rfl⟩
section
variable {H : Type} {enc : TypeId × Value → H}
set_option maxRecDepth 100000 in
theorem okTwo {W : World} {base : Nat} {v : Value} (h : Value.okWide Tryd.prog W .any base 23 v) : ∃ cs, v = .agg cs ∧ cs.size = 2 := by
  have ht := Tryd.underlying23
  simp only [Value.okWide, ht] at h
  obtain ⟨cs, h1, h2, _⟩ := h
  exact ⟨cs, h1, h2.trans deTwo2⟩
set_option maxRecDepth 100000 in
theorem openTwo {W : World} {base : Nat} {v : Value} {d : DataW H} {p : List MemPlace} (hv : Value.okWide Tryd.prog W .any base 23 v)
    (h : DataW.Trod enc Tryd.prog W 0 (fun _ => true) true 23 v d p) : ∃ a0 a1, v = .agg #[.int .i64 a0, .int .i64 a1] := by
  obtain ⟨cs, rfl, hsz⟩ := okTwo hv
  obtain ⟨c0, c1, rfl⟩ := arrayOf2 hsz
  obtain ⟨fuel, hf⟩ := h
  obtain ⟨xs, m, _, _, _, hxl, hall⟩ := DataW.trod_array Tryd.underlying23 hf
  rw [cnInt1] at hall
  have key : ∀ (i : Nat) (c : Value), i < 2 → ((#[c0, c1] : Array Value).toList.drop (i * 1)).take 1 = [c] → ∃ a, c = .int .i64 a := fun i c hi e => by
    obtain ⟨b, hb⟩ := some_of_len hxl hi
    have h1 := hall i hi
    rw [hb] at h1
    have h2 : DataW.trod enc Tryd.prog W 0 (fun _ => true) true m 3 [c] = some b := by rw [← e]; exact h1
    exact cellNum h2
  obtain ⟨a0, rfl⟩ := key 0 c0 (by omega) rfl
  obtain ⟨a1, rfl⟩ := key 1 c1 (by omega) rfl
  exact ⟨a0, a1, rfl⟩
end
theorem deReadStr : Tryd.prog.readableRec 9 = true := by kernel_rfl
theorem deRowStr : (9 : TypeId) < Tryd.prog.types.size := of_decide_eq_true (by kernel_rfl)
theorem deReadU64 : Tryd.prog.readableRec 22 = true := by kernel_rfl
theorem deRowU64 : (22 : TypeId) < Tryd.prog.types.size := of_decide_eq_true (by kernel_rfl)

set_option maxRecDepth 100000 in
theorem digestsLifted (os : Os) (started : os.Started) (H : Type) (enc : TypeId × Value → H) (F : Stop.Interp) :
    ReturnsInHanded {} Tryd.checked os 3 .any ((OpenSpec.ofChange Rows.conditionDigestsSpec).preRow enc Tryd.prog Tryd.f3 [] false Laid4)
      (((OpenSpec.ofChange Rows.conditionDigestsSpec).at F).post enc Tryd.prog Tryd.f3 false true false false) := by
  refine returnsInHanded_of_row (C := Tryd.checked) (s := OpenSpec.ofChange Rows.conditionDigestsSpec) cnOwn started (by kernel_rfl) Tryd.func3
    (ChangeSpec.witness_shaped (enc := enc) (C := Tryd.checked) (os := os) (s := Rows.conditionDigestsSpec) (X := fun w _ => laidMetH Tryd.prog Laid4 w) false (World.doorLaid Tryd.prog 400 os) #[.string ⟨#[]⟩, .int .u64 0, .agg #[.int .i64 0, .int .i64 0]] 8 rfl (World.shaped_of_RefB (by kernel_rfl) (by kernel_rfl)) (by kernel_rfl) (by kernel_rfl) (by kernel_rfl) (cnDoor os _)) ?_
  intro W base args ds gs before hval0 hW _ _ _ hL hsh _
  have hval : ∀ (j : Nat) t v, Tryd.f3.params[j]? = some t → args[j]? = some v → Value.okWide Tryd.prog W .any base t v := hval0
  have hW' := hW
  obtain ⟨p, q, hA0, hV, rfl, hfz, hnd⟩ := hW
  have hA : DataW.TrodAll enc Tryd.prog W 0 (fun _ => true) true Tryd.f3.params.toList args.toList ds p := hA0
  rw [Tryd.params3] at hA hval
  obtain ⟨v0, v1, v2, d0, d1, d2, p0, p1, p2, rfl, rfl, rfl, h0, h1, h2⟩ := trodAll_three hA
  obtain ⟨rfl, rfl⟩ := trodVars_none hV
  have h0' := h0
  obtain ⟨s, rfl, rfl, rfl, _⟩ := ChangeMaps.open_string Tryd.underlying9 (hval 0 9 v0 rfl rfl) h0'
  have h1' := h1
  obtain ⟨z, rfl, rfl, rfl, hz⟩ := open_int Tryd.underlying22 (hval 1 22 v1 rfl rfl) h1'
  obtain ⟨a, b, rfl⟩ := openTwo (hval 2 23 v2 rfl rfl) h2
  obtain ⟨n, rfl, hn⟩ : ∃ n : Nat, z = (n : Int) ∧ n < 18446744073709551616 := by
    simp [Lit.wf, IntKind.min, IntKind.max, IntKind.signed, IntKind.bits] at hz
    exact ⟨z.toNat, by omega, by omega⟩
  clear hA0 hval0
  simp only [List.append_nil, List.nil_append] at hW'
  have hlt : ∀ x ∈ p2, x.block < W.heap.size := fun x hx => hW'.lt x hx
  refine (digests_any s n a b W hn (pow_of_laid hL) (tz_of_laid hL)).mono fun e W' ⟨he, hB⟩ => ?_
  subst he
  refine ⟨_, rfl, _, _, _, [], p2, [], hW', trodAll_mk1 (shut_bool Tryd.underlying4 _), ?_, rfl, hB.frame _, fun h => by cases h⟩
  have t0 := Below.trod cnLaidOut deReadStr deRowStr h0 hB (fun x hx => by cases hx)
  have t1 := Below.trod cnLaidOut deReadU64 deRowU64 h1 hB (fun x hx => by cases hx)
  have t2 := Below.trod cnLaidOut deReadTwo deRowTwo h2 hB (fun x hx => hlt x hx)
  have t := trodAll_mk3 t0 t1 t2
  simp only [List.append_nil, List.nil_append] at t
  exact t

theorem digestsRow : Rows.ConditionDigestsSaid :=
  OpenClaim.holds_of_cond 3 Tryd.f3 rfl rfl rfl rfl rfl rfl rfl ⟨rfl, rfl, rfl, rfl, rfl⟩ rfl rfl rfl rfl rfl (by kernel_rfl) Tryd.func3 (by kernel_rfl)
    (of_decide_eq_true (by kernel_rfl)) (by unfold Func.isWrapper; first | (rw [if_pos (by decide +kernel)]; kernel_rfl) | (rw [if_neg (by decide +kernel)]; exact ⟨rfl, rfl⟩))
    (fun os started H enc _ F0 => by rw [OpenClaim.pre_eq_preRow]; exact digestsLifted os started H enc F0)

theorem digestsHolds : Rows.ConditionDigestsCardSaid :=
  Claim7.holds_tied_plain_at .later [] [.data, .data, .data] true (true, "1361a530bda80b464f6146233c947d8536fa7dfb5165f9362ea4d4e05d4191f7") false
    digestsRow (fun _ h => by cases h) (by kernel_rfl) (fun _ h => by cases h) conditionDigests_row_tie rfl ⟨rfl, rfl⟩ (by kernel_rfl) rfl
    (fun f fn hf hfn => by
      obtain rfl : f = 3 := Option.some.inj ((show Tryd.prog.funcNamed "hodoscope/hodoscopelaw04.ConditionDigests" = some 3 by kernel_rfl).symm.trans hf) |>.symm
      obtain rfl : fn = Tryd.f3 := (Option.some.inj (Tryd.func3.symm.trans hfn)).symm
      exact ⟨by kernel_rfl, fun j t ht => by
        rw [Tryd.params3] at ht
        have hm : t ∈ [9, 22, 23] := by simpa using Array.mem_of_getElem? ht
        have hall : ([9, 22, 23].all fun u => !Tryd.prog.wantsStandIn u) = true := by kernel_rfl
        exact (show Tryd.prog.wantsStandIn t = false by simpa using List.all_eq_true.1 hall t hm)⟩)
    (by kernel_rfl)
#print axioms digestsHolds
end Go.Proofs.YtlegacllbohbmaaDoor
