/-
  ReadoutBursts: for every frame and every change of bits among sixteen consecutive ones the law returns true, and each argument reads as it did.
  Conditions: none beside the row's own.
-/
import Derived.Test.YtanillahofohgaaRcD
import Derived.Test.YtanillahofohgaaReC
set_option linter.unusedVariables false
set_option linter.unusedSimpArgs false
namespace Go.Proofs.Ytanillahofohgaa
open Go Go.ChangeShapes Go.WideShapes Go.ChangeAt Go.RowKit

theorem rdBurst3 : Try.prog.cellsOf 50 = 3 := by kernel_rfl
theorem rdU161 : Try.prog.cellsOf 48 = 1 := by kernel_rfl
theorem rdStr1 : Try.prog.cellsOf 9 = 1 := by kernel_rfl
theorem rdReadBurst : Try.prog.readableRec 50 = true := by kernel_rfl
theorem rdRowBurst : (50 : TypeId) < Try.prog.types.size := of_decide_eq_true (by kernel_rfl)
theorem arrayOfThree {α : Type} {cs : Array α} (h : cs.size = 3) : ∃ c0 c1 c2, cs = #[c0, c1, c2] := by
  obtain ⟨l⟩ := cs
  match l, h with
  | [c0, c1, c2], _ => exact ⟨c0, c1, c2, rfl⟩
section
variable {H : Type} {enc : TypeId × Value → H}
set_option maxRecDepth 100000 in
/-- An argument that is a burst. -/
theorem openBurstArg {W : World} {base : Nat} {v : Value} {d : DataW H} {p : List MemPlace} (hv : Value.okWide Try.prog W .any base 50 v)
    (h : DataW.Trod enc Try.prog W 0 (fun _ => true) true 50 v d p) : ∃ (A : Int) (B : Nat) (r : List UInt8), v = .agg #[.int .i64 A, .int .u16 (B : Nat), .string (str r)] ∧ I64 A ∧ B < 65536 := by
  obtain ⟨cs, rfl, hsz⟩ := okWide_struct Try.underlying50 hv
  obtain ⟨c0, c1, c2, rfl⟩ := arrayOfThree (hsz.trans rdBurst3)
  obtain ⟨fuel, hf⟩ := h
  obtain ⟨xs, n, _, _, hl, hlen, hfs⟩ := DataW.trod_struct Try.underlying50 hf
  match xs, hlen with
  | [y0, y1, y2], _ =>
    have t0 : DataW.trod enc Try.prog W 0 (fun _ => true) true n 3 [c0] = some y0 := by have := hfs 0 _ rfl; simpa [rdInt1, Value.cells] using this
    have t1 : DataW.trod enc Try.prog W 0 (fun _ => true) true n 48 [c1] = some y1 := by have := hfs 1 _ rfl; simpa [rdU161, Value.cells] using this
    have t2 : DataW.trod enc Try.prog W 0 (fun _ => true) true n 9 [c2] = some y2 := by have := hfs 2 _ rfl; simpa [rdStr1, Value.cells] using this
    obtain ⟨A, rfl, hA⟩ := numCell t0
    obtain ⟨b, e1, _, hb⟩ := DataW.trod_int Try.underlying48 t1
    obtain ⟨s, e2, _⟩ := DataW.trod_string Try.underlying9 t2
    simp at e1 e2
    subst e1 e2
    have hb2 : 0 ≤ b ∧ b < 65536 := by
      simp [Lit.wf, IntKind.min, IntKind.max, IntKind.signed, IntKind.bits] at hb
      omega
    exact ⟨A, b.toNat, s.data.toList, by rw [← str_of, Int.toNat_of_nonneg hb2.1], hA, by omega⟩
end

set_option maxRecDepth 100000 in
theorem burstsLifted (os : Os) (started : os.Started) (H : Type) (enc : TypeId × Value → H) (F : Stop.Interp) :
    ReturnsInHanded {} Try.checked os 7 .any ((OpenSpec.ofChange Rows.readoutBurstsSpec).preRow enc Try.prog Try.f7 [] false [])
      (((OpenSpec.ofChange Rows.readoutBurstsSpec).at F).post enc Try.prog Try.f7 false true false false) := by
  refine returnsInHanded_of_row (C := Try.checked) (s := OpenSpec.ofChange Rows.readoutBurstsSpec) rdOwn started (by kernel_rfl) Try.func7
    (ChangeSpec.witness_shaped (enc := enc) (C := Try.checked) (os := os) (s := Rows.readoutBurstsSpec) (X := fun w _ => laidMetH Try.prog [] w) false (World.doorLaid Try.prog 400 os) #[.agg #[.int .i64 0, .int .i64 0, .int .i64 0, .int .i64 0, .slice none 0 0], .agg #[.int .i64 0, .int .u16 0, .string ⟨#[]⟩]] 8 rfl (World.shaped_of_RefB (by kernel_rfl) (by kernel_rfl)) (by kernel_rfl) (by kernel_rfl) (by kernel_rfl) (rdDoor os _)) ?_
  intro W base args ds gs before hval0 hW _ _ _ hL hsh _
  have hval : ∀ (j : Nat) t v, Try.f7.params[j]? = some t → args[j]? = some v → Value.okWide Try.prog W .any base t v := hval0
  have hW' := hW
  obtain ⟨p, q, hA0, hV, rfl, hfz, hnd⟩ := hW
  have hA : DataW.TrodAll enc Try.prog W 0 (fun _ => true) true Try.f7.params.toList args.toList ds p := hA0
  rw [Try.params7] at hA hval
  obtain ⟨v0, v1, d0, d1, p0, p1, rfl, rfl, rfl, h0, h1⟩ := trodAll_two hA
  obtain ⟨rfl, rfl⟩ := trodVars_none hV
  obtain ⟨f, vs, rfl, hf⟩ := openFrameArg (hval 0 38 v0 rfl rfl) h0
  obtain ⟨A, B, r, rfl, hA2, hB2⟩ := openBurstArg (hval 1 50 v1 rfl rfl) h1
  clear hA0 hval0
  simp only [List.append_nil, List.nil_append] at hW'
  have hlt : ∀ x ∈ p0 ++ p1, x.block < W.heap.size := fun x hx => hW'.lt x hx
  have P := bursts_any f vs A B r W hf hB2 hA2
  refine P.mono fun e W' ⟨he, hB⟩ => ?_
  subst he
  refine ⟨_, rfl, _, _, _, [], p0 ++ p1, [], hW', trodAll_mk1 (shut_bool Try.underlying4 _), ?_, rfl, hB.frame _, fun h => by cases h⟩
  have t0 := Below.trod rdLaidOut rdReadFrame rdRowFrame h0 hB (fun x hx => hlt x (by simp [hx]))
  have t1 := Below.trod rdLaidOut rdReadBurst rdRowBurst h1 hB (fun x hx => hlt x (by simp [hx]))
  exact trodAll_mk2 t0 t1

theorem burstsHolds : Rows.ReadoutBurstsSaid :=
  OpenClaim.holds_of_cond 7 Try.f7 rfl rfl rfl rfl rfl rfl rfl ⟨rfl, rfl, rfl, rfl, rfl⟩ rfl rfl rfl rfl rfl (by kernel_rfl) Try.func7 (by kernel_rfl)
    (of_decide_eq_true (by kernel_rfl)) (by unfold Func.isWrapper; first | (rw [if_pos (by decide +kernel)]; kernel_rfl) | (rw [if_neg (by decide +kernel)]; exact ⟨rfl, rfl⟩))
    (fun os started H enc _ F0 => by rw [OpenClaim.pre_eq_preRow]; exact burstsLifted os started H enc F0)
#print axioms burstsHolds
end Go.Proofs.Ytanillahofohgaa
