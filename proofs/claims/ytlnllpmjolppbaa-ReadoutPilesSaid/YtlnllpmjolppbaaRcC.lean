/-
  ReadoutPiles: for any two lists of measurements and every threshold the law returns true, and each argument reads as it did.
  Conditions: none beside the row's own.
-/
import Derived.Test.YtlnllpmjolppbaaRcA
import Derived.Test.YtlnllpmjolppbaaRbB
set_option linter.unusedVariables false
set_option linter.unusedSimpArgs false
namespace Go.Proofs.Ytlnllpmjolppbaa
open Go Go.ChangeShapes Go.WideShapes Go.ChangeAt Go.RowKit

set_option maxRecDepth 100000 in
theorem pilesLifted (os : Os) (started : os.Started) (H : Type) (enc : TypeId × Value → H) (F : Stop.Interp) :
    ReturnsInHanded {} Try.checked os 4 .any ((OpenSpec.ofChange Rows.readoutPilesSpec).preRow enc Try.prog Try.f4 [] false [])
      (((OpenSpec.ofChange Rows.readoutPilesSpec).at F).post enc Try.prog Try.f4 false true false false) := by
  refine returnsInHanded_of_row (C := Try.checked) (s := OpenSpec.ofChange Rows.readoutPilesSpec) rdOwn started (by kernel_rfl) Try.func4
    (ChangeSpec.witness_shaped (enc := enc) (C := Try.checked) (os := os) (s := Rows.readoutPilesSpec) (X := fun w _ => laidMetH Try.prog [] w) false (World.doorLaid Try.prog 400 os) #[.slice none 0 0, .slice none 0 0, .int .i64 0] 8 rfl (World.shaped_of_RefB (by kernel_rfl) (by kernel_rfl)) (by kernel_rfl) (by kernel_rfl) (by kernel_rfl) (rdDoor os _)) ?_
  intro W base args ds gs before hval0 hW _ _ _ hL hsh _
  have hval : ∀ (j : Nat) t v, Try.f4.params[j]? = some t → args[j]? = some v → Value.okWide Try.prog W .any base t v := hval0
  have hW' := hW
  obtain ⟨p, q, hA0, hV, rfl, hfz, hnd⟩ := hW
  have hA : DataW.TrodAll enc Try.prog W 0 (fun _ => true) true Try.f4.params.toList args.toList ds p := hA0
  rw [Try.params4] at hA hval
  obtain ⟨v0, v1, v2, d0, d1, d2, p0, p1, p2, rfl, rfl, rfl, h0, h1, h2⟩ := trodAll_three hA
  obtain ⟨rfl, rfl⟩ := trodVars_none hV
  obtain ⟨l, hl⟩ := openIntsArg (hval 0 22 v0 rfl rfl) h0
  obtain ⟨d, hd⟩ := openIntsArg (hval 1 22 v1 rfl rfl) h1
  have h2' := h2
  obtain ⟨n, rfl, rfl, rfl, hn⟩ := open_int Try.underlying3 (hval 2 3 v2 rfl rfl) h2'
  clear hA0 hval0
  simp only [List.append_nil, List.nil_append] at hW'
  have hlt : ∀ x ∈ p0 ++ p1, x.block < W.heap.size := fun x hx => hW'.lt x (by simpa [List.append_assoc] using hx)
  refine (piles_any v0 v1 l d n W hl hd (wf_i64 hn)).mono fun e W' ⟨he, hB⟩ => ?_
  subst he
  refine ⟨_, rfl, _, _, _, [], p0 ++ p1, [], hW', trodAll_mk1 (shut_bool Try.underlying4 _), ?_, rfl, hB.frame _, fun h => by cases h⟩
  have t0 := Below.trod rdLaidOut rdReadInts rdRowInts h0 hB (fun x hx => hlt x (by simp [hx]))
  have t1 := Below.trod rdLaidOut rdReadInts rdRowInts h1 hB (fun x hx => hlt x (by simp [hx]))
  have t2 := Below.trod rdLaidOut rdReadInt rdRowInt h2 hB (fun x hx => by cases hx)
  have t := trodAll_mk3 t0 t1 t2
  simp only [List.append_nil] at t
  exact t

theorem pilesHolds : Rows.ReadoutPilesSaid :=
  OpenClaim.holds_of_cond 4 Try.f4 rfl rfl rfl rfl rfl rfl rfl ⟨rfl, rfl, rfl, rfl, rfl⟩ rfl rfl rfl rfl rfl (by kernel_rfl) Try.func4 (by kernel_rfl)
    (of_decide_eq_true (by kernel_rfl)) (by unfold Func.isWrapper; first | (rw [if_pos (by decide +kernel)]; kernel_rfl) | (rw [if_neg (by decide +kernel)]; exact ⟨rfl, rfl⟩))
    (fun os started H enc _ F0 => by rw [OpenClaim.pre_eq_preRow]; exact pilesLifted os started H enc F0)
#print axioms pilesHolds
end Go.Proofs.Ytlnllpmjolppbaa
