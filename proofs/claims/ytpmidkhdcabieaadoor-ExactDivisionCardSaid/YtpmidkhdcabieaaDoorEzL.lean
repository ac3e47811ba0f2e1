/-
  ExactDivision: for every three integers (api.Int: any sign, any words, zeros behind them too) the law returns true, and each argument reads as it did.
  Conditions: none beside the row's own; the table of math/bits is tied to the program's text.
-/
import Derived.Test.YtpmidkhdcabieaaDoorEzJ
import Derived.Test.YtpmidkhdcabieaaDoorEzK
import Derived.Test.YtpmidkhdcabieaaDoorExLaw
import Derived.Test.YtpmidkhdcabieaaDoorCards
import Derived.SevenTiedAt
set_option linter.unusedVariables false
set_option linter.unusedSimpArgs false
namespace Go.Proofs.YtpmidkhdcabieaaDoor
open Go Go.ChangeShapes Go.WideShapes Go.ChangeAt Go.RowKit

theorem division_any (u v x : Value) (n m l : Nat) (p q r : Int) (w : World) (hT : Tab w) (hu : AI w u n p) (hv : AI w v m q) (hx : AI w x l r) :
    Calls Tryd.prog 3 #[u, v, x] w fun e w' => e = .returned (.bool true) ∧ Below w.heap.size w w' := by
  obtain ⟨ga, aa, ca, rfl⟩ := hu.form
  obtain ⟨gb, ab, cb, rfl⟩ := hv.form
  obtain ⟨gc, ac, cc, rfl⟩ := hx.form
  by_cases h1 : n ≤ 16
  · by_cases h2 : m ≤ 16
    · by_cases h3 : l ≤ 16
      · by_cases hq : q = 0
        · subst hq
          exact division_zero ga gb gc aa ab ac n m l ca cb cc p r w hT hu hv hx h1 h2 h3
        · exact division_part ga gb gc aa ab ac n m l ca cb cc p q r w hT hu hv hx h1 h2 h3 hq
      · exact division_long3 ga gb gc aa ab ac n m l ca cb cc w hT h1 h2 (by omega)
    · exact division_long2 ga gb gc aa ab ac n m l ca cb cc w hT h1 (by omega)
  · exact division_long1 ga gb gc aa ab ac n m l ca cb cc w hT (by omega)

set_option maxRecDepth 100000 in
theorem divisionLifted (os : Os) (started : os.Started) (H : Type) (enc : TypeId × Value → H) :
    ReturnsInHanded {} Tryd.checked os 3 .any (fun w args => (Rows.exactDivisionSpec.pre enc Tryd.prog Tryd.f3 [] false w args ∧ laidMetH Tryd.prog [("math/bits.deBruijn64tab", Rows.laid_math_bits_deBruijn64tab)] w) ∧ sizedMet enc Tryd.prog Tryd.f3 (OpenSpec.ofChange Rows.exactDivisionSpec) false w args)
      (Rows.exactDivisionSpec.post enc Tryd.prog Tryd.f3 false true false false) := by
  refine returnsInHanded_of_change_and (C := Tryd.checked) (X := fun w _ => laidMetH Tryd.prog [("math/bits.deBruijn64tab", Rows.laid_math_bits_deBruijn64tab)] w) (fun _ _ _ hh h => h.of_heap hh) exOwn started (by kernel_rfl) Tryd.func3
    (ChangeSpec.witness_shaped (enc := enc) (C := Tryd.checked) (os := os) (X := fun w _ => laidMetH Tryd.prog [("math/bits.deBruijn64tab", Rows.laid_math_bits_deBruijn64tab)] w) false (World.doorLaid Tryd.prog 400 os) #[.agg #[.bool false, .slice none 0 0], .agg #[.bool false, .slice none 0 0], .agg #[.bool false, .slice none 0 0]] 8 rfl (World.shaped_of_RefB (by kernel_rfl) (by kernel_rfl)) (by kernel_rfl) (by kernel_rfl) (by kernel_rfl) (exDoor os _)) ?_
  intro W base args ds gs before hval0 hW _ _ hL _
  have hval : ∀ (j : Nat) t v, Tryd.f3.params[j]? = some t → args[j]? = some v → Value.okWide Tryd.prog W .any base t v := hval0
  have hW' := hW
  obtain ⟨p, q, hA0, hV, rfl, hfz, hnd⟩ := hW
  have hA : DataW.TrodAll enc Tryd.prog W 0 (fun _ => true) true Tryd.f3.params.toList args.toList ds p := hA0
  rw [Tryd.params3] at hA hval
  obtain ⟨v0, v1, v2, d0, d1, d2, p0, p1, p2, rfl, rfl, rfl, h0, h1, h2⟩ := trodAll_three hA
  obtain ⟨rfl, rfl⟩ := trodVars_none hV
  obtain ⟨n0, z0, a0⟩ := openInt (hval 0 24 v0 rfl rfl) h0
  obtain ⟨n1, z1, a1⟩ := openInt (hval 1 24 v1 rfl rfl) h1
  obtain ⟨n2, z2, a2⟩ := openInt (hval 2 24 v2 rfl rfl) h2
  clear hA0 hval0
  simp only [List.append_nil] at hW'
  have hlt : ∀ x ∈ p0 ++ p1 ++ p2, x.block < W.heap.size := fun x hx => hW'.lt x hx
  refine (division_any v0 v1 v2 n0 n1 n2 z0 z1 z2 W (tab_of_laid hL) a0 a1 a2).mono fun e W' ⟨he, hB⟩ => ?_
  subst he
  refine ⟨_, rfl, _, _, _, [], p0 ++ (p1 ++ p2), [], hW', trodAll_mk1 (shut_bool Tryd.underlying4 _), ?_, rfl, hB.frame _, fun h => by cases h⟩
  exact trodAll_mk3 (Below.trod exLaidOut exReadInt exRowInt h0 hB (fun x hx => hlt x (List.mem_append_left _ (List.mem_append_left _ hx))))
    (Below.trod exLaidOut exReadInt exRowInt h1 hB (fun x hx => hlt x (List.mem_append_left _ (List.mem_append_right _ hx))))
    (Below.trod exLaidOut exReadInt exRowInt h2 hB (fun x hx => hlt x (List.mem_append_right _ hx)))

theorem divisionRow : Rows.ExactDivisionSaid :=
  OpenClaim.holds_of_wide 3 Tryd.f3 rfl rfl rfl rfl rfl rfl rfl ⟨rfl, rfl, rfl, rfl, rfl⟩ rfl rfl rfl rfl rfl (by kernel_rfl) Tryd.func3 (by kernel_rfl)
    (of_decide_eq_true (by kernel_rfl)) (by unfold Func.isWrapper; first | (rw [if_pos (by decide +kernel)]; kernel_rfl) | (rw [if_neg (by decide +kernel)]; exact ⟨rfl, rfl⟩))
    (fun os started H enc _ => divisionLifted os started H enc)

theorem divisionHolds : Rows.ExactDivisionCardSaid :=
  Claim7.holds_tied_plain_at .later [] [.data] true (true, "88a58771cff07f998c30d3c8d311647bc5815cc5cdce5e5935d1dde808f890d6") false
    divisionRow (fun _ h => by cases h) (by kernel_rfl) (fun _ h => by cases h) exactDivision_row_tie rfl ⟨rfl, rfl⟩ (by kernel_rfl) rfl
    (fun f fn hf hfn => by
      obtain rfl : f = 3 := Option.some.inj ((show Tryd.prog.funcNamed "hodoscope/hodoscopelaw01.ExactDivision" = some 3 by kernel_rfl).symm.trans hf) |>.symm
      obtain rfl : fn = Tryd.f3 := (Option.some.inj (Tryd.func3.symm.trans hfn)).symm
      exact ⟨by kernel_rfl, fun j t ht => by
        rw [Tryd.params3] at ht
        have hm : t ∈ [24, 24, 24] := by simpa using Array.mem_of_getElem? ht
        have hall : ([24, 24, 24].all fun u => !Tryd.prog.wantsStandIn u) = true := by kernel_rfl
        exact (show Tryd.prog.wantsStandIn t = false by simpa using List.all_eq_true.1 hall t hm)⟩)
    (by kernel_rfl)
#print axioms divisionHolds
end Go.Proofs.YtpmidkhdcabieaaDoor
