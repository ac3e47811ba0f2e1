/-
  ExactInts: for every two integers (api.Int: any sign, any words, zeros behind them too) the law returns true, and each argument reads as it did: normal form, negation, sum, difference, product, greatest common divisor, sign and order of the program are those of the document's own reckoning with digits to the base 65536, the arguments stay, and what is returned is new memory.
  Conditions: none beside the row's own; the table of math/bits is tied to the program's text.
-/
import Derived.Test.YtkhchaoehlefdaaDoorZlB
import Derived.Test.YtkhchaoehlefdaaDoorExLaw
import Derived.Test.YtkhchaoehlefdaaDoorCards
import Derived.SevenTiedAt
set_option linter.unusedVariables false
set_option linter.unusedSimpArgs false
namespace Go.Proofs.YtkhchaoehlefdaaDoor
open Go Go.ChangeShapes Go.WideShapes Go.ChangeAt Go.RowKit

theorem ints_long1 (ga gb : Bool) (aa ab : Option Addr) (n m ca cb : Nat) (w : World) (hn : 40 < n) :
    Calls Tryd.prog 3 #[.agg #[.bool ga, .slice aa n ca], .agg #[.bool gb, .slice ab m cb]] w fun e w' => e = .returned (.bool true) ∧ Below w.heap.size w w' := by
  have d1 : decide ((40 : Int) < (n : Int)) = true := decide_eq_true (by omega)
  go_enter Tryd.func3, Tryd.ntmps3
  go_wp2_with fail
  go_ret
  exact ⟨rfl, Below.two _ _ _⟩
theorem ints_long2 (ga gb : Bool) (aa ab : Option Addr) (n m ca cb : Nat) (w : World) (hn : n ≤ 40) (hm : 40 < m) :
    Calls Tryd.prog 3 #[.agg #[.bool ga, .slice aa n ca], .agg #[.bool gb, .slice ab m cb]] w fun e w' => e = .returned (.bool true) ∧ Below w.heap.size w w' := by
  have d1 : decide ((40 : Int) < (n : Int)) = false := decide_eq_false (by omega)
  have d2 : decide ((40 : Int) < (m : Int)) = true := decide_eq_true (by omega)
  go_enter Tryd.func3, Tryd.ntmps3
  go_wp2_with fail
  go_ret
  exact ⟨rfl, Below.two _ _ _⟩
theorem ints_any (u v : Value) (n m : Nat) (p q : Int) (w : World) (hT : Tab w) (hu : AI w u n p) (hv : AI w v m q) :
    Calls Tryd.prog 3 #[u, v] w fun e w' => e = .returned (.bool true) ∧ Below w.heap.size w w' := by
  obtain ⟨ga, aa, ca, rfl⟩ := hu.form
  obtain ⟨gb, ab, cb, rfl⟩ := hv.form
  obtain ⟨da, ha, _⟩ := hu.ax
  obtain ⟨db, hb, _⟩ := hv.ax
  by_cases h1 : n ≤ 40
  · by_cases h2 : m ≤ 40
    · exact ints_main ga gb aa ab n m ca cb da db w hT ha hb h1 h2
    · exact ints_long2 ga gb aa ab n m ca cb w h1 (by omega)
  · exact ints_long1 ga gb aa ab n m ca cb w (by omega)

set_option maxRecDepth 100000 in
theorem intsLifted (os : Os) (started : os.Started) (H : Type) (enc : TypeId × Value → H) :
    ReturnsInHanded {} Tryd.checked os 3 .any (fun w args => (Rows.exactIntsSpec.pre enc Tryd.prog Tryd.f3 [] false w args ∧ laidMetH Tryd.prog [("math/bits.deBruijn64tab", Rows.laid_math_bits_deBruijn64tab)] w) ∧ sizedMet enc Tryd.prog Tryd.f3 (OpenSpec.ofChange Rows.exactIntsSpec) false w args)
      (Rows.exactIntsSpec.post enc Tryd.prog Tryd.f3 false true false false) := by
  refine returnsInHanded_of_change_and (C := Tryd.checked) (X := fun w _ => laidMetH Tryd.prog [("math/bits.deBruijn64tab", Rows.laid_math_bits_deBruijn64tab)] w) (fun _ _ _ hh h => h.of_heap hh) exOwn started (by kernel_rfl) Tryd.func3
    (ChangeSpec.witness_shaped (enc := enc) (C := Tryd.checked) (os := os) (X := fun w _ => laidMetH Tryd.prog [("math/bits.deBruijn64tab", Rows.laid_math_bits_deBruijn64tab)] w) false (World.doorLaid Tryd.prog 400 os) #[.agg #[.bool false, .slice none 0 0], .agg #[.bool false, .slice none 0 0]] 8 rfl (World.shaped_of_RefB (by kernel_rfl) (by kernel_rfl)) (by kernel_rfl) (by kernel_rfl) (by kernel_rfl) (exDoor os _)) ?_
  intro W base args ds gs before hval0 hW _ _ hL _
  have hval : ∀ (j : Nat) t v, Tryd.f3.params[j]? = some t → args[j]? = some v → Value.okWide Tryd.prog W .any base t v := hval0
  have hW' := hW
  obtain ⟨p, q, hA0, hV, rfl, hfz, hnd⟩ := hW
  have hA : DataW.TrodAll enc Tryd.prog W 0 (fun _ => true) true Tryd.f3.params.toList args.toList ds p := hA0
  rw [Tryd.params3] at hA hval
  obtain ⟨v0, v1, d0, d1, p0, p1, rfl, rfl, rfl, h0, h1⟩ := trodAll_two hA
  obtain ⟨rfl, rfl⟩ := trodVars_none hV
  obtain ⟨n0, z0, a0⟩ := openInt (hval 0 24 v0 rfl rfl) h0
  obtain ⟨n1, z1, a1⟩ := openInt (hval 1 24 v1 rfl rfl) h1
  clear hA0 hval0
  simp only [List.append_nil] at hW'
  have hlt : ∀ x ∈ p0 ++ p1, x.block < W.heap.size := fun x hx => hW'.lt x hx
  refine (ints_any v0 v1 n0 n1 z0 z1 W (tab_of_laid hL) a0 a1).mono fun e W' ⟨he, hB⟩ => ?_
  subst he
  refine ⟨_, rfl, _, _, _, [], p0 ++ p1, [], hW', trodAll_mk1 (shut_bool Tryd.underlying4 _), ?_, rfl, hB.frame _, fun h => by cases h⟩
  exact trodAll_mk2 (Below.trod exLaidOut exReadInt exRowInt h0 hB (fun x hx => hlt x (List.mem_append_left _ hx)))
    (Below.trod exLaidOut exReadInt exRowInt h1 hB (fun x hx => hlt x (List.mem_append_right _ hx)))

theorem intsRow : Rows.ExactIntsSaid :=
  OpenClaim.holds_of_wide 3 Tryd.f3 rfl rfl rfl rfl rfl rfl rfl ⟨rfl, rfl, rfl, rfl, rfl⟩ rfl rfl rfl rfl rfl (by kernel_rfl) Tryd.func3 (by kernel_rfl)
    (of_decide_eq_true (by kernel_rfl)) (by unfold Func.isWrapper; first | (rw [if_pos (by decide +kernel)]; kernel_rfl) | (rw [if_neg (by decide +kernel)]; exact ⟨rfl, rfl⟩))
    (fun os started H enc _ => intsLifted os started H enc)

theorem intsHolds : Rows.ExactIntsCardSaid :=
  Claim7.holds_tied_plain_at .later [] [.data] true (true, "2ca6dbbb9b56698bceff26f632e7afefac626548cd0bb52629287e87d562eda5") false
    intsRow (fun _ h => by cases h) (by kernel_rfl) (fun _ h => by cases h) exactInts_row_tie rfl ⟨rfl, rfl⟩ (by kernel_rfl) rfl
    (fun f fn hf hfn => by
      obtain rfl : f = 3 := Option.some.inj ((show Tryd.prog.funcNamed "hodoscope/hodoscopelaw01.ExactInts" = some 3 by kernel_rfl).symm.trans hf) |>.symm
      obtain rfl : fn = Tryd.f3 := (Option.some.inj (Tryd.func3.symm.trans hfn)).symm
      exact ⟨by kernel_rfl, fun j t ht => by
        rw [Tryd.params3] at ht
        have hm : t ∈ [24, 24] := by simpa using Array.mem_of_getElem? ht
        have hall : ([24, 24].all fun u => !Tryd.prog.wantsStandIn u) = true := by kernel_rfl
        exact (show Tryd.prog.wantsStandIn t = false by simpa using List.all_eq_true.1 hall t hm)⟩)
    (by kernel_rfl)
#print axioms intsHolds
end Go.Proofs.YtkhchaoehlefdaaDoor
