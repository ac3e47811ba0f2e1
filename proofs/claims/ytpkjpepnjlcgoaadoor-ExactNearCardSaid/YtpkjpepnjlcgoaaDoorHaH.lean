/-
  ExactNear: for every ratio, integer and number of bits (api.Ratio, api.Int: any signs, any words, zeros behind them, a Den of 0, common factors too) the law returns true, and each argument reads as it did.
  Conditions: none beside the row's own; the table of math/bits is tied to the program's text.
-/
import Derived.Test.YtpkjpepnjlcgoaaDoorExX
import Derived.Test.YtpkjpepnjlcgoaaDoorRows
import Derived.Test.YtpkjpepnjlcgoaaDoorTie
import Derived.Carry
import Derived.ProofKit
import Derived.LaidMore
import Derived.OpenShut
import Derived.Lib.SmallJoins
import Derived.Lib.LaidTab
import Derived.Stop.Joined
import Derived.Test.YtpkjpepnjlcgoaaDoorHmB
import Derived.Test.YtpkjpepnjlcgoaaDoorCards
import Derived.SevenTiedAt
set_option linter.unusedVariables false
set_option linter.unusedSimpArgs false
namespace Go.Proofs.YtpkjpepnjlcgoaaDoor
open Go Go.ChangeShapes Go.WideShapes Go.ChangeAt Go.RowKit

theorem exOwn : ownKnob Tryd.prog.godebug = none := by kernel_rfl
theorem exLaidOut : laidOutB Tryd.prog = true := by kernel_rfl
theorem exInt2 : Tryd.prog.cellsOf 24 = 2 := by kernel_rfl
theorem exWord1 : Tryd.prog.cellsOf 27 = 1 := by kernel_rfl
theorem exByte1 : Tryd.prog.cellsOf 5 = 1 := by kernel_rfl
theorem exReadInt : Tryd.prog.readableRec 24 = true := by kernel_rfl
theorem exRowInt : (24 : TypeId) < Tryd.prog.types.size := of_decide_eq_true (by kernel_rfl)
theorem exTabName : Tryd.prog.globalNamed "math/bits.deBruijn64tab" = some 1 := by kernel_rfl
theorem exTabType : (Tryd.prog.globals[1]?).map (·.type) = some 134 := by kernel_rfl
theorem exTab64 : Tryd.prog.cellsOf 134 = 64 := by kernel_rfl

section
variable {H : Type} {enc : TypeId × Value → H}

set_option maxRecDepth 100000 in
/-- An argument that is an integer. -/
theorem openInt {W : World} {base : Nat} {v : Value} {d : DataW H} {p : List MemPlace} (hv : Value.okWide Tryd.prog W .any base 24 v)
    (h : DataW.Trod enc Tryd.prog W 0 (fun _ => true) true 24 v d p) : ∃ n z, AI W v n z := by
  obtain ⟨v0, v1, y0, y1, n, rfl, rfl, rfl, t0, t1⟩ := Go.Joins.open_agg2 Tryd.underlying24 (by kernel_rfl) exInt2 hv h
  obtain ⟨ng, e0, _⟩ := DataW.trod_bool Tryd.underlying4 t0
  simp only [List.cons.injEq, and_true] at e0
  subst e0
  rcases open_ints Tryd.underlying22 Tryd.underlying27 exWord1 t1 with ⟨e1, _⟩ | ⟨a, len, cap, zs, e1, _, hlc, _, hzl, _, hcell, hwf⟩
  · simp only [List.cons.injEq, and_true] at e1
    subst e1
    exact ⟨0, _, ng, none, 0, fun _ => 0, rfl, Nat.le_refl _, Dg_zero, fun h => absurd h (by omega), rfl⟩
  · simp only [List.cons.injEq, and_true] at e1
    subst e1
    rw [if_pos rfl] at hzl
    refine ⟨len, _, ng, some a, cap, fun j => zs.getD j 0, rfl, hlc, ?_, ?_, rfl⟩
    · intro j
      by_cases hj : j < zs.length
      · have hm := hwf (zs.getD j 0) (by rw [List.getD_eq_getElem?_getD, List.getElem?_eq_getElem hj]; exact List.getElem_mem hj)
        have := bounds_u32 hm
        exact ⟨this.1, this.2⟩
      · show 0 ≤ zs.getD j 0 ∧ zs.getD j 0 ≤ 4294967295
        rw [List.getD_eq_getElem?_getD, List.getElem?_eq_none (by omega)]
        decide
    · intro hp
      have h0 := hcell 0 (by omega)
      have hs : a.spot = none := World.cell?_spot (a := a) (by simpa [Addr.add] using h0)
      obtain ⟨b, off, spot⟩ := a
      simp only at hs
      subst hs
      refine ⟨b, off, rfl, fun j hj => ?_⟩
      exact add_plain b off j ▸ hcell j (by omega)
end

/-- What the row's list gives. -/
theorem tab_of_laid {W : World} (h : laidMetH Tryd.prog [("math/bits.deBruijn64tab", Rows.laid_math_bits_deBruijn64tab)] W) : Tab W := by
  rw [MakeChecks.laidMetH_plain _ _ _ (by kernel_rfl)] at h
  have e : (Rows.laid_math_bits_deBruijn64tab : DataW Unit) = Lib.tabData .u8 (Lib.deBruijn64tab.map fun (z : Nat) => (z : Int)) := by rfl
  rw [e] at h
  have ht := Lib.tabIs_of_head exTabName exTabType Tryd.underlying134 Tryd.underlying5 exByte1 exTab64 h
  intro j hj
  have := ht.cell exTabName j (by simpa using hj)
  rw [this]
  simp [List.getD_eq_getElem?_getD, List.getElem?_map]
  rw [List.getElem?_eq_getElem hj]
  rfl
theorem exDoor (os : Os) (args : Array Value) : laidMetH Tryd.prog [("math/bits.deBruijn64tab", Rows.laid_math_bits_deBruijn64tab)] ((World.doorLaid Tryd.prog 400 os).forCall (fun _ _ => 0) ⟨#[], args, []⟩).memory :=
  laidMetH_of_parts3 (fuel := 8) (laidMet_of_run' 8 (by kernel_rfl) (by kernel_rfl)) (by kernel_rfl) (by kernel_rfl)
theorem exRatio4 : Tryd.prog.cellsOf 26 = 4 := by kernel_rfl
theorem exBool1 : Tryd.prog.cellsOf 4 = 1 := by kernel_rfl
theorem exSlice1 : Tryd.prog.cellsOf 22 = 1 := by kernel_rfl
theorem exReadRatio : Tryd.prog.readableRec 26 = true := by kernel_rfl
theorem exRowRatio : (26 : TypeId) < Tryd.prog.types.size := of_decide_eq_true (by kernel_rfl)

section
variable {H : Type} {enc : TypeId × Value → H}

set_option maxRecDepth 100000 in
theorem openIntCells {W : World} {f : Nat} {c0 c1 : Value} {y : DataW H × List MemPlace} (h : DataW.trod enc Tryd.prog W 0 (fun _ => true) true f 24 [c0, c1] = some y) : ∃ n z, AI W (.agg #[c0, c1]) n z := by
  obtain ⟨y0, y1, m, hx, _, h0, h1⟩ := trod_struct2 Tryd.underlying24 h
  rw [exBool1] at h0
  rw [exSlice1] at h1
  have t0 : DataW.trod enc Tryd.prog W 0 (fun _ => true) true m 4 [c0] = some y0 := h0
  have t1 : DataW.trod enc Tryd.prog W 0 (fun _ => true) true m 22 [c1] = some y1 := h1
  obtain ⟨ng, e0, _⟩ := DataW.trod_bool Tryd.underlying4 t0
  simp only [List.cons.injEq, and_true] at e0
  subst e0
  rcases open_ints Tryd.underlying22 Tryd.underlying27 exWord1 t1 with ⟨e1, _⟩ | ⟨a, len, cap, zs, e1, _, hlc, _, hzl, _, hcell, hwf⟩
  · simp only [List.cons.injEq, and_true] at e1
    subst e1
    exact ⟨0, _, ng, none, 0, fun _ => 0, rfl, Nat.le_refl _, Dg_zero, fun h => absurd h (by omega), rfl⟩
  · simp only [List.cons.injEq, and_true] at e1
    subst e1
    rw [if_pos rfl] at hzl
    refine ⟨len, _, ng, some a, cap, fun j => zs.getD j 0, rfl, hlc, ?_, ?_, rfl⟩
    · intro j
      by_cases hj : j < zs.length
      · have hm := hwf (zs.getD j 0) (by rw [List.getD_eq_getElem?_getD, List.getElem?_eq_getElem hj]; exact List.getElem_mem hj)
        have := bounds_u32 hm
        exact ⟨this.1, this.2⟩
      · show 0 ≤ zs.getD j 0 ∧ zs.getD j 0 ≤ 4294967295
        rw [List.getD_eq_getElem?_getD, List.getElem?_eq_none (by omega)]
        decide
    · intro hp
      have h0 := hcell 0 (by omega)
      have hs : a.spot = none := World.cell?_spot (a := a) (by simpa [Addr.add] using h0)
      obtain ⟨b, off, spot⟩ := a
      simp only at hs
      subst hs
      refine ⟨b, off, rfl, fun j hj => ?_⟩
      exact add_plain b off j ▸ hcell j (by omega)

set_option maxRecDepth 100000 in
/-- An argument that is a ratio. -/
theorem openRatio {W : World} {base : Nat} {v : Value} {d : DataW H} {p : List MemPlace} (hv : Value.okWide Tryd.prog W .any base 26 v)
    (h : DataW.Trod enc Tryd.prog W 0 (fun _ => true) true 26 v d p) : ∃ n m p q, AR W v n m p q := by
  obtain ⟨cs, rfl, hsz⟩ := okWide_struct Tryd.underlying26 hv
  obtain ⟨c0, c1, c2, c3, rfl⟩ := Go.Joins.array4 (hsz.trans exRatio4)
  obtain ⟨fuel, hf⟩ := h
  obtain ⟨y0, y1, n, hx, _, h0, h1⟩ := trod_struct2 Tryd.underlying26 hf
  rw [exInt2] at h0 h1
  obtain ⟨n0, z0, a0⟩ := openIntCells (c0 := c0) (c1 := c1) h0
  obtain ⟨n1, z1, a1⟩ := openIntCells (c0 := c2) (c1 := c3) h1
  exact ⟨n0, n1, z0, z1, c0, c1, c2, c3, rfl, a0, a1⟩
end


theorem near_any' (u v : Value) (n1 m1 la : Nat) (p q z B : Int) (w : World) (hT : Tab w) (hu : AR w u n1 m1 p q) (hv : AI w v la z) (hB : 0 ≤ B ∧ B ≤ 255) :
    Calls Tryd.prog 4 #[u, v, .int .u8 B] w fun e w' => e = .returned (.bool true) ∧ Below w.heap.size w w' := by
  obtain ⟨g1, a1, c1, h1, b1, d1, rfl⟩ := hu.form
  obtain ⟨ga, aa, ca, rfl⟩ := hv.form
  obtain ⟨k, rfl⟩ : ∃ k : Nat, B = (k : Int) := ⟨B.toNat, by omega⟩
  by_cases l1 : n1 ≤ 8 ∧ m1 ≤ 8
  · by_cases l2 : la ≤ 8
    · by_cases hneg : tP p q < 0
      · exact near_neg g1 h1 a1 b1 n1 m1 c1 d1 p q ga aa la ca k z w hT hu hv (by omega) l1.1 l1.2 l2 hneg
      · exact near_pos g1 h1 a1 b1 n1 m1 c1 d1 p q ga aa la ca k z w hT hu hv (by omega) l1.1 l1.2 l2 (by omega)
    · exact near_long2 g1 h1 a1 b1 n1 m1 c1 d1 p q ga aa la ca k z w hT hu hv (by omega) l1.1 l1.2 (by omega)
  · exact near_long1 g1 h1 a1 b1 n1 m1 c1 d1 p q ga aa la ca k z w hT hu hv (by omega) (by omega)

theorem exRead8 : Tryd.prog.readableRec 5 = true := by kernel_rfl
theorem exRow8 : (5 : TypeId) < Tryd.prog.types.size := of_decide_eq_true (by kernel_rfl)

set_option maxRecDepth 100000 in
theorem nearLifted (os : Os) (started : os.Started) (H : Type) (enc : TypeId × Value → H) :
    ReturnsInHanded {} Tryd.checked os 4 .any (fun w args => (Rows.exactNearSpec.pre enc Tryd.prog Tryd.f4 [] false w args ∧ laidMetH Tryd.prog [("math/bits.deBruijn64tab", Rows.laid_math_bits_deBruijn64tab)] w) ∧ sizedMet enc Tryd.prog Tryd.f4 (OpenSpec.ofChange Rows.exactNearSpec) false w args)
      (Rows.exactNearSpec.post enc Tryd.prog Tryd.f4 false true false false) := by
  refine returnsInHanded_of_change_and (C := Tryd.checked) (X := fun w _ => laidMetH Tryd.prog [("math/bits.deBruijn64tab", Rows.laid_math_bits_deBruijn64tab)] w) (fun _ _ _ hh h => h.of_heap hh) exOwn started (by kernel_rfl) Tryd.func4
    (ChangeSpec.witness_shaped (enc := enc) (C := Tryd.checked) (os := os) (X := fun w _ => laidMetH Tryd.prog [("math/bits.deBruijn64tab", Rows.laid_math_bits_deBruijn64tab)] w) false (World.doorLaid Tryd.prog 400 os) #[.agg #[.bool false, .slice none 0 0, .bool false, .slice none 0 0], .agg #[.bool false, .slice none 0 0], .int .u8 0] 8 rfl (World.shaped_of_RefB (by kernel_rfl) (by kernel_rfl)) (by kernel_rfl) (by kernel_rfl) (by kernel_rfl) (exDoor os _)) ?_
  intro W base args ds gs before hval0 hW _ _ hL _
  have hval : ∀ (j : Nat) t v, Tryd.f4.params[j]? = some t → args[j]? = some v → Value.okWide Tryd.prog W .any base t v := hval0
  have hW' := hW
  obtain ⟨p, q, hA0, hV, rfl, hfz, hnd⟩ := hW
  have hA : DataW.TrodAll enc Tryd.prog W 0 (fun _ => true) true Tryd.f4.params.toList args.toList ds p := hA0
  rw [Tryd.params4] at hA hval
  obtain ⟨v0, v1, v2, d0, d1, d2, p0, p1, p2, rfl, rfl, rfl, h0, h1, h2⟩ := trodAll_three hA
  obtain ⟨rfl, rfl⟩ := trodVars_none hV
  obtain ⟨n0, k0, z0, y0, a0⟩ := openRatio (hval 0 26 v0 rfl rfl) h0
  obtain ⟨n1, z1, a1⟩ := openInt (hval 1 24 v1 rfl rfl) h1
  have h2' := h2
  obtain ⟨Z, rfl, rfl, rfl, i2⟩ := open_int Tryd.underlying5 (hval 2 5 v2 rfl rfl) h2'
  clear hA0 hval0
  simp only [List.append_nil] at hW'
  have hlt : ∀ x ∈ p0 ++ p1, x.block < W.heap.size := fun x hx => hW'.lt x hx
  refine (near_any' v0 v1 n0 k0 n1 z0 y0 z1 Z W (tab_of_laid hL) a0 a1 (bounds_u8 i2)).mono fun e W' ⟨he, hB⟩ => ?_
  subst he
  refine ⟨_, rfl, _, _, _, [], p0 ++ p1, [], hW', trodAll_mk1 (shut_bool Tryd.underlying4 _), ?_, rfl, hB.frame _, fun h => by cases h⟩
  have t0 := Below.trod exLaidOut exReadRatio exRowRatio h0 hB (fun x hx => hlt x (List.mem_append_left _ hx))
  have t1 := Below.trod exLaidOut exReadInt exRowInt h1 hB (fun x hx => hlt x (List.mem_append_right _ hx))
  have t2 := Below.trod exLaidOut exRead8 exRow8 h2 hB (fun x hx => by cases hx)
  have t := trodAll_mk3 t0 t1 t2
  simp only [List.append_nil] at t
  exact t

theorem nearRow : Rows.ExactNearSaid :=
  OpenClaim.holds_of_wide 4 Tryd.f4 rfl rfl rfl rfl rfl rfl rfl ⟨rfl, rfl, rfl, rfl, rfl⟩ rfl rfl rfl rfl rfl (by kernel_rfl) Tryd.func4 (by kernel_rfl)
    (of_decide_eq_true (by kernel_rfl)) (by unfold Func.isWrapper; first | (rw [if_pos (by decide +kernel)]; kernel_rfl) | (rw [if_neg (by decide +kernel)]; exact ⟨rfl, rfl⟩))
    (fun os started H enc _ => nearLifted os started H enc)

theorem nearHolds : Rows.ExactNearCardSaid :=
  Claim7.holds_tied_plain_at .later [] [.data] true (true, "cb8e3fc5a080009d25e3968a2ba0c274a7a3bc6f5316cc1f3da473a1df04e0bf") false
    nearRow (fun _ h => by cases h) (by kernel_rfl) (fun _ h => by cases h) exactNear_row_tie rfl ⟨rfl, rfl⟩ (by kernel_rfl) rfl
    (fun f fn hf hfn => by
      obtain rfl : f = 4 := Option.some.inj ((show Tryd.prog.funcNamed "hodoscope/hodoscopelaw01.ExactNear" = some 4 by kernel_rfl).symm.trans hf) |>.symm
      obtain rfl : fn = Tryd.f4 := (Option.some.inj (Tryd.func4.symm.trans hfn)).symm
      exact ⟨by kernel_rfl, fun j t ht => by
        rw [Tryd.params4] at ht
        have hm : t ∈ [26, 24, 5] := by simpa using Array.mem_of_getElem? ht
        have hall : ([26, 24, 5].all fun u => !Tryd.prog.wantsStandIn u) = true := by kernel_rfl
        exact (show Tryd.prog.wantsStandIn t = false by simpa using List.all_eq_true.1 hall t hm)⟩)
    (by kernel_rfl)
#print axioms nearHolds
end Go.Proofs.YtpkjpepnjlcgoaaDoor
