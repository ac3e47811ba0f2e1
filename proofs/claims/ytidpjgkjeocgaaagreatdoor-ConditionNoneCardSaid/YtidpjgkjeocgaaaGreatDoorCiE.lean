/-
  ConditionNone: for every call the law returns true, and the argument reads as it did.
  Conditions: none beside the row's own; the tables are tied to the program's text.
-/
import Derived.Deep.SlicePairs
import Derived.Test.YtidpjgkjeocgaaaGreatDoorChA
import Derived.Test.YtidpjgkjeocgaaaGreatDoorCiD
set_option linter.unusedVariables false
set_option linter.unusedSimpArgs false
namespace Go.Proofs.YtidpjgkjeocgaaaGreatDoor
open Go Go.ChangeShapes Go.WideShapes Go.ChangeAt Go.RowKit

section
variable {H : Type} {enc : TypeId × Value → H}
set_option maxRecDepth 100000 in
/-- A row of cells that reads as a number is a number. -/
theorem cellNum {W : World} {b : Nat} {sp : Nat → Bool} {hd : Bool} {n : Nat} {v : Value} {x : DataW H × List MemPlace} (h : DataW.trod enc Tryz.prog W b sp hd n 3 [v] = some x) : ∃ a, v = .int .i64 a := by
  obtain ⟨a, e, _⟩ := DataW.trod_int Tryz.underlying3 h
  exact ⟨a, by simpa using e⟩
theorem some_of_len {α : Type} {xs : List α} {n i : Nat} (h : xs.length = n) (hi : i < n) : ∃ b, xs[i]? = some b := ⟨xs[i]'(by omega), List.getElem?_eq_getElem (by omega)⟩
end
theorem cnEnt2 : Tryz.prog.cellsOf 64 = 2 := by kernel_rfl
theorem cnEnts1 : Tryz.prog.cellsOf 22 = 1 := by kernel_rfl
theorem cnSeven7 : Tryz.prog.cellsOf 23 = 7 := by kernel_rfl
theorem cnStr1 : Tryz.prog.cellsOf 9 = 1 := by kernel_rfl
theorem cnOp13 : Tryz.prog.cellsOf 25 = 13 := by kernel_rfl
theorem deReadOp : Tryz.prog.readableRec 25 = true := by kernel_rfl
theorem deRowOp : (25 : TypeId) < Tryz.prog.types.size := of_decide_eq_true (by kernel_rfl)
theorem arrayOf13 {α : Type} {cs : Array α} (h : cs.size = 13) : ∃ c0 c1 c2 c3 c4 c5 c6 c7 c8 c9 c10 c11 c12, cs = #[c0, c1, c2, c3, c4, c5, c6, c7, c8, c9, c10, c11, c12] := by
  obtain ⟨l⟩ := cs
  match l, h with
  | [c0, c1, c2, c3, c4, c5, c6, c7, c8, c9, c10, c11, c12], _ => exact ⟨c0, c1, c2, c3, c4, c5, c6, c7, c8, c9, c10, c11, c12, rfl⟩
theorem i64_of_wf {z : Int} (h : (Lit.int .i64 z).wf = true) : -9223372036854775808 ≤ z ∧ z ≤ 9223372036854775807 := by
  simp [Lit.wf, IntKind.min, IntKind.max, IntKind.signed, IntKind.bits] at h
  omega
section
variable {H : Type} {enc : TypeId × Value → H}
set_option maxRecDepth 100000 in
/-- A cell that reads as a list of entries is one. -/
theorem openEnts {W : World} {n : Nat} {v : Value} {x : DataW H × List MemPlace} (h : DataW.trod enc Tryz.prog W 0 (fun _ => true) true n 22 [v] = some x) : ∃ l : Ents, EnS W v l ∧ l.length ≤ maxLen := by
  rcases Go.Deep.open_slice_pairs Tryz.underlying22 Tryz.underlying64 cnEnt2 rfl rfl cnInt1 cnInt1 h with ⟨e, _⟩ | ⟨a, len, cap, m, nn, V0, V1, D0, D1, P0, P1, e, _, hlc, hcm, hm, _, hx⟩
  · simp only [List.cons.injEq, and_true] at e
    subst e
    exact ⟨[], ⟨none, 0, rfl, (fun x hx => by cases hx), fun h => absurd h (by decide)⟩, by unfold maxLen; decide⟩
  · simp only [List.cons.injEq, and_true] at e
    subst e
    rw [if_pos rfl] at hm
    have key : ∀ i, i < len → ∃ p : Int × Int, V0 i = .int .i64 p.1 ∧ V1 i = .int .i64 p.2 ∧ InI p := fun i hi => by
      obtain ⟨_, _, h1, h2⟩ := hx i (by omega)
      obtain ⟨y, e1, _, w1⟩ := DataW.trod_int Tryz.underlying3 h1
      obtain ⟨z, e2, _, w2⟩ := DataW.trod_int Tryz.underlying3 h2
      simp only [List.cons.injEq, and_true] at e1 e2
      exact ⟨(y, z), e1, e2, i64_of_wf w1, i64_of_wf w2⟩
    obtain ⟨f, hf⟩ := Go.Deep.choose_lt key
    have hl : ((List.range len).map f).length = len := by simp
    refine ⟨(List.range len).map f, ⟨some a, cap, by rw [hl], fun x hxm => ?_, fun h0 => ?_⟩, by rw [hl]; exact Nat.le_trans hlc hcm⟩
    · obtain ⟨i, hi, rfl⟩ := List.mem_map.1 hxm
      exact (hf i (List.mem_range.1 hi)).2.2
    · rw [hl] at h0
      have h1 := (hx 0 (by omega)).1
      have hs : a.spot = none := World.cell?_spot (a := a) (by simpa [Addr.add] using h1)
      obtain ⟨b, off, spot⟩ := a
      simp only at hs
      subst hs
      refine ⟨b, off, rfl, fun k hk => ?_⟩
      have hk' : k < len := by rw [hl] at hk; exact hk
      obtain ⟨g0, g1, _, _⟩ := hx k (by omega)
      obtain ⟨f0, f1, _⟩ := hf k hk'
      rw [add_plain] at g0 g1
      rw [f0, Nat.mul_comm] at g0
      rw [f1, Nat.mul_comm, ← Nat.add_assoc] at g1
      have e : ((List.range len).map f)[k] = f k := by simp
      rw [e]
      exact ⟨g0, g1⟩
end
section
variable {H : Type} {enc : TypeId × Value → H}
set_option maxRecDepth 100000 in
/-- An argument that is a call. -/
theorem openOp {W : World} {base : Nat} {v : Value} {d : DataW H} {p : List MemPlace} (hv : Value.okWide Tryz.prog W .any base 25 v)
    (h : DataW.Trod enc Tryz.prog W 0 (fun _ => true) true 25 v d p) : ∃ (x K V T : Int) (a : Option Addr) (n c : Nat) (s : ByteArray) (p0 p1 p2 p3 p4 p5 p6 : Int), v = .agg #[.int .u8 x, .int .i64 K, .int .i64 V, .int .i64 T, .slice a n c, .string s, .int .i64 p0, .int .i64 p1, .int .i64 p2, .int .i64 p3, .int .i64 p4, .int .i64 p5, .int .i64 p6] ∧ 0 ≤ x ∧ x ≤ 255 := by
  obtain ⟨cs, rfl, hsz⟩ := okWide_struct Tryz.underlying25 hv
  obtain ⟨c0, c1, c2, c3, c4, c5, c6, c7, c8, c9, c10, c11, c12, rfl⟩ := arrayOf13 (hsz.trans cnOp13)
  obtain ⟨fuel, hf⟩ := h
  obtain ⟨xs, m, _, _, _, hxl, hall⟩ := DataW.trod_struct Tryz.underlying25 hf
  have hxl7 : xs.length = 7 := hxl
  obtain ⟨x0, hx0⟩ := some_of_len hxl7 (i := 0) (by omega)
  have g0 : DataW.trod enc Tryz.prog W 0 (fun _ => true) true m 5 (((#[c0, c1, c2, c3, c4, c5, c6, c7, c8, c9, c10, c11, c12] : Array Value).toList.drop 0).take (Tryz.prog.cellsOf 5)) = xs[0]? := hall 0 _ rfl
  rw [hx0, cnByte1] at g0
  obtain ⟨x1, hx1⟩ := some_of_len hxl7 (i := 1) (by omega)
  have g1 : DataW.trod enc Tryz.prog W 0 (fun _ => true) true m 3 (((#[c0, c1, c2, c3, c4, c5, c6, c7, c8, c9, c10, c11, c12] : Array Value).toList.drop 1).take (Tryz.prog.cellsOf 3)) = xs[1]? := hall 1 _ rfl
  rw [hx1, cnInt1] at g1
  obtain ⟨x2, hx2⟩ := some_of_len hxl7 (i := 2) (by omega)
  have g2 : DataW.trod enc Tryz.prog W 0 (fun _ => true) true m 3 (((#[c0, c1, c2, c3, c4, c5, c6, c7, c8, c9, c10, c11, c12] : Array Value).toList.drop 2).take (Tryz.prog.cellsOf 3)) = xs[2]? := hall 2 _ rfl
  rw [hx2, cnInt1] at g2
  obtain ⟨x3, hx3⟩ := some_of_len hxl7 (i := 3) (by omega)
  have g3 : DataW.trod enc Tryz.prog W 0 (fun _ => true) true m 3 (((#[c0, c1, c2, c3, c4, c5, c6, c7, c8, c9, c10, c11, c12] : Array Value).toList.drop 3).take (Tryz.prog.cellsOf 3)) = xs[3]? := hall 3 _ rfl
  rw [hx3, cnInt1] at g3
  obtain ⟨x4, hx4⟩ := some_of_len hxl7 (i := 4) (by omega)
  have g4 : DataW.trod enc Tryz.prog W 0 (fun _ => true) true m 22 (((#[c0, c1, c2, c3, c4, c5, c6, c7, c8, c9, c10, c11, c12] : Array Value).toList.drop 4).take (Tryz.prog.cellsOf 22)) = xs[4]? := hall 4 _ rfl
  rw [hx4, cnEnts1] at g4
  obtain ⟨x5, hx5⟩ := some_of_len hxl7 (i := 5) (by omega)
  have g5 : DataW.trod enc Tryz.prog W 0 (fun _ => true) true m 9 (((#[c0, c1, c2, c3, c4, c5, c6, c7, c8, c9, c10, c11, c12] : Array Value).toList.drop 5).take (Tryz.prog.cellsOf 9)) = xs[5]? := hall 5 _ rfl
  rw [hx5, cnStr1] at g5
  obtain ⟨x6, hx6⟩ := some_of_len hxl7 (i := 6) (by omega)
  have g6 : DataW.trod enc Tryz.prog W 0 (fun _ => true) true m 23 (((#[c0, c1, c2, c3, c4, c5, c6, c7, c8, c9, c10, c11, c12] : Array Value).toList.drop 6).take (Tryz.prog.cellsOf 23)) = xs[6]? := hall 6 _ rfl
  rw [hx6, cnSeven7] at g6
  obtain ⟨x, e0, _, w0⟩ := DataW.trod_int Tryz.underlying5 g0
  obtain ⟨K, e1, _⟩ := DataW.trod_int Tryz.underlying3 g1
  obtain ⟨V, e2, _⟩ := DataW.trod_int Tryz.underlying3 g2
  obtain ⟨T, e3, _⟩ := DataW.trod_int Tryz.underlying3 g3
  obtain ⟨l, ⟨a, c, e4, _⟩, _⟩ := openEnts (v := c4) g4
  obtain ⟨s, e5, _⟩ := DataW.trod_string Tryz.underlying9 g5
  obtain ⟨ys, mm, _, _, _, hyl, hya⟩ := DataW.trod_array Tryz.underlying23 g6
  rw [cnInt1] at hya
  simp at e0 e1 e2 e3 e5
  subst e0 e1 e2 e3 e4 e5
  have hyl7 : ys.length = 7 := hyl
  have key : ∀ (i : Nat) (c : Value), i < 7 → ((([c6, c7, c8, c9, c10, c11, c12] : List Value).drop (i * 1)).take 1 = [c]) → ∃ z, c = .int .i64 z := fun i c hi e => by
    obtain ⟨b, hb⟩ := some_of_len hyl7 hi
    have h1 := hya i hi
    rw [hb] at h1
    have h2 : DataW.trod enc Tryz.prog W 0 (fun _ => true) true mm 3 [c] = some b := by rw [← e]; exact h1
    exact cellNum h2
  obtain ⟨p0, rfl⟩ := key 0 c6 (by omega) rfl
  obtain ⟨p1, rfl⟩ := key 1 c7 (by omega) rfl
  obtain ⟨p2, rfl⟩ := key 2 c8 (by omega) rfl
  obtain ⟨p3, rfl⟩ := key 3 c9 (by omega) rfl
  obtain ⟨p4, rfl⟩ := key 4 c10 (by omega) rfl
  obtain ⟨p5, rfl⟩ := key 5 c11 (by omega) rfl
  obtain ⟨p6, rfl⟩ := key 6 c12 (by omega) rfl
  have hw : 0 ≤ x ∧ x ≤ 255 := by
    simp [Lit.wf, IntKind.min, IntKind.max, IntKind.signed, IntKind.bits] at w0
    omega
  exact ⟨x, K, V, T, a, _, c, s, p0, p1, p2, p3, p4, p5, p6, rfl, hw.1, hw.2⟩
end

set_option maxRecDepth 100000 in
theorem noneLifted (os : Os) (started : os.Started) (H : Type) (enc : TypeId × Value → H) (F : Stop.Interp) :
    ReturnsInHanded {} Tryz.checked os 3 .any ((OpenSpec.ofChange Rows.conditionNoneSpec).preRow enc Tryz.prog Tryz.f3 [] false Laid4)
      (((OpenSpec.ofChange Rows.conditionNoneSpec).at F).post enc Tryz.prog Tryz.f3 false true false false) := by
  refine returnsInHanded_of_row (C := Tryz.checked) (s := OpenSpec.ofChange Rows.conditionNoneSpec) cnOwn started (by kernel_rfl) Tryz.func3
    (ChangeSpec.witness_shaped (enc := enc) (C := Tryz.checked) (os := os) (s := Rows.conditionNoneSpec) (X := fun w _ => laidMetH Tryz.prog Laid4 w) false (World.doorLaid Tryz.prog 400 os) #[.agg #[.int .u8 0, .int .i64 0, .int .i64 0, .int .i64 0, .slice none 0 0, .string ⟨#[]⟩, .int .i64 0, .int .i64 0, .int .i64 0, .int .i64 0, .int .i64 0, .int .i64 0, .int .i64 0]] 8 rfl (World.shaped_of_RefB (by kernel_rfl) (by kernel_rfl)) (by kernel_rfl) (by kernel_rfl) (by kernel_rfl) (cnDoor os _)) ?_
  intro W base args ds gs before hval0 hW _ _ _ hL hsh _
  have hval : ∀ (j : Nat) t v, Tryz.f3.params[j]? = some t → args[j]? = some v → Value.okWide Tryz.prog W .any base t v := hval0
  have hW' := hW
  obtain ⟨p, q, hA0, hV, rfl, hfz, hnd⟩ := hW
  have hA : DataW.TrodAll enc Tryz.prog W 0 (fun _ => true) true Tryz.f3.params.toList args.toList ds p := hA0
  rw [Tryz.params3] at hA hval
  obtain ⟨v0, d0, rfl, rfl, h0⟩ := trodAll_one hA
  obtain ⟨rfl, rfl⟩ := trodVars_none hV
  obtain ⟨x, K, V, T, a, n, c, s, r0, r1, r2, r3, r4, r5, r6, rfl, x0, x1⟩ := openOp (hval 0 25 v0 rfl rfl) h0
  clear hA0 hval0
  try simp only [List.append_nil, List.nil_append] at hW'
  have hlt : ∀ x ∈ p, x.block < W.heap.size := fun x hx => hW'.lt x hx
  refine (none_any x K V T a n c s r0 r1 r2 r3 r4 r5 r6 W x0 x1 (pow_of_laid hL) (tz_of_laid hL)).mono fun e W' ⟨he, hB⟩ => ?_
  subst he
  refine ⟨_, rfl, _, _, _, [], p, [], hW', trodAll_mk1 (shut_bool Tryz.underlying4 _), ?_, rfl, hB.frame _, fun h => by cases h⟩
  have t0 := Below.trod cnLaidOut deReadOp deRowOp h0 hB (fun x hx => hlt x hx)
  have t := trodAll_mk1 t0
  exact t

theorem noneRow : Rows.ConditionNoneSaid :=
  OpenClaim.holds_of_cond 3 Tryz.f3 rfl rfl rfl rfl rfl rfl rfl ⟨rfl, rfl, rfl, rfl, rfl⟩ rfl rfl rfl rfl rfl (by kernel_rfl) Tryz.func3 (by kernel_rfl)
    (of_decide_eq_true (by kernel_rfl)) (by unfold Func.isWrapper; first | (rw [if_pos (by decide +kernel)]; kernel_rfl) | (rw [if_neg (by decide +kernel)]; exact ⟨rfl, rfl⟩))
    (fun os started H enc _ F0 => by rw [OpenClaim.pre_eq_preRow]; exact noneLifted os started H enc F0)

theorem noneHolds : Rows.ConditionNoneCardSaid :=
  Claim7.holds_tied_plain_at .later [] [.data, .data, .data] true (true, "0c053f3e1872137f99a92e16b41ff919be254720505dd5a2fe0dfad668902e98") false
    noneRow (fun _ h => by cases h) (by kernel_rfl) (fun _ h => by cases h) conditionNone_row_tie rfl ⟨rfl, rfl⟩ (by kernel_rfl) rfl
    (fun f fn hf hfn => by
      obtain rfl : f = 3 := Option.some.inj ((show Tryz.prog.funcNamed "hodoscope/hodoscopelaw04.ConditionNone" = some 3 by kernel_rfl).symm.trans hf) |>.symm
      obtain rfl : fn = Tryz.f3 := (Option.some.inj (Tryz.func3.symm.trans hfn)).symm
      exact ⟨by kernel_rfl, fun j t ht => by
        rw [Tryz.params3] at ht
        have hm : t ∈ [25] := by simpa using Array.mem_of_getElem? ht
        have hall : ([25].all fun u => !Tryz.prog.wantsStandIn u) = true := by kernel_rfl
        exact (show Tryz.prog.wantsStandIn t = false by simpa using List.all_eq_true.1 hall t hm)⟩)
    (by kernel_rfl)
#print axioms noneHolds
end Go.Proofs.YtidpjgkjeocgaaaGreatDoor
