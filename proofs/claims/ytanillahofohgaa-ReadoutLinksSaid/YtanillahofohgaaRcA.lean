/- Layer 5: what the rows open. -/
import Derived.Test.YtanillahofohgaaRbA
import Derived.Test.YtanillahofohgaaRows
import Derived.ProofKit
import Derived.LaidMore
import Derived.OpenShut
import Derived.Lib.SmallJoins
import Derived.Stop.Joined
import Derived.Deep.DeepHandedRow
import Derived.Shelf.Vars
set_option linter.unusedVariables false
set_option linter.unusedSimpArgs false
namespace Go.Proofs.Ytanillahofohgaa
open Go Go.ChangeShapes Go.WideShapes Go.ChangeAt Go.RowKit

theorem rdOwn : ownKnob Try.prog.godebug = none := by kernel_rfl
theorem rdLaidOut : laidOutB Try.prog = true := by kernel_rfl
theorem rdInt1 : Try.prog.cellsOf 3 = 1 := by kernel_rfl
theorem rdTwo2 : Try.prog.cellsOf 23 = 2 := by kernel_rfl
theorem rdReadInt : Try.prog.readableRec 3 = true := by kernel_rfl
theorem rdRowInt : (3 : TypeId) < Try.prog.types.size := of_decide_eq_true (by kernel_rfl)
theorem rdReadInts : Try.prog.readableRec 22 = true := by kernel_rfl
theorem rdRowInts : (22 : TypeId) < Try.prog.types.size := of_decide_eq_true (by kernel_rfl)
theorem rdReadTwo : Try.prog.readableRec 23 = true := by kernel_rfl
theorem rdRowTwo : (23 : TypeId) < Try.prog.types.size := of_decide_eq_true (by kernel_rfl)
theorem rdReadStr : Try.prog.readableRec 9 = true := by kernel_rfl
theorem rdRowStr : (9 : TypeId) < Try.prog.types.size := of_decide_eq_true (by kernel_rfl)
theorem rdDoor (os : Os) (args : Array Value) : laidMetH Try.prog [] ((World.doorLaid Try.prog 400 os).forCall (fun _ _ => 0) ⟨#[], args, []⟩).memory := by
  rw [MakeChecks.laidMetH_plain _ _ _ (by kernel_rfl)]
  refine ⟨[], ?_, List.nodup_nil, fun b off h => by cases h⟩
  first | exact rfl | constructor | trivial | simp [DataW.LaidVars]

theorem wf_i64 {n : Int} (h : (Lit.int .i64 n).wf = true) : I64 n := by
  unfold I64
  simp [Lit.wf, IntKind.min, IntKind.max, IntKind.signed, IntKind.bits] at h
  omega

section
variable {H : Type} {enc : TypeId × Value → H}
set_option maxRecDepth 100000 in
/-- An argument that is a list of numbers. -/
theorem openIntsArg {W : World} {base : Nat} {v : Value} {d : DataW H} {p : List MemPlace} (hv : Value.okWide Try.prog W .any base 22 v)
    (h : DataW.Trod enc Try.prog W 0 (fun _ => true) true 22 v d p) : ∃ l, InS W v l := by
  obtain ⟨fuel, hf⟩ := h
  rcases open_ints Try.underlying22 Try.underlying3 rdInt1 hf with ⟨e1, _⟩ | ⟨a, len, cap, zs, e1, _, hlc, _, hzl, _, hcell, hwf⟩
  · obtain ⟨a, n, c, rfl⟩ := okWide_slice Try.underlying22 hv
    simp [Value.cells] at e1
    obtain ⟨rfl, rfl, rfl⟩ := e1
    exact ⟨[], InS.nil W⟩
  · obtain ⟨a', n, c, rfl⟩ := okWide_slice Try.underlying22 hv
    simp [Value.cells] at e1
    obtain ⟨rfl, rfl, rfl⟩ := e1
    rw [if_pos rfl] at hzl
    refine ⟨zs.take n, some a, c, ?_, ?_, fun x hx => wf_i64 (hwf x (List.mem_of_mem_take hx)), fun hp => ?_⟩
    · rw [List.length_take, Nat.min_eq_left (by omega)]
    · rw [List.length_take, Nat.min_eq_left (by omega)]; exact hlc
    · rw [List.length_take, Nat.min_eq_left (by omega)] at hp
      have h0 := hcell 0 (by omega)
      have hs : a.spot = none := World.cell?_spot (a := a) (by simpa [Addr.add] using h0)
      obtain ⟨b, off, spot⟩ := a
      simp only at hs
      subst hs
      refine ⟨b, off, rfl, fun j hj => ?_⟩
      rw [List.length_take, Nat.min_eq_left (by omega)] at hj
      have := hcell j (by omega)
      rw [List.getElem_take]
      rw [List.getD_eq_getElem?_getD, List.getElem?_eq_getElem (by omega)] at this
      exact add_plain b off j ▸ this
theorem arrayOfTwo {α : Type} {cs : Array α} (h : cs.size = 2) : ∃ c0 c1, cs = #[c0, c1] := by
  obtain ⟨l⟩ := cs
  match l, h with
  | [c0, c1], _ => exact ⟨c0, c1, rfl⟩
theorem some_at {α : Type} {xs : List α} {n i : Nat} (h : xs.length = n) (hi : i < n) : ∃ b, xs[i]? = some b := ⟨xs[i]'(by omega), List.getElem?_eq_getElem (by omega)⟩
theorem numCell {W : World} {b : Nat} {sp : Nat → Bool} {hd : Bool} {n : Nat} {v : Value} {x : DataW H × List MemPlace} (h : DataW.trod enc Try.prog W b sp hd n 3 [v] = some x) : ∃ a, v = .int .i64 a ∧ I64 a := by
  obtain ⟨a, e, _, h1⟩ := DataW.trod_int Try.underlying3 h
  exact ⟨a, by simpa using e, wf_i64 h1⟩
set_option maxRecDepth 100000 in
/-- An argument that is two numbers. -/
theorem openTwoArg {W : World} {base : Nat} {v : Value} {d : DataW H} {p : List MemPlace} (hv : Value.okWide Try.prog W .any base 23 v)
    (h : DataW.Trod enc Try.prog W 0 (fun _ => true) true 23 v d p) : ∃ a0 a1, v = .agg #[.int .i64 a0, .int .i64 a1] ∧ I64 a0 ∧ I64 a1 := by
  have ht := Try.underlying23
  simp only [Value.okWide, ht] at hv
  obtain ⟨cs, rfl, hsz, _⟩ := hv
  obtain ⟨c0, c1, rfl⟩ := arrayOfTwo (hsz.trans rdTwo2)
  obtain ⟨fuel, hf⟩ := h
  obtain ⟨xs, m, _, _, _, hxl, hall⟩ := DataW.trod_array Try.underlying23 hf
  rw [rdInt1] at hall
  have key : ∀ (i : Nat) (c : Value), i < 2 → ((#[c0, c1] : Array Value).toList.drop (i * 1)).take 1 = [c] → ∃ a, c = .int .i64 a ∧ I64 a := fun i c hi e => by
    obtain ⟨b, hb⟩ := some_at hxl hi
    have h1 := hall i hi
    rw [hb] at h1
    have h2 : DataW.trod enc Try.prog W 0 (fun _ => true) true m 3 [c] = some b := by rw [← e]; exact h1
    exact numCell h2
  obtain ⟨a0, rfl, i0⟩ := key 0 c0 (by omega) rfl
  obtain ⟨a1, rfl, i1⟩ := key 1 c1 (by omega) rfl
  exact ⟨a0, a1, rfl, i0, i1⟩
end
end Go.Proofs.Ytanillahofohgaa
