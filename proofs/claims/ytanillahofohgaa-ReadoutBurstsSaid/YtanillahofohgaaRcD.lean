/- Layer 5: an argument that is a frame. -/
import Derived.Test.YtanillahofohgaaRcA
import Derived.Test.YtanillahofohgaaRbF
import Derived.Deep.SlicePairs
set_option linter.unusedVariables false
set_option linter.unusedSimpArgs false
namespace Go.Proofs.Ytanillahofohgaa
open Go Go.ChangeShapes Go.WideShapes Go.ChangeAt Go.RowKit

theorem rdFrame5 : Try.prog.cellsOf 38 = 5 := by kernel_rfl
theorem rdRaw2 : Try.prog.cellsOf 35 = 2 := by kernel_rfl
theorem rdRaws1 : Try.prog.cellsOf 25 = 1 := by kernel_rfl
theorem rdReadFrame : Try.prog.readableRec 38 = true := by kernel_rfl
theorem rdRowFrame : (38 : TypeId) < Try.prog.types.size := of_decide_eq_true (by kernel_rfl)
theorem arrayOfFive {α : Type} {cs : Array α} (h : cs.size = 5) : ∃ c0 c1 c2 c3 c4, cs = #[c0, c1, c2, c3, c4] := by
  obtain ⟨l⟩ := cs
  match l, h with
  | [c0, c1, c2, c3, c4], _ => exact ⟨c0, c1, c2, c3, c4, rfl⟩
section
variable {H : Type} {enc : TypeId × Value → H}
set_option maxRecDepth 100000 in
theorem hitsCell {W : World} {n : Nat} {v : Value} {x : DataW H × List MemPlace} (h : DataW.trod enc Try.prog W 0 (fun _ => true) true n 25 [v] = some x) : ∃ l, HiS W v l := by
  rcases Go.Deep.open_slice_pairs Try.underlying25 Try.underlying35 rdRaw2 rfl rfl (by kernel_rfl) (by kernel_rfl) h with ⟨e, _⟩ | ⟨a, len, cap, m, q, V0, V1, D0, D1, P0, P1, e, _, hlc, _, hm, _, hx⟩
  · have e' : v = .slice none 0 0 := by simpa using e
    subst e'
    exact ⟨[], HiS.nil W⟩
  · have e' : v = .slice (some a) len cap := by simpa using e
    subst e'
    rw [if_pos rfl] at hm
    have hn : ∀ i, i < m → ∃ x y, V0 i = .int .i64 x ∧ V1 i = .int .i64 y ∧ I64 x ∧ I64 y := fun i hi => by
      obtain ⟨_, _, h0, h1⟩ := hx i hi
      obtain ⟨x, e0, i0⟩ := numCell h0
      obtain ⟨y, e1, i1⟩ := numCell h1
      exact ⟨x, y, e0, e1, i0, i1⟩
    let F : Nat → Int := fun i => match V0 i with | .int _ x => x | _ => 0
    let G : Nat → Int := fun i => match V1 i with | .int _ x => x | _ => 0
    have hf : ∀ i, i < m → V0 i = .int .i64 (F i) ∧ V1 i = .int .i64 (G i) ∧ I64 (F i) ∧ I64 (G i) := fun i hi => by
      obtain ⟨x, y, e0, e1, i0, i1⟩ := hn i hi
      have f0 : F i = x := by show (match V0 i with | .int _ x => x | _ => 0) = x; rw [e0]
      have g0 : G i = y := by show (match V1 i with | .int _ x => x | _ => 0) = y; rw [e1]
      rw [f0, g0]
      exact ⟨e0, e1, i0, i1⟩
    refine ⟨(List.range len).map fun i => (F i, G i), some a, cap, by simp, by simpa using hlc, fun x hx => ?_, fun hp => ?_⟩
    · obtain ⟨i, hi, rfl⟩ := List.mem_map.1 hx
      have := List.mem_range.1 hi
      exact (hf i (by omega)).2.2
    · have hp' : 0 < len := by simpa using hp
      have h0 := (hx 0 (by omega)).1
      have hs : a.spot = none := World.cell?_spot (a := a) (by simpa [Addr.add] using h0)
      obtain ⟨b, off, spot⟩ := a
      simp only at hs
      subst hs
      refine ⟨b, off, rfl, fun k hk => ?_⟩
      have hk' : k < len := by simpa using hk
      obtain ⟨d0, d1, _, _⟩ := hx k (by omega)
      obtain ⟨e0, e1, _, _⟩ := hf k (by omega)
      rw [e0] at d0
      rw [e1] at d1
      rw [List.getElem_map, List.getElem_range]
      exact ⟨add_plain b off (k * 2) ▸ d0, by have := add_plain b off (k * 2 + 1) ▸ d1; rw [Nat.add_assoc]; exact this⟩
set_option maxRecDepth 100000 in
theorem openFrameArg {W : World} {base : Nat} {v : Value} {d : DataW H} {p : List MemPlace} (hv : Value.okWide Try.prog W .any base 38 v)
    (h : DataW.Trod enc Try.prog W 0 (fun _ => true) true 38 v d p) : ∃ f : Fr, ∃ vs, v = f.val vs ∧ HiS W vs f.hs := by
  obtain ⟨cs, rfl, hsz⟩ := okWide_struct Try.underlying38 hv
  obtain ⟨c0, c1, c2, c3, c4, rfl⟩ := arrayOfFive (hsz.trans rdFrame5)
  obtain ⟨fuel, hf⟩ := h
  obtain ⟨xs, n, _, _, hl, hlen, hfs⟩ := DataW.trod_struct Try.underlying38 hf
  match xs, hlen with
  | [y0, y1, y2, y3, y4], _ =>
    have t0 : DataW.trod enc Try.prog W 0 (fun _ => true) true n 3 [c0] = some y0 := by have := hfs 0 _ rfl; simpa [rdInt1, Value.cells] using this
    have t1 : DataW.trod enc Try.prog W 0 (fun _ => true) true n 3 [c1] = some y1 := by have := hfs 1 _ rfl; simpa [rdInt1, Value.cells] using this
    have t2 : DataW.trod enc Try.prog W 0 (fun _ => true) true n 3 [c2] = some y2 := by have := hfs 2 _ rfl; simpa [rdInt1, Value.cells] using this
    have t3 : DataW.trod enc Try.prog W 0 (fun _ => true) true n 3 [c3] = some y3 := by have := hfs 3 _ rfl; simpa [rdInt1, Value.cells] using this
    have t4 : DataW.trod enc Try.prog W 0 (fun _ => true) true n 25 [c4] = some y4 := by have := hfs 4 _ rfl; simpa [rdRaws1, Value.cells] using this
    obtain ⟨x0, rfl, _⟩ := numCell t0
    obtain ⟨x1, rfl, _⟩ := numCell t1
    obtain ⟨x2, rfl, _⟩ := numCell t2
    obtain ⟨x3, rfl, _⟩ := numCell t3
    obtain ⟨l, hl⟩ := hitsCell t4
    exact ⟨⟨x0, x1, x2, x3, l⟩, c4, rfl, hl⟩
end
end Go.Proofs.Ytanillahofohgaa
