/- Layer 5: what the rows of links open. -/
import Derived.Deep.Slices
import Derived.Test.YtanillahofohgaaRcA
import Derived.Test.YtanillahofohgaaReM
set_option linter.unusedVariables false
set_option linter.unusedSimpArgs false
namespace Go.Proofs.Ytanillahofohgaa
open Go Go.ChangeShapes Go.WideShapes Go.ChangeAt Go.RowKit

theorem rdAct3 : Try.prog.cellsOf 69 = 3 := by kernel_rfl
theorem rdU81 : Try.prog.cellsOf 5 = 1 := by kernel_rfl
theorem rdString1 : Try.prog.cellsOf 9 = 1 := by kernel_rfl
theorem rdInts1 : Try.prog.cellsOf 22 = 1 := by kernel_rfl
theorem rdReadActs : Try.prog.readableRec 58 = true := by kernel_rfl
theorem rdRowActs : (58 : TypeId) < Try.prog.types.size := of_decide_eq_true (by kernel_rfl)
theorem at_add (b off i : Nat) : (⟨b, off, none⟩ : Addr).add i = ⟨b, off + i, none⟩ := by simp [Addr.add]
instance : Inhabited Ac := ⟨⟨0, [], []⟩⟩
section
variable {H : Type} {enc : TypeId × Value → H}
set_option maxRecDepth 100000 in
/-- A cell that reads as a list of numbers is one. -/
theorem intsCell {W : World} {n : Nat} {v : Value} {x : DataW H × List MemPlace} (h : DataW.trod enc Try.prog W 0 (fun _ => true) true n 22 [v] = some x) : ∃ l, InS W v l ∧ l.length ≤ maxLen ∧ ∃ a n c, v = .slice a n c := by
  rcases Go.Deep.open_slice1 Try.underlying22 rdInt1 h with ⟨e, _⟩ | ⟨a, len, cap, m, q, V, D, P, e, _, hlc, hcm, hm, _, hx⟩
  · have e' : v = .slice none 0 0 := by simpa using e
    subst e'
    exact ⟨[], InS.nil W, by decide, _, _, _, rfl⟩
  · have e' : v = .slice (some a) len cap := by simpa using e
    subst e'
    rw [if_pos rfl] at hm
    have hn : ∀ i, i < m → ∃ x, V i = .int .i64 x ∧ I64 x := fun i hi => numCell (hx i hi).2
    obtain ⟨f, hf⟩ := Go.Deep.choose_lt hn
    have hl : ((List.range len).map f).length = len := by simp
    refine ⟨(List.range len).map f, ⟨some a, cap, by rw [hl], by rw [hl]; exact hlc, fun x hx => ?_, fun hp => ?_⟩, by rw [hl]; exact Nat.le_trans hlc hcm, _, _, _, rfl⟩
    · obtain ⟨i, hi, rfl⟩ := List.mem_map.1 hx
      have := List.mem_range.1 hi
      exact (hf i (by omega)).2
    · rw [hl] at hp
      have h0 := (hx 0 (by omega)).1
      have hs : a.spot = none := World.cell?_spot (a := a) (by simpa [Addr.add] using h0)
      obtain ⟨b, off, spot⟩ := a
      simp only at hs
      subst hs
      refine ⟨b, off, rfl, fun k hk => ?_⟩
      have hk' : k < len := by simpa using hk
      obtain ⟨d0, _⟩ := hx k (by omega)
      rw [(hf k (by omega)).1, at_add] at d0
      rw [List.getElem_map, List.getElem_range]
      exact d0
set_option maxRecDepth 100000 in
/-- An argument that is a list of acts. -/
theorem openActsArg {W : World} {base : Nat} {v : Value} {d : DataW H} {p : List MemPlace} (hv : Value.okWide Try.prog W .any base 58 v)
    (h : DataW.Trod enc Try.prog W 0 (fun _ => true) true 58 v d p) : ∃ l, AcS W v l := by
  obtain ⟨fuel, hf⟩ := h
  obtain ⟨a0, n0, c0, rfl⟩ := okWide_slice Try.underlying58 hv
  rcases Go.Deep.open_slice Try.underlying58 hf with ⟨e, _⟩ | ⟨a, len, cap, m, q, D, P, e, _, hlc, hcm, hm, _, hx⟩
  · simp [Value.cells] at e
    obtain ⟨rfl, rfl, rfl⟩ := e
    exact ⟨[], none, 0, rfl, Nat.le_refl _, by decide, fun x hx => by (cases hx), fun h => absurd h (by decide)⟩
  · simp [Value.cells] at e
    obtain ⟨rfl, rfl, rfl⟩ := e
    rw [if_pos rfl] at hm
    have each : ∀ i, i < m → ∃ y : Ac, (y.k < 256 ∧ y.fl.length ≤ maxLen) ∧ ∃ sa sn sc, W.cell? (a.add (i * 3)) = some (.int .u8 (y.k : Nat)) ∧ W.cell? (a.add (i * 3 + 1)) = some (.string (str y.s)) ∧ W.cell? (a.add (i * 3 + 2)) = some (.slice sa sn sc) ∧ InS W (.slice sa sn sc) y.fl := by
      intro i hi
      obtain ⟨cs', h1, h2⟩ := hx i hi
      rw [rdAct3] at h1
      obtain ⟨_, hlen, hcell⟩ := World.cells?_some h1
      obtain ⟨xs, k, _, _, _, hxl, hfs⟩ := DataW.trod_struct Try.underlying69 h2
      match xs, hxl, cs', hlen with
      | [y0, y1, y2], _, [v0, v1, v2], _ =>
        have t0 : DataW.trod enc Try.prog W 0 (fun _ => true) true k 5 [v0] = some y0 := by have := hfs 0 _ rfl; simpa [rdU81] using this
        have t1 : DataW.trod enc Try.prog W 0 (fun _ => true) true k 9 [v1] = some y1 := by have := hfs 1 _ rfl; simpa [rdString1] using this
        have t2 : DataW.trod enc Try.prog W 0 (fun _ => true) true k 22 [v2] = some y2 := by have := hfs 2 _ rfl; simpa [rdInts1] using this
        obtain ⟨b, e1, _, hb⟩ := DataW.trod_int Try.underlying5 t0
        obtain ⟨s, e2, _⟩ := DataW.trod_string Try.underlying9 t1
        obtain ⟨fl, hfl, hfm, sa, sn, sc, e3⟩ := intsCell t2
        simp at e1 e2
        subst e1 e2 e3
        have hb2 : 0 ≤ b ∧ b < 256 := by
          simp [Lit.wf, IntKind.min, IntKind.max, IntKind.signed, IntKind.bits] at hb
          omega
        have g0 := hcell 0 (by omega)
        have g1 := hcell 1 (by omega)
        have g2 := hcell 2 (by omega)
        rw [Go.Deep.add_add] at g0 g1 g2
        refine ⟨⟨b.toNat, s.data.toList, fl⟩, ⟨by show b.toNat < 256; omega, hfm⟩, sa, sn, sc, ?_, ?_, ?_, hfl⟩
        · rw [Int.toNat_of_nonneg hb2.1]; simpa using g0
        · rw [← str_of]; simpa using g1
        · simpa using g2
    obtain ⟨f, hf2⟩ := Go.Deep.choose_lt each
    have hl : ((List.range n0).map f).length = n0 := by simp
    refine ⟨(List.range n0).map f, some a, c0, by rw [hl], by rw [hl]; exact hlc, hcm, fun x hx => ?_, fun hp => ?_⟩
    · obtain ⟨i, hi, rfl⟩ := List.mem_map.1 hx
      have := List.mem_range.1 hi
      exact (hf2 i (by omega)).1
    · rw [hl] at hp
      obtain ⟨_, _, _, _, h0, _⟩ := hf2 0 (by omega)
      have hs : a.spot = none := World.cell?_spot (a := a) (by simpa [Addr.add] using h0)
      obtain ⟨b, off, spot⟩ := a
      simp only at hs
      subst hs
      refine ⟨b, off, rfl, fun k hk => ?_⟩
      have hk' : k < n0 := by simpa using hk
      obtain ⟨_, sa, sn, sc, d0, d1, d2, d3⟩ := hf2 k (by omega)
      rw [at_add] at d0 d1 d2
      rw [List.getElem_map, List.getElem_range]
      exact ⟨sa, sn, sc, d0, by rw [Nat.add_assoc]; exact d1, by rw [Nat.add_assoc]; exact d2, d3⟩
end
end Go.Proofs.Ytanillahofohgaa
