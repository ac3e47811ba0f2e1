/- Layer 4: a version looked up; a version put in. -/
import Derived.RangeFuncRecord
import Derived.MapKept
import Derived.Test.YtlegacllbohbmaaDoorCbA
set_option linter.unusedVariables false
set_option linter.unusedSimpArgs false
namespace Go.Proofs.YtlegacllbohbmaaDoor
open Go.RowKit Go.Shelf

/-- Which version has a key. -/
def fnd (vs : List ((Int × Int) × Vr)) (k n : Int) : Option Nat := (vs.map (·.1)).findIdx? (isKey k n)
def verP (vs : List ((Int × Int) × Vr)) (vbs : List Nat) (k n : Int) : Value := .pointer ((fnd vs k n).bind fun j => (vbs[j]?).map fun b => ⟨b, 0, none⟩)
theorem MapIs.keys {es : Array MapEntry} {vs : List ((Int × Int) × Vr)} {vbs : List Nat} (h : MapIs es vs vbs) : es.toList.map (·.key) = (vs.map (·.1)).map (fun x => .agg #[.int .i64 x.1, .int .i64 x.2]) := by
  obtain ⟨hl, he⟩ := h
  have h1 := congrArg (List.map Prod.fst) he
  simp only [List.map_map] at h1
  have e1 : es.toList.map (·.key) = es.toList.map (Prod.fst ∘ fun e : MapEntry => (e.key, e.val)) := rfl
  rw [e1, h1]
  have e2 : (vs.zip vbs).map (Prod.fst ∘ fun x : (((Int × Int) × Vr) × Nat) => ((Value.agg #[.int .i64 x.1.1.1, .int .i64 x.1.1.2], Value.pointer (some ⟨x.2, 0, none⟩)) : Value × Value)) = ((vs.zip vbs).map Prod.fst).map (fun x => Value.agg #[.int .i64 x.1.1, .int .i64 x.1.2]) := by
    rw [List.map_map]; rfl
  rw [e2, List.map_fst_zip (by omega), List.map_map]
  rfl
theorem MapIs.val {es : Array MapEntry} {vs : List ((Int × Int) × Vr)} {vbs : List Nat} (h : MapIs es vs vbs) (j : Nat) (hj : j < vs.length) : (es.toList[j]?).map (·.val) = (vbs[j]?).map fun b => Value.pointer (some ⟨b, 0, none⟩) := by
  obtain ⟨hl, he⟩ := h
  have h1 := congrArg (List.map Prod.snd) he
  have e0 : (es.toList[j]?).map (·.val) = (List.map Prod.snd (es.toList.map fun e : MapEntry => (e.key, e.val)))[j]? := by
    rw [List.map_map, List.getElem?_map]; rfl
  have e2 : (vs.zip vbs).map (Prod.snd ∘ fun x : (((Int × Int) × Vr) × Nat) => ((Value.agg #[.int .i64 x.1.1.1, .int .i64 x.1.1.2], Value.pointer (some ⟨x.2, 0, none⟩)) : Value × Value)) = ((vs.zip vbs).map Prod.snd).map (fun b => Value.pointer (some ⟨b, 0, none⟩)) := by
    rw [List.map_map]; rfl
  rw [e0, h1, List.map_map, e2, List.map_snd_zip (by omega), List.getElem?_map]
theorem fnd_lt {vs : List ((Int × Int) × Vr)} {k n : Int} {j : Nat} (h : fnd vs k n = some j) : j < vs.length := by
  have := (List.findIdx?_eq_some_iff_getElem.1 h).1
  simpa using this

theorem find_run {W : World} {es : Array MapEntry} {vs : List ((Int × Int) × Vr)} {vbs : List Nat} (hm : MapIs es vs vbs) (k n : Int) :
    (Instr.findKey 59 (.agg #[.int .i64 k, .int .i64 n]) es.toList).run Tryd.prog W = .ok ((fnd vs k n).bind fun j => (es.toList[j]?).map fun e => (j, e.val)) W := by
  have hj := asking k n W (vs.map (·.1)) es.toList 0 hm.keys
  have hu : Tryd.prog.underlying 50 = some (.map 59 55) := by kernel_rfl
  have hk : Tryd.prog.underlying 59 = some (.struct (Tryd.prog.fieldsOf 59)) := by kernel_rfl
  have hz : (zeroValue 55).run Tryd.prog W = .ok (.pointer none) W := by kernel_rfl
  have hnow : ∀ (l : List MapEntry) (i : Nat), (∃ r, Instr.findNow (.struct (Tryd.prog.fieldsOf 59)) (.agg #[.int .i64 k, .int .i64 n]) l i = some r ∧ l = [] ∧ r = none) ∨ (Instr.findNow (.struct (Tryd.prog.fieldsOf 59)) (.agg #[.int .i64 k, .int .i64 n]) l i = none) := by
    intro l i
    cases l with
    | nil => exact .inl ⟨none, rfl, rfl, rfl⟩
    | cons e l => exact .inr (by simp [Instr.findNow, Instr.sameNow])
  unfold Instr.findKey
  simp only [Sem.run_bind, run_underlying hk, Result.andThen_ok]
  have hj' : (Instr.findAsking 59 (.agg #[.int .i64 k, .int .i64 n]) es.toList 0).run Tryd.prog W = .ok ((fnd vs k n).bind fun j => (es.toList[j]?).map fun e => (j, e.val)) W := by
    rw [hj]; unfold fnd; simp only [Nat.zero_add]
  rcases hnow es.toList 0 with ⟨r, h1, h2, rfl⟩ | h1
  · rw [h1]
    have e0 : vs = [] := by
      have := congrArg List.length hm.2
      rw [h2, List.length_map, List.length_map, List.length_zip, List.length_nil] at this
      have h3 := hm.1
      exact List.eq_nil_of_length_eq_zero (by omega)
    subst e0
    simp [fnd]
  · rw [h1]; exact hj'
theorem look_run {W : World} {mb clk : Nat} {es : Array MapEntry} {vs : List ((Int × Int) × Vr)} {vbs : List Nat} (hb : W.heap[mb]? = some (.map es clk)) (hm : MapIs es vs vbs) (k n : Int) :
    (Instr.lookup 50 (.map (some mb)) (.agg #[.int .i64 k, .int .i64 n]) false).run Tryd.prog W = .ok (verP vs vbs k n) W := by
  have hu : Tryd.prog.underlying 50 = some (.map 59 55) := by kernel_rfl
  have hz : (zeroValue 55).run Tryd.prog W = .ok (.pointer none) W := by kernel_rfl
  have hf := find_run (W := W) hm k n
  have hg : (getObj mb).run Tryd.prog W = .ok (.map es clk) W := by simp [getObj, Sem.run, hb]
  unfold Instr.lookup
  simp only [Sem.run_bind, run_underlying hu, Result.andThen_ok, hg, key_check, hf]
  unfold verP
  cases h : fnd vs k n with
  | none =>
    simp only [Sem.run_bind, Sem.run_pure, Result.andThen_ok, key_check]
    rw [hf, h]
    simp [hz]
  | some j =>
    have hl := fnd_lt h
    have hv := hm.val j hl
    have hjs : j < vbs.length := by rw [hm.1]; exact hl
    rw [List.getElem?_eq_getElem hjs] at hv
    obtain ⟨e, he, hev⟩ := Option.map_eq_some_iff.1 hv
    have he' : es[j]? = some e := by simpa using he
    simp only [Sem.run_bind, Sem.run_pure, Result.andThen_ok, key_check]
    rw [hf, h]
    simp [he', hev, hjs]

/-- A new key's store. -/
theorem upd_run {W : World} {mb clk : Nat} {es : Array MapEntry} {vs : List ((Int × Int) × Vr)} {vbs : List Nat} (hb : W.heap[mb]? = some (.map es clk)) (hm : MapIs es vs vbs) (k n : Int) (hn : fnd vs k n = none) (vb : Nat) :
    (Instr.mapUpdate 50 (.map (some mb)) (.agg #[.int .i64 k, .int .i64 n]) (.pointer (some ⟨vb, 0, none⟩))).run Tryd.prog W =
      .ok () (W.putObj mb (.map (es.push { key := .agg #[.int .i64 k, .int .i64 n], val := .pointer (some ⟨vb, 0, none⟩), born := clk }) (clk + 1))) := by
  have hu : Tryd.prog.underlying 50 = some (.map 59 55) := by kernel_rfl
  have hk : Tryd.prog.underlying 59 = some (.struct (Tryd.prog.fieldsOf 59)) := by kernel_rfl
  have hf := find_run (W := W) hm k n
  rw [hn] at hf
  have hg : (getObj mb).run Tryd.prog W = .ok (.map es clk) W := by simp [getObj, Sem.run, hb]
  have hs : ∀ o, (setObj mb o).run Tryd.prog W = .ok () (W.putObj mb o) := fun o => by simp [setObj, Sem.run, hb, World.putObj]
  unfold Instr.mapUpdate
  simp only [Sem.run_bind, run_underlying hu, Result.andThen_ok, hg, key_check]
  rw [hf]
  simp [hs]
theorem MapIs.push {es : Array MapEntry} {vs : List ((Int × Int) × Vr)} {vbs : List Nat} (h : MapIs es vs vbs) (k n : Int) (x : Vr) (vb clk : Nat) :
    MapIs (es.push { key := .agg #[.int .i64 k, .int .i64 n], val := .pointer (some ⟨vb, 0, none⟩), born := clk }) (vs ++ [((k, n), x)]) (vbs ++ [vb]) := by
  obtain ⟨hl, he⟩ := h
  refine ⟨by simp [hl], ?_⟩
  rw [Array.toList_push, List.map_append, he, List.zip_append (by omega), List.map_append]
  rfl
end Go.Proofs.YtlegacllbohbmaaDoor
