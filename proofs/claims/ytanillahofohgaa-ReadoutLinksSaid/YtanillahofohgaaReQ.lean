/- Layer 5: the document's link. -/
import Derived.Deep.RegionLaw
import Derived.Test.YtanillahofohgaaReN
import Derived.Test.YtanillahofohgaaReP
set_option linter.unusedVariables false
set_option linter.unusedSimpArgs false
set_option maxRecDepth 100000
namespace Go.Proofs.Ytanillahofohgaa
open Go.RowKit

/-- Strings in a row that is only read; where it lies meets `P`. -/
def StS (P : Nat → Prop) (W : World) (v : Value) (l : Strs) : Prop :=
  ∃ a cap, v = .slice a l.length cap ∧ l.length ≤ cap ∧ (0 < l.length → ∃ b off, a = some ⟨b, off, none⟩ ∧ P b ∧ ∀ k (h : k < l.length), W.cell? ⟨b, off + k, none⟩ = some (.string (str l[k])))
theorem StS.nil (P : Nat → Prop) (W : World) : StS P W (.slice none 0 0) [] := ⟨none, 0, rfl, Nat.le_refl _, fun h => absurd h (by decide)⟩
theorem StS.form {P : Nat → Prop} {W : World} {v : Value} {l : Strs} (h : StS P W v l) : ∃ a cap, v = .slice a l.length cap ∧ l.length ≤ cap := by
  obtain ⟨a, cap, e, hc, _⟩ := h
  exact ⟨a, cap, e, hc⟩
theorem StS.keep {P : Nat → Prop} {W W' : World} {v : Value} {l : Strs} (h : StS P W v l) (k : ∀ b, b < W.heap.size → P b → W'.heap[b]? = W.heap[b]?) : StS P W' v l := by
  obtain ⟨a, cap, e, hc, h1⟩ := h
  refine ⟨a, cap, e, hc, fun h0 => ?_⟩
  obtain ⟨b, off, eb, hp, h2⟩ := h1 h0
  have hb : b < W.heap.size := cell_lt (h2 0 h0)
  exact ⟨b, off, eb, hp, fun j hj => (World.cell?_of_block (k b hb hp)).trans (h2 j hj)⟩
theorem StS.mono {P Q : Nat → Prop} {W : World} {v : Value} {l : Strs} (h : StS P W v l) (k : ∀ b, b < W.heap.size → P b → Q b) : StS Q W v l := by
  obtain ⟨a, cap, e, hc, h1⟩ := h
  refine ⟨a, cap, e, hc, fun h0 => ?_⟩
  obtain ⟨b, off, eb, hp, h2⟩ := h1 h0
  exact ⟨b, off, eb, k b (cell_lt (h2 0 h0)) hp, h2⟩
theorem StS.below {P : Nat → Prop} {W W' : World} {v : Value} {l : Strs} (h : StS P W v l) (k : Below W.heap.size W W') : StS P W' v l := h.keep fun b hb _ => k.block b hb
theorem StS.src {P : Nat → Prop} {W : World} {v : Value} {l : Strs} (h : StS P W v l) : Src Try.prog 1 63 v l.length (stC l) W := by
  obtain ⟨a, cap, rfl, hc, h1⟩ := h
  cases l with
  | nil =>
    cases a with
    | none => exact Src.ofNil W st_slice cap
    | some a => exact Src.ofSlice W st_slice a 0 cap [] rfl (fun j u hj => by simp at hj) (fun u hu => by cases hu)
  | cons x l =>
    obtain ⟨b, off, rfl, _, h2⟩ := h1 (by simp)
    refine Src.ofSlice W st_slice ⟨b, off, none⟩ _ cap _ (by rw [stC_len]; omega) (fun j u hj => ?_) (fun u hu => ?_)
    · have hjl : j < (x :: l).length := by
        have := List.getElem?_eq_some_iff.1 hj
        obtain ⟨h3, _⟩ := this
        rwa [stC_len] at h3
      have e : u = .string (str (x :: l)[j]) := by
        unfold stC at hj
        rw [List.getElem?_map, List.getElem?_eq_getElem hjl] at hj
        exact (Option.some.inj hj).symm
      rw [e]
      have := h2 j hjl
      unfold Addr.add
      split
      · rename_i h0
        have h0' : j = 0 := by simpa using h0
        subst h0'
        exact this
      · exact this
    · unfold stC at hu
      obtain ⟨y, _, rfl⟩ := List.mem_map.1 hu
      rfl
theorem So.sts {B : Nat} {W : World} {v : Value} {l : Strs} (h : So B W v l) : StS (fun b => B ≤ b ∧ v.ownBlock = some b) W v l := by
  obtain ⟨a, cap, rfl, hc⟩ := h.form
  refine ⟨a, cap, rfl, hc, fun h0 => ?_⟩
  obtain ⟨g, c, e, _⟩ := So.at h h0
  injection e with e1 e2 e3
  subst e1
  have ho : (Value.slice (some ⟨g, 0, none⟩) l.length cap).ownBlock = some g := rfl
  refine ⟨g, 0, rfl, ⟨(So.lt h g ho).1, ho⟩, fun k hk => ?_⟩
  obtain ⟨g2, c2, e4, h5⟩ := So.at h hk
  injection e4 with e5 _ _
  injection e5 with e6
  injection e6 with e7 _ _
  subst e7
  rw [Nat.zero_add]
  exact h5
theorem StS.head {P : Nat → Prop} {W : World} {a : Option Addr} {n cap : Nat} {x : List UInt8} {l : Strs} (h : StS P W (.slice a n cap) (x :: l)) : ∃ b off, a = some ⟨b, off, none⟩ ∧ n = l.length + 1 ∧ W.cell? ⟨b, off, none⟩ = some (.string (str x)) := by
  obtain ⟨a', c', e, hc, h1⟩ := h
  injection e with e1 e2 e3
  subst e1 e2 e3
  obtain ⟨b, off, eb, hp, h2⟩ := h1 (by simp)
  exact ⟨b, off, eb, by simp, h2 0 (by simp)⟩
/-- What is left behind the first string. -/
theorem StS.tail {P : Nat → Prop} {W : World} {b off n cap : Nat} {x : List UInt8} {l : Strs} (h : StS P W (.slice (some ⟨b, off, none⟩) n cap) (x :: l)) :
    ∃ a', (∀ W' : World, (Instr.slice 63 (.slice (some ⟨b, off, none⟩) n cap) (some (.int .i64 1)) none none).run Try.prog W' = .ok (.slice a' l.length (cap - 1)) W') ∧ StS P W (.slice a' l.length (cap - 1)) l := by
  obtain ⟨a2, c2, e, hc, h1⟩ := h
  injection e with e1 e2 e3
  subst e1 e2 e3
  simp only [List.length_cons] at hc ⊢
  refine ⟨if cap = 1 then some ⟨b, off, none⟩ else (some ⟨b, off, none⟩ : Option Addr).map (·.add (1 * 1)), fun W' => ?_, ?_⟩
  · have ht : Try.prog.underlying 63 = some (.slice (Try.prog.elem 63)) := by kernel_rfl
    have hsz : (sizeOf (Try.prog.elem 63)).run Try.prog W' = .ok 1 W' := by kernel_rfl
    rw [run_slice_l W' 63 (some ⟨b, off, none⟩) (l.length + 1) cap ht .i64 1 (by omega) (by omega), hsz]
    show Result.ok (sliced _ (1 : Int).toNat _ _ 1) W' = _
    unfold sliced
    rfl
  · refine ⟨_, cap - 1, rfl, by omega, fun h0 => ?_⟩
    obtain ⟨b', off', eb, hp, h2⟩ := h1 (by simp)
    injection eb with eb
    injection eb with e4 e5 _
    subst e4 e5
    refine ⟨b, off + 1, by rw [if_neg (by omega)]; rfl, hp, fun k hk => ?_⟩
    have := h2 (k + 1) (by simp; omega)
    rw [List.getElem_cons_succ] at this
    rw [show off + 1 + k = off + (k + 1) by omega]
    exact this
end Go.Proofs.Ytanillahofohgaa
