/- Layer 5: what a string is scanned to; rows of frames. -/
import Derived.Test.YtanillahofohgaaRbH
set_option linter.unusedVariables false
set_option linter.unusedSimpArgs false
namespace Go.Proofs.Ytanillahofohgaa
open Go.RowKit Go.Shelf

/-- The frames in a string, and how many of its bytes are lost. -/
inductive Sc : List UInt8 → List Fr → Nat → Prop
  | nil : Sc [] [] 0
  | yes {m : List UInt8} {fs : List Fr} {n : Nat} : unpOk m = true → Sc (m.drop (20 + 4 * hdN m)) fs n → Sc m (unpF m :: fs) n
  | no {m : List UInt8} {fs : List Fr} {n : Nat} : m ≠ [] → unpOk m = false → Sc (m.drop 1) fs n → Sc m fs (n + 1)
theorem Sc_ex : ∀ (k : Nat) (m : List UInt8), m.length ≤ k → ∃ fs n, Sc m fs n
  | 0, m, h => by
    have : m = [] := List.eq_nil_of_length_eq_zero (by omega)
    subst this
    exact ⟨[], 0, .nil⟩
  | k + 1, m, h => by
    by_cases hm : m = []
    · subst hm
      exact ⟨[], 0, .nil⟩
    · have h0 : 0 < m.length := List.length_pos_iff.2 hm
      cases ho : unpOk m with
      | true =>
        have := unpOk_len ho
        obtain ⟨fs, n, h1⟩ := Sc_ex k (m.drop (20 + 4 * hdN m)) (by rw [List.length_drop]; omega)
        exact ⟨_, _, .yes ho h1⟩
      | false =>
        obtain ⟨fs, n, h1⟩ := Sc_ex k (m.drop 1) (by rw [List.length_drop]; omega)
        exact ⟨_, _, .no hm ho h1⟩
theorem unpOk_nil : unpOk [] = false := by decide
theorem Sc.of_yes {m : List UInt8} {fs : List Fr} {n : Nat} (h : Sc m fs n) (ho : unpOk m = true) : ∃ fs', fs = unpF m :: fs' ∧ Sc (m.drop (20 + 4 * hdN m)) fs' n := by
  cases h with
  | nil => rw [unpOk_nil] at ho; cases ho
  | yes _ h1 => exact ⟨_, rfl, h1⟩
  | no _ h1 _ => rw [h1] at ho; cases ho
theorem Sc.of_no {m : List UInt8} {fs : List Fr} {n : Nat} (h : Sc m fs n) (hm : 0 < m.length) (ho : unpOk m = false) : ∃ n', n = n' + 1 ∧ Sc (m.drop 1) fs n' := by
  cases h with
  | nil => simp at hm
  | yes h1 _ => rw [h1] at ho; cases ho
  | no _ _ h2 => exact ⟨_, rfl, h2⟩
theorem Sc.of_nil {fs : List Fr} {n : Nat} (h : Sc [] fs n) : fs = [] ∧ n = 0 := by
  cases h with
  | nil => exact ⟨rfl, rfl⟩
  | yes h1 _ => rw [unpOk_nil] at h1; cases h1
  | no h1 _ _ => exact absurd rfl h1
/-- Nothing is unpacked ahead of `k`. -/
theorem Sc.skip {m : List UInt8} {fs : List Fr} {n : Nat} (h : Sc m fs n) : ∀ k, k ≤ m.length → (∀ j, j < k → unpOk (m.drop j) = false) → ∃ n', n = n' + k ∧ Sc (m.drop k) fs n'
  | 0, _, _ => ⟨n, rfl, h⟩
  | k + 1, hk, hj => by
    obtain ⟨n1, e1, h1⟩ := h.skip k (by omega) fun j hlt => hj j (by omega)
    obtain ⟨n2, e2, h2⟩ := h1.of_no (by rw [List.length_drop]; omega) (hj k (by omega))
    rw [List.drop_drop] at h2
    exact ⟨n2, by omega, h2⟩
/-- How many bytes frames have. -/
def tot : List Fr → Nat
  | [] => 0
  | f :: fs => 20 + 4 * f.hs.length + tot fs
theorem tot_append : ∀ l m, tot (l ++ m) = tot l + tot m
  | [], m => by simp [tot]
  | f :: l, m => by
    show 20 + 4 * f.hs.length + tot (l ++ m) = 20 + 4 * f.hs.length + tot l + tot m
    rw [tot_append l m]
    omega
theorem tot_len : ∀ l : List Fr, 20 * l.length ≤ tot l
  | [] => Nat.le_refl _
  | f :: l => by
    have := tot_len l
    simp only [tot, List.length_cons]
    omega
theorem Sc.sum {m : List UInt8} {fs : List Fr} {n : Nat} (h : Sc m fs n) : n + tot fs = m.length ∧ ∀ f ∈ fs, f.ok = true := by
  induction h with
  | nil => exact ⟨rfl, fun f hf => by cases hf⟩
  | @yes m fs n ho h ih =>
    have h1 := unpOk_len ho
    have h2 := (unpOk_pack ho).1
    have h3 : (unpF m).hs.length = hdN m := by rw [unpF_hs, rawL_len]
    obtain ⟨i1, i2⟩ := ih
    rw [List.length_drop] at i1
    refine ⟨by simp only [tot]; omega, fun f hf => ?_⟩
    rcases List.mem_cons.1 hf with rfl | hf
    · exact h2
    · exact i2 f hf
  | @no m fs n hm ho h ih =>
    have h0 : 0 < m.length := List.length_pos_iff.2 hm
    obtain ⟨i1, i2⟩ := ih
    rw [List.length_drop] at i1
    exact ⟨by omega, i2⟩

/-! ### Rows of frames -/
def fc (f : Fr) (v : Value) : List Value := [.int .i64 f.l, .int .i64 f.s, .int .i64 f.e, .int .i64 f.t, v]
abbrev FVs := List (Fr × Value)
def fcs (l : FVs) : List Value := l.flatMap fun x => fc x.1 x.2
theorem fcs_len (l : FVs) : (fcs l).length = l.length * 5 := by
  induction l with
  | nil => rfl
  | cons x l ih => rw [fcs, List.flatMap_cons, List.length_append, ← fcs, ih, List.length_cons]; simp [fc]; omega
theorem fcs_append (l m : FVs) : fcs l ++ fcs m = fcs (l ++ m) := by simp [fcs]
theorem fcs_get : ∀ (l : FVs) (i : Nat) (h : i < l.length), (fcs l)[i * 5]? = some (.int .i64 (l[i]).1.l) ∧ (fcs l)[i * 5 + 1]? = some (.int .i64 (l[i]).1.s) ∧ (fcs l)[i * 5 + 2]? = some (.int .i64 (l[i]).1.e) ∧ (fcs l)[i * 5 + 3]? = some (.int .i64 (l[i]).1.t) ∧ (fcs l)[i * 5 + 4]? = some (l[i]).2
  | [], _, h => by simp at h
  | x :: l, 0, _ => by simp [fcs, fc]
  | x :: l, i + 1, h => by
    have ih := fcs_get l i (by simpa using h)
    have e : fcs (x :: l) = fc x.1 x.2 ++ fcs l := by simp [fcs]
    have g : ∀ o, (fc x.1 x.2 ++ fcs l)[(i + 1) * 5 + o]? = (fcs l)[i * 5 + o]? := fun o => by
      rw [List.getElem?_append_right (by simp [fc]; omega)]
      congr 1
      simp [fc]
      omega
    rw [e]
    exact ⟨(g 0).trans ih.1, (g 1).trans ih.2.1, (g 2).trans ih.2.2.1, (g 3).trans ih.2.2.2.1, (g 4).trans ih.2.2.2.2⟩
/-- Frames in a row of the call's own, whose hits are the call's own, too. -/
def Fo (B : Nat) (W : World) (v : Value) (l : FVs) : Prop := Rw 38 5 B W v l.length (fcs l) ∧ ∀ x ∈ l, Ho B W x.2 x.1.hs
theorem Fo.nil (B : Nat) (W : World) : Fo B W (.slice none 0 0) [] := ⟨Rw_nil _ _ _ _, fun x hx => by cases hx⟩
theorem Fo.below {B : Nat} {W W' : World} {v : Value} {l : FVs} (h : Fo B W v l) (k : Below W.heap.size W W') : Fo B W' v l := ⟨h.1.below k, fun x hx => (h.2 x hx).below k⟩
theorem Fo.form {B : Nat} {W : World} {v : Value} {l : FVs} (h : Fo B W v l) : ∃ a cap, v = .slice a l.length cap ∧ l.length ≤ cap := Rw.form h.1
/-- Frames in a row. -/
def FrS (W : World) (v : Value) (fs : List Fr) : Prop :=
  ∃ a cap, v = .slice a fs.length cap ∧ fs.length ≤ cap ∧ (0 < fs.length → ∃ b, a = some ⟨b, 0, none⟩ ∧ ∀ k (h : k < fs.length), ∃ x n c, W.cell? ⟨b, k * 5, none⟩ = some (.int .i64 (fs[k]).l) ∧ W.cell? ⟨b, k * 5 + 1, none⟩ = some (.int .i64 (fs[k]).s) ∧ W.cell? ⟨b, k * 5 + 2, none⟩ = some (.int .i64 (fs[k]).e) ∧ W.cell? ⟨b, k * 5 + 3, none⟩ = some (.int .i64 (fs[k]).t) ∧ W.cell? ⟨b, k * 5 + 4, none⟩ = some (.slice x n c) ∧ HiS W (.slice x n c) (fs[k]).hs)
theorem FrS.below {W W' : World} {v : Value} {fs : List Fr} (h : FrS W v fs) (k : Below W.heap.size W W') : FrS W' v fs := by
  obtain ⟨a, cap, e, hc, h1⟩ := h
  refine ⟨a, cap, e, hc, fun h0 => ?_⟩
  obtain ⟨b, eb, h2⟩ := h1 h0
  refine ⟨b, eb, fun j hj => ?_⟩
  obtain ⟨x, n, c, d0, d1, d2, d3, d4, d5⟩ := h2 j hj
  exact ⟨x, n, c, bc k d0, bc k d1, bc k d2, bc k d3, bc k d4, d5.below k⟩
theorem FrS.form {W : World} {v : Value} {fs : List Fr} (h : FrS W v fs) : ∃ a cap, v = .slice a fs.length cap ∧ fs.length ≤ cap := by
  obtain ⟨a, cap, e, hc, _⟩ := h
  exact ⟨a, cap, e, hc⟩
theorem FrS.at {W : World} {a : Option Addr} {n0 cap : Nat} {fs : List Fr} (h : FrS W (.slice a n0 cap) fs) {k : Nat} (hk : k < fs.length) : ∃ b x n c, a = some ⟨b, 0, none⟩ ∧ b < W.heap.size ∧ W.cell? ⟨b, k * 5, none⟩ = some (.int .i64 (fs[k]).l) ∧ W.cell? ⟨b, k * 5 + 1, none⟩ = some (.int .i64 (fs[k]).s) ∧ W.cell? ⟨b, k * 5 + 2, none⟩ = some (.int .i64 (fs[k]).e) ∧ W.cell? ⟨b, k * 5 + 3, none⟩ = some (.int .i64 (fs[k]).t) ∧ W.cell? ⟨b, k * 5 + 4, none⟩ = some (.slice x n c) ∧ HiS W (.slice x n c) (fs[k]).hs := by
  obtain ⟨a', cap', e, hc, h1⟩ := h
  cases e
  obtain ⟨b, eb, h2⟩ := h1 (by omega)
  obtain ⟨x, n, c, d0, d1, d2, d3, d4, d5⟩ := h2 k hk
  exact ⟨b, x, n, c, eb, cell_lt d0, d0, d1, d2, d3, d4, d5⟩
theorem Fo.frS {B : Nat} {W : World} {v : Value} {l : FVs} (h : Fo B W v l) : FrS W v (l.map Prod.fst) := by
  obtain ⟨⟨hl, h1⟩, h2⟩ := h
  rcases h1 with ⟨rfl, h0⟩ | ⟨g, cap, f, rfl, hB, rf, hn, hm, hx⟩
  · have : l = [] := List.eq_nil_of_length_eq_zero h0
    subst this
    exact ⟨none, 0, rfl, Nat.le_refl _, fun h => by simp at h⟩
  · refine ⟨some ⟨g, 0, none⟩, cap, by simp, by simpa using hn, fun h0 => ⟨g, rfl, fun k hk => ?_⟩⟩
    have hk' : k < l.length := by simpa using hk
    have ex := fcs_get l k hk'
    have hc : ∀ o u, o < 5 → (fcs l)[k * 5 + o]? = some u → W.cell? ⟨g, k * 5 + o, none⟩ = some u := fun o u ho hu => by
      have hlt : k * 5 + o < l.length * 5 := by omega
      rw [rf.cell (i := k * 5 + o) (by omega), ← hx _ hlt, hu]
    have hh := h2 _ (List.getElem_mem hk')
    obtain ⟨x, n, e1, _⟩ := hh.hi.form
    rw [List.getElem_map]
    refine ⟨x, (l[k]).1.hs.length, n, hc 0 _ (by omega) ex.1, hc 1 _ (by omega) ex.2.1, hc 2 _ (by omega) ex.2.2.1, hc 3 _ (by omega) ex.2.2.2.1, ?_, ?_⟩
    · rw [← e1]; exact hc 4 _ (by omega) ex.2.2.2.2
    · rw [← e1]; exact hh.hi
theorem fr_info : (Try.prog.info? 38).map (fun i => (i.zero, i.size, i.bytes)) = some (some (.agg #[.int .i64 0, .int .i64 0, .int .i64 0, .int .i64 0, .slice none 0 0]), 5, 56) := by kernel_rfl
theorem fr_slice : Try.prog.underlying 54 = some (.slice 38) := by kernel_rfl
/-- A frame behind a row. -/
theorem append_frame {ops : Array Oper} {rest : List Oper} {o : Oper} {a : Act} {Q : Exit → Act → World → Prop} {W : World} (hgd : o.guard = none) (s y : Operand)
    (ho : o.op = .call { callee := .builtin .append, args := #[s, y], argTypes := #[54, 54] }) {B : Nat} {v : Value} {l : FVs}
    (hs : a.eval s = v) (h : Fo B W v l) (g : Nat) (f : Fr) (x : Option Addr) (n c : Nat) (hu : Ho B W (.slice x n c) f.hs) (hy : a.eval y = .slice (some ⟨g, 0, none⟩) 1 1)
    (c0 : W.cell? ⟨g, 0, none⟩ = some (.int .i64 f.l)) (c1 : W.cell? ⟨g, 1, none⟩ = some (.int .i64 f.s)) (c2 : W.cell? ⟨g, 2, none⟩ = some (.int .i64 f.e)) (c3 : W.cell? ⟨g, 3, none⟩ = some (.int .i64 f.t)) (c4 : W.cell? ⟨g, 4, none⟩ = some (.slice x n c))
    (hl : l.length ≤ 1000000000) (hB : B ≤ W.heap.size)
    (hK : ∀ v' w', Fo B w' v' (l ++ [(f, .slice x n c)]) → Below B W w' → wpList Try.prog ops Q rest (a.put o.dst v') w') :
    wpList Try.prog ops Q (o :: rest) a W := by
  refine wpList_append_rw hgd s y _ _ ho (.agg #[.int .i64 0, .int .i64 0, .int .i64 0, .int .i64 0, .slice none 0 0]) 56 fr_slice fr_info rfl (by decide) hs h.1 _ hy 1 (fc f (.slice x n c))
    (Src.ofSlice W fr_slice ⟨g, 0, none⟩ 1 1 _ rfl (fun j u hj => ?_) (fun u hu => ?_)) (by unfold maxLen; omega) (by omega) hB fun v' w' h1 h2 h3 => hK v' w' ⟨?_, ?_⟩ (grown_below h2 (fun g hg => (h.1.lt g hg).1) hB)
  · match j, hj with
    | 0, hj => simp [fc] at hj; subst hj; simpa [Addr.add] using c0
    | 1, hj => simp [fc] at hj; subst hj; simpa [Addr.add] using c1
    | 2, hj => simp [fc] at hj; subst hj; simpa [Addr.add] using c2
    | 3, hj => simp [fc] at hj; subst hj; simpa [Addr.add] using c3
    | 4, hj => simp [fc] at hj; subst hj; simpa [Addr.add] using c4
  · simp [fc] at hu
    rcases hu with rfl | rfl | rfl | rfl | rfl <;> rfl
  · have e : fcs l ++ fc f (.slice x n c) = fcs (l ++ [(f, .slice x n c)]) := by rw [← fcs_append]; simp [fcs]
    rw [← e, List.length_append]
    exact h1
  · have keep : ∀ (u : Value) (hs : Hits), Ho B W u hs → Ho B w' u hs := fun u hs hh => ⟨hh.1.same fun k hk => by
      obtain ⟨cc, fz, hkk⟩ := hh.1.kind k hk
      refine h2.block k (hh.1.lt k hk).2 fun hne => ?_
      obtain ⟨cc', fz', hkk'⟩ := h.1.kind k hne.symm
      rw [hkk] at hkk'
      injection hkk' with e1
      injection e1 with _ e2 _
      exact absurd e2 (by decide), hh.2⟩
    intro z hz
    rcases List.mem_append.1 hz with hz | hz
    · exact keep _ _ (h.2 z hz)
    · rw [List.mem_singleton.1 hz]; exact keep _ _ hu
end Go.Proofs.Ytanillahofohgaa
