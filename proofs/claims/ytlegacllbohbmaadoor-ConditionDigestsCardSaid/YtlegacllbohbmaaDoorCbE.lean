/- Layer 4: spans: the place of a time, the list at a time, a copy of a list. -/
import Derived.Test.YtlegacllbohbmaaDoorCbD
set_option linter.unusedVariables false
set_option linter.unusedSimpArgs false
namespace Go.Proofs.YtlegacllbohbmaaDoor
open Go.RowKit Go.Shelf

def tmF (sp : List (Int × Ents)) (k : Nat) : Int := ((sp[k]?).map (·.1)).getD 0
theorem tmF_at (sp : List (Int × Ents)) (k : Nat) (h : k < sp.length) : tmF sp k = sp[k].1 := by unfold tmF; rw [List.getElem?_eq_getElem h]; rfl
theorem tmF_sorted {sp : List (Int × Ents)} (h : sp.Pairwise (fun x y => x.1 < y.1)) (a b : Nat) (hab : a < b) (hb : b < sp.length) : tmF sp a < tmF sp b := by
  rw [tmF_at sp a (by omega), tmF_at sp b hb]
  exact List.pairwise_iff_getElem.1 h a b (by omega) hb hab
theorem EntS.form {W : World} {v : Value} {l : Ents} (h : EntS W v l) : ∃ a n c, v = .slice a n c := by
  obtain ⟨a, cap, rfl, _⟩ := h
  exact ⟨a, _, cap, rfl⟩
theorem SpanS.tm {B : Nat} {W : World} {v : Value} {sp : List (Int × Ents)} (h : SpanS B W v sp) : TmS W v sp.length (tmF sp) := by
  obtain ⟨ls, hl, hr, ⟨hb, hs, _⟩, he⟩ := h
  rcases hr.2 with ⟨rfl, h0⟩ | ⟨g, cap, f, rfl, hB, hf, hc, hm, hx⟩
  · refine ⟨none, 0, by rw [h0], fun k hk => by omega, fun hn => by omega⟩
  · refine ⟨_, cap, rfl, fun k hk => by rw [tmF_at sp k hk]; exact hb _ (List.getElem_mem _), fun hn => ⟨g, rfl, fun k hk => ?_⟩⟩
    have hk' : k < ls.length := by omega
    obtain ⟨e1, e2⟩ := spC_get sp ls k hk hk'
    have m : sp.length * 2 ≤ cap * 2 := Nat.mul_le_mul_right _ hc
    have x1 := hx (2 * k) (by omega)
    have x2 := hx (2 * k + 1) (by omega)
    rw [e1] at x1
    rw [e2] at x2
    have c1 := hf.cell (i := 2 * k) (by omega)
    have c2 := hf.cell (i := 2 * k + 1) (by omega)
    rw [← Option.some.inj x1, Nat.mul_comm] at c1
    rw [← Option.some.inj x2, Nat.mul_comm] at c2
    obtain ⟨a', n', c', e⟩ := (he k hk hk').form
    exact ⟨by rw [tmF_at sp k hk]; exact c1, a', n', c', by rw [← e]; exact c2⟩

theorem place_any (vb : Nat) (v : Value) (sp : List (Int × Ents)) (T : Int) (w : World) (hc : w.cell? ⟨vb, 1, none⟩ = some v) (ht : TmS w v sp.length (tmF sp)) (hs : sp.Pairwise (fun x y => x.1 < y.1)) (hn : sp.length ≤ 64) :
    Calls Tryd.prog 46 #[.pointer (some ⟨vb, 0, none⟩), .int .i64 T] w fun e w' =>
      (∃ i, Plc (tmF sp) sp.length T i ∧ e = .returned (.tuple #[.int .i64 i, .bool (hitB (tmF sp) sp.length T i)])) ∧ Below w.heap.size w w' := by
  have HS := Lib.hid (search_any v sp.length (tmF sp) T w ht (fun a b => tmF_sorted hs a b) (by omega))
  clear ht
  go_enter Tryd.func46, Tryd.ntmps46
  go_wp2_with fail
  refine HS.out.mono ?_
  rintro e w' ⟨⟨i, hp, rfl⟩, hB⟩
  have HP := Lib.hid hp
  have HB := Lib.hid hB
  clear hp hB
  go_wp2_with fail
  go_ret2
  exact ⟨⟨i, HP.out, rfl⟩, HB.out⟩

/-- The list at a time. -/
def atL (sp : List (Int × Ents)) (T : Int) : Option Ents := ((sp.filter fun x => decide (x.1 ≤ T)).getLast?).map (·.2)
theorem ent_info : (Tryd.prog.info? 36).map (fun i => (i.zero, i.size, i.bytes)) = some (some (.agg #[.int .i64 0, .int .i64 0]), 2, 16) := by kernel_rfl
theorem ent_slice : Tryd.prog.underlying 37 = some (.slice 36) := by kernel_rfl
/-- The cells of entries. -/
def enC (l : Ents) : List Value := l.flatMap fun x => [.int .i64 x.1, .int .i64 x.2]
theorem enC_len (l : Ents) : (enC l).length = l.length * 2 := by
  induction l with
  | nil => rfl
  | cons x l ih => simp only [enC, List.flatMap_cons, List.length_append, List.length_cons, List.length_nil] at ih ⊢; omega
theorem enC_get : ∀ (l : Ents) (i : Nat) (h : i < l.length), (enC l)[2 * i]? = some (.int .i64 (l[i]).1) ∧ (enC l)[2 * i + 1]? = some (.int .i64 (l[i]).2)
  | [], _, h => by simp at h
  | x :: l, 0, _ => by simp [enC]
  | x :: l, i + 1, h => by
    have := enC_get l i (by simpa using h)
    rw [show 2 * (i + 1) = 2 * i + 1 + 1 by omega, show 2 * i + 1 + 1 + 1 = (2 * i + 1) + 1 + 1 by omega]
    simpa [enC] using this
/-- Entries that lie anywhere. -/
def EnS (W : World) (v : Value) (l : Ents) : Prop :=
  ∃ a cap, v = .slice a l.length cap ∧ (∀ x ∈ l, (-9223372036854775808 ≤ x.1 ∧ x.1 ≤ 9223372036854775807) ∧ (-9223372036854775808 ≤ x.2 ∧ x.2 ≤ 9223372036854775807)) ∧
    (0 < l.length → ∃ b off, a = some ⟨b, off, none⟩ ∧ ∀ k (h : k < l.length), W.cell? ⟨b, off + 2 * k, none⟩ = some (.int .i64 (l[k]).1) ∧ W.cell? ⟨b, off + 2 * k + 1, none⟩ = some (.int .i64 (l[k]).2))
theorem EntS.en {W : World} {v : Value} {l : Ents} (h : EntS W v l) : EnS W v l := by
  obtain ⟨a, cap, rfl, hc, hb, hx⟩ := h
  exact ⟨a, cap, rfl, hb, fun h0 => by obtain ⟨b, off, rfl, _, h2⟩ := hx h0; exact ⟨b, off, rfl, h2⟩⟩
theorem EnS.below {W W' : World} {v : Value} {l : Ents} (h : EnS W v l) (k : Below W.heap.size W W') : EnS W' v l := by
  obtain ⟨a, cap, rfl, hb, hx⟩ := h
  refine ⟨a, cap, rfl, hb, fun h0 => ?_⟩
  obtain ⟨b, off, rfl, h2⟩ := hx h0
  exact ⟨b, off, rfl, fun j hj => ⟨bc k (h2 j hj).1, bc k (h2 j hj).2⟩⟩
theorem EnS.src {W : World} {v : Value} {l : Ents} (h : EnS W v l) : Src Tryd.prog 2 37 v l.length (enC l) W := by
  obtain ⟨a, cap, rfl, hb, hx⟩ := h
  by_cases h0 : 0 < l.length
  · obtain ⟨b, off, rfl, h2⟩ := hx h0
    refine Src.ofSlice W ent_slice _ _ _ _ (enC_len l) ?_ ?_
    · intro j u hj
      have hjl : j < l.length * 2 := by rw [← enC_len]; exact (List.getElem?_eq_some_iff.1 hj).1
      have ha : (⟨b, off, none⟩ : Addr).add j = ⟨b, off + j, none⟩ := by unfold Addr.add; split <;> simp_all
      rw [ha]
      rcases Nat.mod_two_eq_zero_or_one j with e | e
      · obtain ⟨k, rfl⟩ : ∃ k, j = 2 * k := ⟨j / 2, by omega⟩
        have := (enC_get l k (by omega)).1
        rw [this] at hj
        rw [← Option.some.inj hj]
        exact (h2 k (by omega)).1
      · obtain ⟨k, rfl⟩ : ∃ k, j = 2 * k + 1 := ⟨j / 2, by omega⟩
        have := (enC_get l k (by omega)).2
        rw [this] at hj
        rw [← Option.some.inj hj, ← Nat.add_assoc]
        exact (h2 k (by omega)).2
    · intro u hu
      simp only [enC, List.mem_flatMap] at hu
      obtain ⟨x, _, hu⟩ := hu
      simp at hu
      rcases hu with rfl | rfl <;> rfl
  · have e : l = [] := List.eq_nil_of_length_eq_zero (by omega)
    subst e
    cases a with
    | none => exact Src.ofNil W ent_slice cap
    | some ad => exact Src.ofSlice W ent_slice ad 0 cap [] rfl (fun j u h => by simp at h) (fun u h => by cases h)
theorem Rw.ents {B n : Nat} {W : World} {v : Value} {l : Ents} (h : Rw 36 2 B W v n (enC l)) (hb : ∀ x ∈ l, (-9223372036854775808 ≤ x.1 ∧ x.1 ≤ 9223372036854775807) ∧ (-9223372036854775808 ≤ x.2 ∧ x.2 ≤ 9223372036854775807)) : EntS W v l := by
  have hn : n = l.length := by have := h.1; rw [enC_len] at this; omega
  subst hn
  rcases h.2 with ⟨rfl, h0⟩ | ⟨g, cap, f, rfl, hB, hf, hc, hm, hx⟩
  · exact ⟨none, 0, by rw [h0], by omega, hb, fun h1 => by omega⟩
  · refine ⟨_, cap, rfl, hc, hb, fun h0 => ⟨g, 0, rfl, hf.kind, fun k hk => ?_⟩⟩
    obtain ⟨e1, e2⟩ := enC_get l k hk
    have m : l.length * 2 ≤ cap * 2 := Nat.mul_le_mul_right _ hc
    have x1 := hx (2 * k) (by omega)
    have x2 := hx (2 * k + 1) (by omega)
    rw [e1] at x1
    rw [e2] at x2
    rw [Nat.zero_add, hf.cell (by omega), hf.cell (by omega), ← Option.some.inj x1, ← Option.some.inj x2]
    exact ⟨rfl, rfl⟩

theorem copyOf_any (v : Value) (l : Ents) (w : World) (h : EnS w v l) (hl : l.length ≤ 1000000) :
    Calls Tryd.prog 26 #[v] w fun e w' => ∃ v', e = .returned v' ∧ EntS w' v' l ∧ Below w.heap.size w w' ∧ (∀ b, v'.ownBlock = some b → w.heap.size ≤ b) := by
  obtain ⟨_, _, _, hb, _⟩ := id h
  have H := Lib.hid h
  have HB := Lib.hid hb
  clear h hb
  go_enter Tryd.func26, Tryd.ntmps26
  go_wp2_with (at_builtin; refine wpList_append_rw (B := w.heap.size) rfl _ _ _ _ rfl (.agg #[.int .i64 0, .int .i64 0]) 16 ent_slice ent_info rfl (by decide) rfl (Rw_nil _ _ _ _) v rfl l.length (enC l) H.out.src (by unfold maxLen; omega) (by omega) (Nat.le_refl _) ?_)
  intro v' w' h1 h2 h3
  have H1 := Lib.hid h1
  have H2 := Lib.hid h2
  clear h1 h2 h3
  go_wp2
  go_ret
  exact ⟨v', rfl, Rw.ents H1.out HB.out, grown_below H2.out (fun g hg => by simp [Value.ownBlock] at hg) (Nat.le_refl _), fun b hb => (Rw.lt H1.out b hb).1⟩
end Go.Proofs.YtlegacllbohbmaaDoor
