/- Layer 5: lists of numbers and of hits in memory; the smallest functions. -/
import Derived.ChangeKeysEq
import Derived.Test.YtanillahofohgaaCaE
set_option linter.unusedVariables false
set_option linter.unusedSimpArgs false
namespace Go.Proofs.Ytanillahofohgaa
open Go.RowKit

theorem isWithin_any (n lo hi : Int) (w : World) : Calls Try.prog 41 #[.int .i64 n, .int .i64 lo, .int .i64 hi] w fun e w' => e = .returned (.bool (inB n lo hi)) ∧ w = w' := by
  by_cases h1 : lo ≤ n
  · by_cases h2 : n ≤ hi
    all_goals
      go_enter Try.func41, Try.ntmps41
      go_wp2
      go_ret
      exact ⟨ret_bool (by unfold inB; grind), rfl⟩
  · go_enter Try.func41, Try.ntmps41
    go_wp2
    go_ret
    exact ⟨ret_bool (by unfold inB; grind), rfl⟩
theorem refIn_any (n lo hi : Int) (w : World) : Calls Try.prog 43 #[.int .i64 n, .int .i64 lo, .int .i64 hi] w fun e w' => e = .returned (.bool (inB n lo hi)) ∧ w = w' := by
  by_cases h1 : lo ≤ n
  · by_cases h2 : n ≤ hi
    all_goals
      go_enter Try.func43, Try.ntmps43
      go_wp2
      go_ret
      exact ⟨ret_bool (by unfold inB; grind), rfl⟩
  · go_enter Try.func43, Try.ntmps43
    go_wp2
    go_ret
    exact ⟨ret_bool (by unfold inB; grind), rfl⟩

/-! ### Lists in memory -/
def I64 (x : Int) : Prop := -9223372036854775808 ≤ x ∧ x ≤ 9223372036854775807
/-- A list of numbers, anywhere. -/
def InS (W : World) (v : Value) (l : List Int) : Prop :=
  ∃ a cap, v = .slice a l.length cap ∧ l.length ≤ cap ∧ (∀ x ∈ l, I64 x) ∧
    (0 < l.length → ∃ b off, a = some ⟨b, off, none⟩ ∧ ∀ k (h : k < l.length), W.cell? ⟨b, off + k, none⟩ = some (.int .i64 l[k]))
theorem InS.below {W W' : World} {v : Value} {l : List Int} (h : InS W v l) (k : Below W.heap.size W W') : InS W' v l := by
  obtain ⟨a, cap, rfl, hc, hb, hx⟩ := h
  refine ⟨a, cap, rfl, hc, hb, fun h0 => ?_⟩
  obtain ⟨b, off, rfl, h2⟩ := hx h0
  exact ⟨b, off, rfl, fun j hj => bc k (h2 j hj)⟩
theorem InS.form {W : World} {v : Value} {l : List Int} (h : InS W v l) : ∃ a cap, v = .slice a l.length cap ∧ l.length ≤ cap := by
  obtain ⟨a, cap, rfl, hc, _⟩ := h
  exact ⟨a, cap, rfl, hc⟩
theorem InS.at {W : World} {a : Option Addr} {n cap : Nat} {l : List Int} (h : InS W (.slice a n cap) l) {k : Nat} (hk : k < l.length) :
    ∃ b off, a = some ⟨b, off, none⟩ ∧ b < W.heap.size ∧ I64 l[k] ∧ W.cell? ⟨b, off + k, none⟩ = some (.int .i64 l[k]) := by
  obtain ⟨a', cap', e, hc, hb, hx⟩ := h
  cases e
  obtain ⟨b, off, rfl, h2⟩ := hx (by omega)
  exact ⟨b, off, rfl, cell_lt (h2 k hk), hb _ (List.getElem_mem hk), h2 k hk⟩
theorem InS.nil (W : World) : InS W (.slice none 0 0) [] := ⟨none, 0, rfl, Nat.le_refl _, (fun x hx => by cases hx), fun h => absurd h (by decide)⟩

/-- A list of numbers that was just made. -/
theorem InS.fresh (w : World) (l : List Int) (c : Array Value) (t : TypeId) (n : Nat) (hn : n = l.length) (hc : c = (l.map fun x => Value.int .i64 x).toArray) (hb : ∀ x ∈ l, I64 x) : InS (w.alloc (.cells c t)) (.slice (some ⟨w.heap.size, 0, none⟩) n n) l := by
  subst hc hn
  refine ⟨_, l.length, rfl, Nat.le_refl _, hb, fun _ => ⟨w.heap.size, 0, rfl, fun k hk => ?_⟩⟩
  rw [Nat.zero_add]
  unfold World.cell?
  rw [show (w.alloc (.cells (l.map fun x => Value.int .i64 x).toArray t)).heap[w.heap.size]? = some (.cells (l.map fun x => Value.int .i64 x).toArray t) from _root_.Go.heap_alloc_new w _]
  simp [hk]

/-- Hits: addresses and measurements. -/
abbrev Hits := List (Int × Int)
/-- A list of hits, anywhere. -/
def HiS (W : World) (v : Value) (l : Hits) : Prop :=
  ∃ a cap, v = .slice a l.length cap ∧ l.length ≤ cap ∧ (∀ x ∈ l, I64 x.1 ∧ I64 x.2) ∧
    (0 < l.length → ∃ b off, a = some ⟨b, off, none⟩ ∧ ∀ k (h : k < l.length), W.cell? ⟨b, off + k * 2, none⟩ = some (.int .i64 (l[k]).1) ∧ W.cell? ⟨b, off + k * 2 + 1, none⟩ = some (.int .i64 (l[k]).2))
theorem HiS.below {W W' : World} {v : Value} {l : Hits} (h : HiS W v l) (k : Below W.heap.size W W') : HiS W' v l := by
  obtain ⟨a, cap, rfl, hc, hb, hx⟩ := h
  refine ⟨a, cap, rfl, hc, hb, fun h0 => ?_⟩
  obtain ⟨b, off, rfl, h2⟩ := hx h0
  exact ⟨b, off, rfl, fun j hj => ⟨bc k (h2 j hj).1, bc k (h2 j hj).2⟩⟩
theorem HiS.form {W : World} {v : Value} {l : Hits} (h : HiS W v l) : ∃ a cap, v = .slice a l.length cap ∧ l.length ≤ cap := by
  obtain ⟨a, cap, rfl, hc, _⟩ := h
  exact ⟨a, cap, rfl, hc⟩
theorem HiS.at {W : World} {a : Option Addr} {n cap : Nat} {l : Hits} (h : HiS W (.slice a n cap) l) {k : Nat} (hk : k < l.length) :
    ∃ b off, a = some ⟨b, off, none⟩ ∧ b < W.heap.size ∧ (I64 (l[k]).1 ∧ I64 (l[k]).2) ∧ W.cell? ⟨b, off + k * 2, none⟩ = some (.int .i64 (l[k]).1) ∧ W.cell? ⟨b, off + k * 2 + 1, none⟩ = some (.int .i64 (l[k]).2) := by
  obtain ⟨a', cap', e, hc, hb, hx⟩ := h
  cases e
  obtain ⟨b, off, rfl, h2⟩ := hx (by omega)
  exact ⟨b, off, rfl, cell_lt (h2 k hk).1, hb _ (List.getElem_mem hk), h2 k hk⟩
theorem HiS.nil (W : World) : HiS W (.slice none 0 0) [] := ⟨none, 0, rfl, Nat.le_refl _, (fun x hx => by cases hx), fun h => absurd h (by decide)⟩
/-- The cells of hits. -/
def hiC (l : Hits) : List Value := l.flatMap fun x => [.int .i64 x.1, .int .i64 x.2]
theorem hiC_len (l : Hits) : (hiC l).length = l.length * 2 := by
  induction l with
  | nil => rfl
  | cons x l ih => simp only [hiC, List.flatMap_cons, List.length_append, List.length_cons, List.length_nil] at ih ⊢; omega
theorem hiC_get : ∀ (l : Hits) (i : Nat) (h : i < l.length), (hiC l)[i * 2]? = some (.int .i64 (l[i]).1) ∧ (hiC l)[i * 2 + 1]? = some (.int .i64 (l[i]).2)
  | [], _, h => by simp at h
  | x :: l, 0, _ => by simp [hiC]
  | x :: l, i + 1, h => by
    have := hiC_get l i (by simpa using h)
    rw [show (i + 1) * 2 = i * 2 + 1 + 1 by omega, show i * 2 + 1 + 1 + 1 = (i * 2 + 1) + 1 + 1 by omega]
    simpa [hiC] using this
theorem hiC_append (l m : Hits) : hiC l ++ hiC m = hiC (l ++ m) := by simp [hiC]
/-- Hits of the call's own. -/
def Ho (B : Nat) (W : World) (v : Value) (l : Hits) : Prop := Rw 35 2 B W v l.length (hiC l) ∧ ∀ x ∈ l, I64 x.1 ∧ I64 x.2
theorem Ho.hi {B : Nat} {W : World} {v : Value} {l : Hits} (h : Ho B W v l) : HiS W v l := by
  obtain ⟨hr, hb⟩ := h
  rcases id hr.2 with ⟨rfl, h0⟩ | ⟨g, cap, f, rfl, hB, hf, hc, hm, hx⟩
  · exact ⟨none, 0, by rw [h0], by omega, hb, fun hn => by omega⟩
  · refine ⟨_, cap, rfl, hc, hb, fun hn => ⟨g, 0, rfl, fun k hk => ?_⟩⟩
    obtain ⟨e1, e2⟩ := hiC_get l k hk
    have m : l.length * 2 ≤ cap * 2 := Nat.mul_le_mul_right _ hc
    have x1 := hx (k * 2) (by omega)
    have x2 := hx (k * 2 + 1) (by omega)
    rw [e1] at x1
    rw [e2] at x2
    have c1 := hf.cell (i := k * 2) (by omega)
    have c2 := hf.cell (i := k * 2 + 1) (by omega)
    rw [← Option.some.inj x1] at c1
    rw [← Option.some.inj x2] at c2
    rw [Nat.zero_add]
    exact ⟨c1, c2⟩
theorem Ho.nil (B : Nat) (W : World) : Ho B W (.slice none 0 0) [] := ⟨Rw_nil _ _ _ _, (fun x hx => by cases hx)⟩
theorem Ho.below {B : Nat} {W W' : World} {v : Value} {l : Hits} (h : Ho B W v l) (k : Below W.heap.size W W') : Ho B W' v l := ⟨h.1.below k, h.2⟩
theorem Ho.mono {B B' : Nat} {W : World} {v : Value} {l : Hits} (h : Ho B W v l) (k : B' ≤ B) : Ho B' W v l := ⟨h.1.mono k, h.2⟩

/-! ### Are all numbers measurements? -/
def allM (l : List Int) : Bool := l.all fun x => inB x 0 4095
theorem allM_go (l : List Int) (k : Nat) (h : k < l.length) : allM (l.drop k) = (inB l[k] 0 4095 && allM (l.drop (k + 1))) := by
  unfold allM
  rw [List.drop_eq_getElem_cons h]; rfl
theorem allM_get {l : List Int} (h : allM l = true) {k : Nat} (hk : k < l.length) : 0 ≤ l[k] ∧ l[k] ≤ 4095 := inB_true.1 (List.all_eq_true.1 h _ (List.getElem_mem hk))

set_option maxRecDepth 20000 in
theorem areMeasured_any (v : Value) (l : List Int) (w : World) (h : InS w v l) (hl : l.length ≤ 1099511627776) :
    Calls Try.prog 40 #[v] w fun e w' => e = .returned (.bool (allM l)) ∧ w = w' := by
  have H := Lib.hid h
  obtain ⟨a, cap, rfl, hc⟩ := h.form
  have IW := Lib.hid isWithin_any
  clear h
  go_enter Try.func40, Try.ntmps40
  go_wp2_with fail
  go_loopw [4, 7] (fun u i wr => ∃ k : Nat, k ≤ l.length ∧ i = .int .i64 k ∧ Hid (allM l = allM (l.drop k)) ∧ wr = w) (fun _ i _ => l.length - (intOf i).toNat)
  case atStart => exact ⟨0, Nat.zero_le _, rfl, Lib.hid rfl, rfl⟩
  case round =>
    obtain ⟨k, hk, rfl, HE, rfl⟩ := hrel
    by_cases hlt : k < l.length
    · obtain ⟨b, off, rfl, hbl, hi, hcell⟩ := H.out.at hlt
      have HG := Lib.hid (allM_go l k hlt)
      generalize l[k] = x at *
      cases hx : inB x 0 4095 with
      | true =>
        rw [hx] at HG
        go_wp2_with (first | (go_at_call 41; refine (IW.out _ _ _ _).mono ?_; rintro e w' ⟨rfl, rfl⟩; rw [hx]))
        go_roundw
        case rel => exact ⟨k + 1, by omega, by go_num, Lib.hid (by rw [HE.out, HG.out, Bool.true_and]), trivial⟩
        case measure => simp [intOf]; omega
      | false =>
        rw [hx] at HG
        go_wp2_with (first | (go_at_call 41; refine (IW.out _ _ _ _).mono ?_; rintro e w' ⟨rfl, rfl⟩; rw [hx]))
        go_ret
        exact ⟨ret_bool (by rw [HE.out, HG.out, Bool.false_and]), rfl⟩
    · obtain rfl : k = l.length := by omega
      go_wp2_with fail
      go_ret
      exact ⟨ret_bool (by rw [HE.out]; simp [allM]), rfl⟩

set_option maxRecDepth 20000 in
theorem refAll_any (v : Value) (l : List Int) (w : World) (h : InS w v l) (hl : l.length ≤ 1099511627776) :
    Calls Try.prog 42 #[v] w fun e w' => e = .returned (.bool (allM l)) ∧ w = w' := by
  have H := Lib.hid h
  obtain ⟨a, cap, rfl, hc⟩ := h.form
  have IW := Lib.hid refIn_any
  clear h
  go_enter Try.func42, Try.ntmps42
  go_wp2_with fail
  go_loopw [3] (fun i wr => ∃ k : Nat, k ≤ l.length ∧ i = .int .i64 k ∧ Hid (allM l = allM (l.drop k)) ∧ wr = w) (fun i _ => l.length - (intOf i).toNat)
  case atStart => exact ⟨0, Nat.zero_le _, rfl, Lib.hid rfl, rfl⟩
  case round =>
    obtain ⟨k, hk, rfl, HE, rfl⟩ := hrel
    by_cases hlt : k < l.length
    · obtain ⟨b, off, rfl, hbl, hi, hcell⟩ := H.out.at hlt
      have HG := Lib.hid (allM_go l k hlt)
      generalize l[k] = x at *
      cases hx : inB x 0 4095 with
      | true =>
        rw [hx] at HG
        go_wp2_with (first | (go_at_call 43; refine (IW.out _ _ _ _).mono ?_; rintro e w' ⟨rfl, rfl⟩; rw [hx]))
        go_roundw
        case rel => exact ⟨k + 1, by omega, by go_num, Lib.hid (by rw [HE.out, HG.out, Bool.true_and]), trivial⟩
        case measure => simp [intOf]; omega
      | false =>
        rw [hx] at HG
        go_wp2_with (first | (go_at_call 43; refine (IW.out _ _ _ _).mono ?_; rintro e w' ⟨rfl, rfl⟩; rw [hx]))
        go_ret
        exact ⟨ret_bool (by rw [HE.out, HG.out, Bool.false_and]), rfl⟩
    · obtain rfl : k = l.length := by omega
      go_wp2_with fail
      go_ret
      exact ⟨ret_bool (by rw [HE.out]; simp [allM]), rfl⟩
end Go.Proofs.Ytanillahofohgaa
