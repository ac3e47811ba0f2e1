/- Layer 5: Send of the document's link. -/
import Derived.Deep.CutRange
import Derived.Deep.RegionLaw
import Derived.Test.YtanillahofohgaaReT
set_option linter.unusedVariables false
set_option linter.unusedSimpArgs false
set_option maxRecDepth 100000
namespace Go.Proofs.Ytanillahofohgaa
open Go.RowKit

theorem refSend_no (P P' : Nat → Prop) (room c : Int) (qv uv fv : Value) (q u : Strs) (w : World) (hq : StS P w qv q) (hu : ∃ a n k, uv = .slice a n k) (hf : ∃ a n k, fv = .slice a n k) (h : sndB c q = false) (hql : q.length ≤ 1000) :
    Calls Try.prog 35 #[.agg #[.int .i64 room, .int .i64 c, qv, uv], fv] w fun e w' => e = .returned (.tuple #[.agg #[.int .i64 room, .int .i64 c, qv, uv], .bool false]) ∧ Below w.heap.size w w' := by
  obtain ⟨qa, qc, rfl, _⟩ := hq.form
  obtain ⟨ua, un, uc, rfl⟩ := hu
  obtain ⟨fa, fn, fc, rfl⟩ := hf
  cases q with
  | nil =>
    have T := Lib.hid (two_new w room c (.slice qa ([] : Strs).length qc) (.slice ua un uc))
    clear hq h
    go_enter Try.func35, Try.ntmps35
    go_wp2_with fail
    obtain ⟨c0, c1, c2, c3⟩ := T.out.1.cells
    simp only [List.length_nil] at c2
    exact bodyPost_ret (v := .tuple #[.agg #[.int .i64 room, .int .i64 c, .slice qa 0 qc, .slice ua un uc], .bool false]) (by simp [results, Try.results35, go_sem, c0, c1, c2, c3]) rfl ⟨rfl, T.out.2⟩
  | cons x q =>
    have hc : c = 0 := by simpa [sndB] using h
    subst hc
    have hne : ((((x :: q).length : Nat) : Int) == 0) = false := by simp; omega
    obtain ⟨n, hn⟩ : ∃ n, n = (x :: q).length := ⟨_, rfl⟩
    rw [← hn] at hne hql ⊢
    have T := Lib.hid (two_new w room 0 (.slice qa n qc) (.slice ua un uc))
    clear hq h hn
    go_enter Try.func35, Try.ntmps35
    go_wp2_with fail
    obtain ⟨c0, c1, c2, c3⟩ := T.out.1.cells
    all_goals
      exact bodyPost_ret (v := .tuple #[.agg #[.int .i64 room, .int .i64 0, .slice qa n qc, .slice ua un uc], .bool false]) (by simp [results, Try.results35, go_sem, c0, c1, c2, c3]) rfl ⟨rfl, T.out.2⟩

/-- What lies in memory while the second row is put: the box and the result. -/
structure Sd (w W : World) (room c : Int) (qv uv : Value) : Prop where
  y : YAt W w.heap.size room c qv uv
  r : YAt W (w.heap.size + 1) 0 0 (.slice none 0 0) (.slice none 0 0)
  b : Below w.heap.size w W
  z : w.heap.size + 2 ≤ W.heap.size
theorem Sd.below {w W W' : World} {room c : Int} {qv uv : Value} (h : Sd w W room c qv uv) (k : Below W.heap.size W W') : Sd w W' room c qv uv :=
  ⟨h.y.below k, h.r.below k, Below.up h.b k, by have := k.size; have := h.z; omega⟩
theorem Sd.al {w W : World} {room c : Int} {qv uv : Value} (h : Sd w W room c qv uv) (o : Obj) : Sd w (W.alloc o) room c qv uv := h.below (Below.alloc (Below.refl _ _) (Nat.le_refl _) _)
theorem Sd.put {w W W' : World} {room c : Int} {qv uv v : Value} (h : Sd w W room c qv uv) (hg : W.grownBy W' v.ownBlock) (ho : ∀ g, v.ownBlock = some g → w.heap.size + 2 ≤ g) : Sd w W' room c qv uv := by
  have hz := h.z
  refine ⟨h.y.same (hg.block _ (by omega) fun e => ?_), h.r.same (hg.block _ (by omega) fun e => ?_), h.b.trans (grown_below hg (fun g e => by have := ho g e; omega) h.b.size), by have := hg.size; omega⟩
  · have := ho _ e.symm; omega
  · have := ho _ e.symm; omega
theorem Sd.done {w W : World} {room c : Int} {qv uv : Value} (h : Sd w W room c qv uv) (x3 x2 x1 : Value) (r' c' : Int) (q' u' : Value) :
    YAt (((((((W.setCell ⟨w.heap.size, 3, none⟩ x3).setCell ⟨w.heap.size, 2, none⟩ x2).setCell ⟨w.heap.size, 1, none⟩ x1).setCell ⟨w.heap.size + 1, 0, none⟩ (.int .i64 r')).setCell ⟨w.heap.size + 1, 1, none⟩ (.int .i64 c')).setCell ⟨w.heap.size + 1, 2, none⟩ q').setCell ⟨w.heap.size + 1, 3, none⟩ u') (w.heap.size + 1) r' c' q' u' ∧
    Below w.heap.size w (((((((W.setCell ⟨w.heap.size, 3, none⟩ x3).setCell ⟨w.heap.size, 2, none⟩ x2).setCell ⟨w.heap.size, 1, none⟩ x1).setCell ⟨w.heap.size + 1, 0, none⟩ (.int .i64 r')).setCell ⟨w.heap.size + 1, 1, none⟩ (.int .i64 c')).setCell ⟨w.heap.size + 1, 2, none⟩ q').setCell ⟨w.heap.size + 1, 3, none⟩ u') ∧
    (∀ g, g ≠ w.heap.size → g ≠ w.heap.size + 1 → (((((((W.setCell ⟨w.heap.size, 3, none⟩ x3).setCell ⟨w.heap.size, 2, none⟩ x2).setCell ⟨w.heap.size, 1, none⟩ x1).setCell ⟨w.heap.size + 1, 0, none⟩ (.int .i64 r')).setCell ⟨w.heap.size + 1, 1, none⟩ (.int .i64 c')).setCell ⟨w.heap.size + 1, 2, none⟩ q').setCell ⟨w.heap.size + 1, 3, none⟩ u').heap[g]? = W.heap[g]?) := by
  have o : ∀ (W : World) (k : Nat) (x : Value) (g : Nat), g ≠ w.heap.size → (W.setCell ⟨w.heap.size, k, none⟩ x).heap[g]? = W.heap[g]? := fun W k x g hg => Below.heap_setCell _ _ _ _ hg
  have o1 : ∀ (W : World) (k : Nat) (x : Value) (g : Nat), g ≠ w.heap.size + 1 → (W.setCell ⟨w.heap.size + 1, k, none⟩ x).heap[g]? = W.heap[g]? := fun W k x g hg => Below.heap_setCell _ _ _ _ hg
  have n1 : w.heap.size + 1 ≠ w.heap.size := by omega
  have l1 : w.heap.size ≤ w.heap.size + 1 := by omega
  refine ⟨YAt.set4 (h.r.same ((o _ _ _ _ n1).trans ((o _ _ _ _ n1).trans (o _ _ _ _ n1)))) r' c' q' u', ?_, fun g h1 h2 => ?_⟩
  · exact ((((((h.b.setCell (p := ⟨w.heap.size, 3, none⟩) (Nat.le_refl _) x3).setCell (p := ⟨w.heap.size, 2, none⟩) (Nat.le_refl _) x2).setCell (p := ⟨w.heap.size, 1, none⟩) (Nat.le_refl _) x1).setCell (p := ⟨w.heap.size + 1, 0, none⟩) l1 _).setCell (p := ⟨w.heap.size + 1, 1, none⟩) l1 _).setCell (p := ⟨w.heap.size + 1, 2, none⟩) l1 _).setCell (p := ⟨w.heap.size + 1, 3, none⟩) l1 _
  · rw [o1 _ _ _ _ h2, o1 _ _ _ _ h2, o1 _ _ _ _ h2, o1 _ _ _ _ h2, o _ _ _ _ h1, o _ _ _ _ h1, o _ _ _ _ h1]
/-- A row of the call's own. -/
structure Ro (w W : World) (v : Value) (l : Strs) : Prop where
  s : So w.heap.size W v l
  o : ∀ g, v.ownBlock = some g → w.heap.size + 2 ≤ g
theorem Ro.below {w W W' : World} {v : Value} {l : Strs} (h : Ro w W v l) (k : Below W.heap.size W W') : Ro w W' v l := ⟨h.s.below k, h.o⟩
theorem Ro.al {w W : World} {v : Value} {l : Strs} (h : Ro w W v l) (o : Obj) : Ro w (W.alloc o) v l := h.below (Below.alloc (Below.refl _ _) (Nat.le_refl _) _)
theorem Ro.new {w W : World} {room c : Int} {qv uv : Value} (h : Sd w W room c qv uv) : Ro w (W.alloc (.cells #[] 9)) (.slice (some ⟨W.heap.size, 0, none⟩) 0 0) [] :=
  ⟨So.empty W w.heap.size h.b.size, fun g hg => by cases hg; exact h.z⟩
theorem Ro.put {w W W' : World} {v v' : Value} {l l' : Strs} {room c : Int} {qv uv : Value} (d : Sd w W room c qv uv) (h : Ro w W v l) (hs : So w.heap.size W' v' l') (hv : v'.ownBlock = v.ownBlock ∨ ∃ g, v'.ownBlock = some g ∧ W.heap.size ≤ g) : Ro w W' v' l' :=
  ⟨hs, fun g e => by
    have := d.z
    rcases hv with a | ⟨g', a, b⟩
    · exact h.o g (by rw [← a, e])
    · rw [e] at a; cases a; omega⟩
theorem step_append_strs {ops : Array Oper} {o : Oper} {a : Act} {K : Act → World → Prop} {Q : Exit → Act → World → Prop} {E : Prop} {W : World} (hgd : o.guard = none) (s y : Operand)
    (ho : o.op = .call { callee := .builtin .append, args := #[s, y], argTypes := #[63, 63] }) {B : Nat} {v : Value} {l : Strs}
    (hs : a.eval s = v) (h : So B W v l) (x : Value) (hy : a.eval y = x) (m : Strs) (hsrc : Src Try.prog 1 63 x m.length (stC m) W) (hl : l.length + m.length ≤ 1000000000) (hB : B ≤ W.heap.size)
    (hK : ∀ v' w', So B w' v' (l ++ m) → W.grownBy w' v.ownBlock → (v'.ownBlock = v.ownBlock ∨ ∃ g, v'.ownBlock = some g ∧ W.heap.size ≤ g) → K (a.put o.dst v') w') :
    if Region.wanted o (yielded ops a.tmps) = true then Oper.wp Try.prog o a W K Q else E := by
  refine step_append_rw hgd s y _ _ ho (.string ⟨#[]⟩) 16 st_slice st_info rfl (by decide) hs h _ hy m.length (stC m) hsrc (by unfold maxLen; omega) (by omega) hB fun v' w' h1 h2 h3 => hK v' w' ?_ h2 h3
  unfold So
  rw [← stC_append, List.length_append]
  exact h1
theorem one_src {W : World} {g : Nat} {x : List UInt8} (h : W.cell? ⟨g, 0, none⟩ = some (.string (str x))) : Src Try.prog 1 63 (.slice (some ⟨g, 0, none⟩) 1 1) ([x] : Strs).length (stC [x]) W := by
  refine Src.ofSlice W st_slice ⟨g, 0, none⟩ 1 1 _ rfl (fun j u hj => ?_) (fun u hu => by simp [stC] at hu; subst hu; rfl)
  match j, hj with
  | 0, hj => simp [stC] at hj; subst hj; simpa [Addr.add] using h
def SdPost (P : Nat → Prop) (w : World) (room c : Int) (q u : Strs) (e : Ending) (w' : World) : Prop := ∃ q2 u2, e = .returned (.tuple #[.agg #[.int .i64 room, .int .i64 (c - 1), q2, u2], .bool true]) ∧ StS P w' q2 q ∧ StS (fun b => w.heap.size ≤ b) w' u2 u ∧ Below w.heap.size w w'
end Go.Proofs.Ytanillahofohgaa
