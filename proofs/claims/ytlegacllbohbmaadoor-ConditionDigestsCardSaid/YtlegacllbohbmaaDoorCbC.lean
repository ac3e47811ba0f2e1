/- Layer 4: a new book; a book's versions found. -/
import Derived.LaidEqlPtr
import Derived.Test.YtlegacllbohbmaaDoorCbB
set_option linter.unusedVariables false
set_option linter.unusedSimpArgs false
namespace Go.Proofs.YtlegacllbohbmaaDoor
open Go.RowKit Go.Shelf
attribute [local go_sem] Oper.semAt_some

def cB (h : Nat) : Array Value := #[Value.pointer (some { block := h + 1, off := 0 }), Value.map (some h), Value.int IntKind.i64 0, Value.int IntKind.i64 0, Value.int IntKind.i64 0, Value.int IntKind.i64 0, Value.int IntKind.i64 0, Value.int IntKind.i64 0, Value.int IntKind.i64 0, Value.slice none 0 0, Value.slice none 0 0, Value.int IntKind.u64 0]
def Bk0 : Bk := ⟨[], fun _ => 0, [], [], 0⟩
theorem New_any (w : World) : Calls Tryd.prog 9 #[] w fun e w' => ∃ bb, e = .returned (.pointer (some ⟨bb, 0, none⟩)) ∧ BookAt w.heap.size w' bb Bk0 ∧ Below w.heap.size w w' := by
  have hmm := @run_makeMap Tryd.prog
  go_enter Tryd.func9, Tryd.ntmps9
  go_wp2_with fail
  go_ret
  refine ⟨_, rfl, ?_, ((Below.refl _ _).alloc (Nat.le_refl _) _).alloc (by simp) _⟩
  have hs : (w.alloc (.map #[] 0)).heap.size = w.heap.size + 1 := by simp
  have hR := RF_new (w.alloc (.map #[] 0)) (cB w.heap.size) 53 12 (fun i => ((cB w.heap.size)[i]?).getD default) rfl (fun i hi => by rw [Array.getElem?_eq_getElem (by exact hi)]; rfl)
  rw [hs] at hR
  refine ⟨w.heap.size, 0, #[], [], [], .slice none 0 0, .slice none 0 0, _, ⟨by omega, hR, rfl, rfl, fun k hk => ?_, rfl, rfl, rfl, by decide, Nat.le_refl _, ?_, ⟨rfl, rfl⟩, List.nodup_nil, rfl, fun i h => absurd h (by simp [Bk0]), fun i j h => absurd h (by simp), Rw_nil _ _ _ _, by decide, Rw_nil _ _ _ _⟩⟩
  · match k, hk with
    | 0, _ => exact ⟨rfl, by decide, by decide⟩
    | 1, _ => exact ⟨rfl, by decide, by decide⟩
    | 2, _ => exact ⟨rfl, by decide, by decide⟩
    | 3, _ => exact ⟨rfl, by decide, by decide⟩
    | 4, _ => exact ⟨rfl, by decide, by decide⟩
    | 5, _ => exact ⟨rfl, by decide, by decide⟩
    | 6, _ => exact ⟨rfl, by decide, by decide⟩
  · exact (Below.heap_alloc _ _ _ (by simp)).trans (_root_.Go.heap_alloc_new w _)

set_option maxRecDepth 20000 in
theorem isMade_nil (w : World) : Calls Tryd.prog 18 #[.pointer none] w fun e w' => e = .returned (.bool false) ∧ w = w' := by
  go_enter Tryd.func18, Tryd.ntmps18
  go_wp2_with fail
  go_ret
  exact ⟨rfl, rfl⟩
theorem book_same (a : Addr) (W : World) : (binOp .eql 29 (.pointer (some a)) (.pointer (some a))).run Tryd.prog W = .ok (.bool true) W := by
  obtain ⟨i, hi⟩ := Option.isSome_iff_exists.1 (show (Tryd.prog.info? 53).isSome = true by kernel_rfl)
  exact run_eql_ptr_same W a (by kernel_rfl) hi
theorem book_none (a : Addr) (W : World) : (binOp .eql 29 (.pointer none) (.pointer (some a))).run Tryd.prog W = .ok (.bool false) W := by
  have h : Tryd.prog.underlying 29 = some (.pointer 53) := by kernel_rfl
  have h1 : ∀ d : Nat, (Op.equalIn (d + 1) 29 (.pointer none) (.pointer (some a))).run Tryd.prog W = .ok false W := fun d => by
    simp [Op.equalIn, run_underlying h]
  simp only [binOp]
  simp [Op.equal, Op.maxDepth, h1 9999]
set_option maxRecDepth 20000 in
theorem isMade_yes (bb : Nat) (w : World) (h : w.cell? ⟨bb, 0, none⟩ = some (.pointer (some ⟨bb, 0, none⟩))) : Calls Tryd.prog 18 #[.pointer (some ⟨bb, 0, none⟩)] w fun e w' => e = .returned (.bool true) ∧ w = w' := by
  have he := book_same ⟨bb, 0, none⟩
  go_enter Tryd.func18, Tryd.ntmps18
  go_wp2_with fail
  go_ret
  exact ⟨rfl, rfl⟩
set_option maxRecDepth 20000 in
theorem isMade_no (bb : Nat) (w : World) (h : w.cell? ⟨bb, 0, none⟩ = some (.pointer none)) : Calls Tryd.prog 18 #[.pointer (some ⟨bb, 0, none⟩)] w fun e w' => e = .returned (.bool false) ∧ w = w' := by
  have he := book_none ⟨bb, 0, none⟩
  go_enter Tryd.func18, Tryd.ntmps18
  go_wp2_with fail
  go_ret
  exact ⟨rfl, rfl⟩

theorem find_at (bb mb clk : Nat) (es : Array MapEntry) (vs : List ((Int × Int) × Vr)) (vbs : List Nat) (k n : Int) (w : World) (c0 : w.cell? ⟨bb, 0, none⟩ = some (.pointer (some ⟨bb, 0, none⟩))) (c1 : w.cell? ⟨bb, 1, none⟩ = some (.map (some mb)))
    (hb : w.heap[mb]? = some (.map es clk)) (hm : MapIs es vs vbs) :
    Calls Tryd.prog 43 #[.pointer (some ⟨bb, 0, none⟩), .int .i64 k, .int .i64 n] w fun e w' => e = .returned (verP vs vbs k n) ∧ w = w' := by
  have hl := look_run hb hm k n
  clear hb hm
  go_enter Tryd.func43, Tryd.ntmps43
  go_wp2_with fail
  refine (isMade_yes bb _ c0).mono ?_
  rintro e w' ⟨rfl, rfl⟩
  go_wp2_with fail
  go_ret
  exact ⟨rfl, rfl⟩
theorem find_nil (k n : Int) (w : World) :
    Calls Tryd.prog 43 #[.pointer none, .int .i64 k, .int .i64 n] w fun e w' => e = .returned (.pointer none) ∧ w = w' := by
  go_enter Tryd.func43, Tryd.ntmps43
  go_wp2_with fail
  refine (isMade_nil _).mono ?_
  rintro e w' ⟨rfl, rfl⟩
  go_wp2_with fail
  go_ret
  exact ⟨rfl, rfl⟩
theorem find_no (bb : Nat) (k n : Int) (w : World) (h : w.cell? ⟨bb, 0, none⟩ = some (.pointer none)) :
    Calls Tryd.prog 43 #[.pointer (some ⟨bb, 0, none⟩), .int .i64 k, .int .i64 n] w fun e w' => e = .returned (.pointer none) ∧ w = w' := by
  go_enter Tryd.func43, Tryd.ntmps43
  go_wp2_with fail
  refine (isMade_no bb _ h).mono ?_
  rintro e w' ⟨rfl, rfl⟩
  go_wp2_with fail
  go_ret
  exact ⟨rfl, rfl⟩

/-- What findOpen finds of a version: nothing, a closed one, an open one. -/
theorem findOpen_at (bb mb clk : Nat) (es : Array MapEntry) (vs : List ((Int × Int) × Vr)) (vbs : List Nat) (k n : Int) (j vb : Nat) (cl : Bool) (w : World) (c0 : w.cell? ⟨bb, 0, none⟩ = some (.pointer (some ⟨bb, 0, none⟩))) (c1 : w.cell? ⟨bb, 1, none⟩ = some (.map (some mb)))
    (hb : w.heap[mb]? = some (.map es clk)) (hm : MapIs es vs vbs) (hj : fnd vs k n = some j) (hv : vbs[j]? = some vb) (hc : w.cell? ⟨vb, 0, none⟩ = some (.bool cl)) :
    Calls Tryd.prog 24 #[.pointer (some ⟨bb, 0, none⟩), .int .i64 k, .int .i64 n] w fun e w' => e = .returned (.tuple #[.pointer (if cl then none else some ⟨vb, 0, none⟩), .int .i64 (if cl then 9 else 0)]) ∧ w = w' := by
  have HF := Lib.hid (find_at bb mb clk es vs vbs k n w c0 c1 hb hm)
  rw [show verP vs vbs k n = .pointer (some ⟨vb, 0, none⟩) from by unfold verP; rw [hj]; simp [hv]] at HF
  clear hb hm hj hv
  go_enter Tryd.func24, Tryd.ntmps24
  go_wp2_with fail
  refine HF.out.mono ?_
  rintro e w' ⟨rfl, rfl⟩
  cases cl
  all_goals
    go_wp2_with fail
    go_ret2
    exact ⟨rfl, rfl⟩
end Go.Proofs.YtlegacllbohbmaaDoor
