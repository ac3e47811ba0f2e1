/- Layer 5: the methods of the document's link. -/
import Derived.Test.YtanillahofohgaaReQ
set_option linter.unusedVariables false
set_option linter.unusedSimpArgs false
set_option maxRecDepth 100000
namespace Go.Proofs.Ytanillahofohgaa
open Go.RowKit

def lkV (room c : Int) (qv uv : Value) : Value := .agg #[.int .i64 room, .int .i64 c, qv, uv]
def lkF (room c : Int) (qv uv : Value) : Nat → Value := fun i => ((#[.int .i64 room, .int .i64 c, qv, uv] : Array Value)[i]?).getD default
/-- The document's link in a block. -/
def YAt (W : World) (b : Nat) (room c : Int) (qv uv : Value) : Prop := RF W b 65 4 (lkF room c qv uv)
theorem YAt.cells {W : World} {b : Nat} {room c : Int} {qv uv : Value} (h : YAt W b room c qv uv) : W.cell? ⟨b, 0, none⟩ = some (.int .i64 room) ∧ W.cell? ⟨b, 1, none⟩ = some (.int .i64 c) ∧ W.cell? ⟨b, 2, none⟩ = some qv ∧ W.cell? ⟨b, 3, none⟩ = some uv :=
  ⟨h.cell (i := 0) (by omega), h.cell (i := 1) (by omega), h.cell (i := 2) (by omega), h.cell (i := 3) (by omega)⟩
theorem YAt.frozens {W : World} {b : Nat} {room c : Int} {qv uv : Value} (h : YAt W b room c qv uv) : W.frozen? ⟨b, 0, none⟩ = false ∧ W.frozen? ⟨b, 1, none⟩ = false ∧ W.frozen? ⟨b, 2, none⟩ = false ∧ W.frozen? ⟨b, 3, none⟩ = false :=
  ⟨h.frozen (i := 0) (by omega), h.frozen (i := 1) (by omega), h.frozen (i := 2) (by omega), h.frozen (i := 3) (by omega)⟩
theorem YAt.fresh (W : World) (room c : Int) (qv uv : Value) : YAt (W.alloc (.cells #[.int .i64 room, .int .i64 c, qv, uv] 65)) W.heap.size room c qv uv :=
  RF_new W _ _ 4 _ rfl (fun i hi => by unfold lkF; rw [Array.getElem?_eq_getElem hi]; rfl)
theorem YAt.below {W W' : World} {b : Nat} {room c : Int} {qv uv : Value} (h : YAt W b room c qv uv) (k : Below W.heap.size W W') : YAt W' b room c qv uv := RF.below h k
theorem YAt.same {W W' : World} {b : Nat} {room c : Int} {qv uv : Value} (h : YAt W b room c qv uv) (k : W'.heap[b]? = W.heap[b]?) : YAt W' b room c qv uv := RF.of_block h k
theorem YAt.set4 {W : World} {b : Nat} {room c : Int} {qv uv : Value} (h : YAt W b room c qv uv) (r' c' : Int) (q' u' : Value) :
    YAt ((((W.setCell ⟨b, 0, none⟩ (.int .i64 r')).setCell ⟨b, 1, none⟩ (.int .i64 c')).setCell ⟨b, 2, none⟩ q').setCell ⟨b, 3, none⟩ u') b r' c' q' u' :=
  ((((RF.set h 0 (.int .i64 r')).set 1 (.int .i64 c')).set 2 q').set 3 u').congr fun i hi => by
    match i, hi with
    | 0, _ => rfl
    | 1, _ => rfl
    | 2, _ => rfl
    | 3, _ => rfl
theorem refNew_no (room cr : Int) (w : World) (h : newOk room cr = false) :
    Calls Try.prog 32 #[.int .i64 room, .int .i64 cr] w fun e w' => e = .returned (.tuple #[.agg #[.int .i64 0, .int .i64 0, .slice none 0 0, .slice none 0 0], .int .i64 2]) ∧ Below w.heap.size w w' := by
  have IW := Lib.hid refIn_any
  have Y0 := YAt.fresh w 0 0 (.slice none 0 0) (.slice none 0 0)
  obtain ⟨f0, f1, f2, f3⟩ := Y0.frozens
  obtain ⟨c0, c1, c2, c3⟩ := Y0.cells
  have B0 := Lib.hid ((Below.refl w.heap.size w).alloc (Nat.le_refl _) (.cells #[.int .i64 0, .int .i64 0, .slice none 0 0, .slice none 0 0] 65))
  clear Y0
  unfold newOk at h
  cases h1 : inB room 1 256 with
  | false =>
    clear h
    go_enter Try.func32, Try.ntmps32
    go_wp2_with (go_at_call 43; refine (IW.out _ _ _ _).mono ?_; rintro e w' ⟨rfl, rfl⟩; rw [h1])
    exact bodyPost_ret (v := .tuple #[.agg #[.int .i64 0, .int .i64 0, .slice none 0 0, .slice none 0 0], .int .i64 2]) (by simp [results, Try.results32, go_sem, c0, c1, c2, c3]) rfl ⟨rfl, B0.out⟩
  | true =>
    have h2 : inB cr 1 256 = false := by rw [h1] at h; simpa using h
    clear h
    go_enter Try.func32, Try.ntmps32
    go_wp2_with (go_at_call 43; refine (IW.out _ _ _ _).mono ?_; rintro e w' ⟨rfl, rfl⟩; first | rw [h1] | rw [h2])
    exact bodyPost_ret (v := .tuple #[.agg #[.int .i64 0, .int .i64 0, .slice none 0 0, .slice none 0 0], .int .i64 2]) (by simp [results, Try.results32, go_sem, c0, c1, c2, c3]) rfl ⟨rfl, B0.out⟩
theorem refNew_yes (room cr : Int) (w : World) (h : newOk room cr = true) :
    Calls Try.prog 32 #[.int .i64 room, .int .i64 cr] w fun e w' => e = .returned (.tuple #[.agg #[.int .i64 room, .int .i64 cr, .slice none 0 0, .slice none 0 0], .int .i64 0]) ∧ Below w.heap.size w w' := by
  have IW := Lib.hid refIn_any
  have Y0 := YAt.fresh w 0 0 (.slice none 0 0) (.slice none 0 0)
  obtain ⟨f0, f1, f2, f3⟩ := Y0.frozens
  have Y1 := Lib.hid (YAt.fresh w room cr (.slice none 0 0) (.slice none 0 0))
  have B0 := Lib.hid ((Below.refl w.heap.size w).alloc (Nat.le_refl _) (.cells #[.int .i64 room, .int .i64 cr, .slice none 0 0, .slice none 0 0] 65))
  clear Y0
  unfold newOk at h
  rw [Bool.and_eq_true] at h
  obtain ⟨h1, h2⟩ := h
  go_enter Try.func32, Try.ntmps32
  go_wp2_with (go_at_call 43; refine (IW.out _ _ _ _).mono ?_; rintro e w' ⟨rfl, rfl⟩; first | rw [h1] | rw [h2])
  obtain ⟨c0, c1, c2, c3⟩ := Y1.out.cells
  exact bodyPost_ret (v := .tuple #[.agg #[.int .i64 room, .int .i64 cr, .slice none 0 0, .slice none 0 0], .int .i64 0]) (by simp [results, Try.results32, go_sem, c0, c1, c2, c3]) rfl ⟨rfl, B0.out⟩
/-- Strings behind a row. -/
theorem append_strs {ops : Array Oper} {rest : List Oper} {o : Oper} {a : Act} {Q : Exit → Act → World → Prop} {W : World} (hgd : o.guard = none) (s y : Operand)
    (ho : o.op = .call { callee := .builtin .append, args := #[s, y], argTypes := #[63, 63] }) {B : Nat} {v : Value} {l : Strs}
    (hs : a.eval s = v) (h : So B W v l) (x : Value) (hy : a.eval y = x) (m : Strs) (hsrc : Src Try.prog 1 63 x m.length (stC m) W) (hl : l.length + m.length ≤ 1000000000) (hB : B ≤ W.heap.size)
    (hK : ∀ v' w', So B w' v' (l ++ m) → W.grownBy w' v.ownBlock → (v'.ownBlock = v.ownBlock ∨ ∃ g, v'.ownBlock = some g ∧ W.heap.size ≤ g) → wpList Try.prog ops Q rest (a.put o.dst v') w') :
    wpList Try.prog ops Q (o :: rest) a W := by
  refine wpList_append_rw hgd s y _ _ ho (.string ⟨#[]⟩) 16 st_slice st_info rfl (by decide) hs h _ hy m.length (stC m) hsrc (by unfold maxLen; omega) (by omega) hB fun v' w' h1 h2 h3 => hK v' w' ?_ h2 h3
  unfold So
  rw [← stC_append, List.length_append]
  exact h1
theorem So.empty (w : World) (B : Nat) (hB : B ≤ w.heap.size) : So B (w.alloc (.cells #[] 9)) (.slice (some ⟨w.heap.size, 0, none⟩) 0 0) [] := by
  refine ⟨rfl, .inr ⟨w.heap.size, 0, fun _ => default, rfl, hB, ⟨#[], (0, 0), _root_.Go.heap_alloc_new w _, rfl, fun j hj => by omega, fun i hi => by omega⟩, Nat.le_refl _, by decide, fun j hj => by simp at hj⟩⟩
/-- The first string of what has arrived. -/
theorem two_new (w : World) (room c : Int) (qv uv : Value) : YAt ((w.alloc (.cells #[.int .i64 room, .int .i64 c, qv, uv] 65)).alloc (.cells #[.int .i64 room, .int .i64 c, qv, uv] 65)) (w.heap.size + 1) room c qv uv ∧
    Below w.heap.size w ((w.alloc (.cells #[.int .i64 room, .int .i64 c, qv, uv] 65)).alloc (.cells #[.int .i64 room, .int .i64 c, qv, uv] 65)) := by
  have h := YAt.fresh (w.alloc (.cells #[.int .i64 room, .int .i64 c, qv, uv] 65)) room c qv uv
  rw [show (w.alloc (.cells #[.int .i64 room, .int .i64 c, qv, uv] 65)).heap.size = w.heap.size + 1 by simp] at h
  exact ⟨h, ((Below.refl w.heap.size w).alloc (Nat.le_refl _) _).alloc (by simp) _⟩
theorem two_facts (w : World) (room c : Int) (qv uv : Value) : (∀ o, o < 4 → (w.alloc (.cells #[.int .i64 room, .int .i64 c, qv, uv] 65)).frozen? ⟨w.heap.size, o, none⟩ = false) ∧ YAt (w.alloc (.cells #[.int .i64 room, .int .i64 c, qv, uv] 65)) w.heap.size room c qv uv :=
  ⟨fun o ho => (YAt.fresh w room c qv uv).frozen ho, YAt.fresh w room c qv uv⟩
theorem refTake_no (P : Nat → Prop) (room c : Int) (qv uv : Value) (w : World) (hq : ∃ a n k, qv = .slice a n k) (hu : StS P w uv []) :
    Calls Try.prog 37 #[.agg #[.int .i64 room, .int .i64 c, qv, uv]] w fun e w' => e = .returned (.tuple #[.agg #[.int .i64 room, .int .i64 c, qv, uv], .string ⟨#[]⟩, .bool false]) ∧ Below w.heap.size w w' := by
  obtain ⟨ua, uc, rfl, _⟩ := hu.form
  obtain ⟨qa, qn, qc, rfl⟩ := hq
  have T := Lib.hid (two_new w room c (.slice qa qn qc) (.slice ua ([] : Strs).length uc))
  clear hu
  go_enter Try.func37, Try.ntmps37
  go_wp2_with fail
  obtain ⟨c0, c1, c2, c3⟩ := T.out.1.cells
  simp only [List.length_nil] at c3
  exact bodyPost_ret (v := .tuple #[.agg #[.int .i64 room, .int .i64 c, .slice qa qn qc, .slice ua 0 uc], .string ⟨#[]⟩, .bool false]) (by simp [results, Try.results37, go_sem, c0, c1, c2, c3]) rfl ⟨rfl, T.out.2⟩
theorem StS.tail_ne {P : Nat → Prop} {W : World} {b off n cap : Nat} {x : List UInt8} {l : Strs} (h : StS P W (.slice (some ⟨b, off, none⟩) n cap) (x :: l)) : StS P W (.slice (some ⟨b, off + 1, none⟩) l.length (cap - 1)) l := by
  obtain ⟨a2, c2, e, hc, h1⟩ := h
  injection e with e1 e2 e3
  subst e1 e2 e3
  simp only [List.length_cons] at hc
  refine ⟨_, cap - 1, rfl, by omega, fun h0 => ?_⟩
  obtain ⟨b', off', eb, hp, h2⟩ := h1 (by simp)
  injection eb with eb
  injection eb with e4 e5 _
  subst e4 e5
  refine ⟨b, off + 1, rfl, hp, fun k hk => ?_⟩
  have := h2 (k + 1) (by simp; omega)
  rw [List.getElem_cons_succ] at this
  rw [show off + 1 + k = off + (k + 1) by omega]
  exact this
theorem StS.tail_one {P : Nat → Prop} {W : World} {a : Option Addr} {n : Nat} {x : List UInt8} {l : Strs} (h : StS P W (.slice a n 1) (x :: l)) : l = [] := by
  obtain ⟨a2, c2, e, hc, h1⟩ := h
  injection e with e1 e2 e3
  subst e3
  simp only [List.length_cons] at hc
  exact List.eq_nil_of_length_eq_zero (by omega)
def TkPost (P : Nat → Prop) (w : World) (room c : Int) (qv : Value) (x : List UInt8) (u : Strs) (e : Ending) (w' : World) : Prop := ∃ u2, e = .returned (.tuple #[.agg #[.int .i64 room, .int .i64 (c + 1), qv, u2], .string (str x), .bool true]) ∧ StS P w u2 u ∧ Below w.heap.size w w'
theorem refTake_yes (P : Nat → Prop) (room c : Int) (qv uv : Value) (x : List UInt8) (u : Strs) (w : World) (hq : ∃ a n k, qv = .slice a n k) (hu : StS P w uv (x :: u)) (hc : 0 ≤ c ∧ c ≤ 1000) (hul : u.length ≤ 1000) :
    Calls Try.prog 37 #[.agg #[.int .i64 room, .int .i64 c, qv, uv]] w (TkPost P w room c qv x u) := by
  obtain ⟨ua, uc, rfl, hlc⟩ := hu.form
  obtain ⟨qa, qn, qc, rfl⟩ := hq
  obtain ⟨b, off, rfl, _, hx⟩ := hu.head
  have hb : b < w.heap.size := cell_lt hx
  have HU := Lib.hid hu
  by_cases huc : uc = 1
  · subst huc
    have hn := hu.tail_one
    subst hn
    have T := Lib.hid (two_new w room (c + 1) (.slice qa qn qc) (.slice (some ⟨b, off, none⟩) 0 0))
    clear hu
    go_enter Try.func37, Try.ntmps37
    go_wp2_with fail
    obtain ⟨c0, c1, c2, c3⟩ := T.out.1.cells
    exact bodyPost_ret (v := .tuple #[.agg #[.int .i64 room, .int .i64 (c + 1), .slice qa qn qc, .slice (some ⟨b, off, none⟩) 0 0], .string (str x), .bool true]) (by simp [results, Try.results37, go_sem, c0, c1, c2, c3]) rfl ⟨_, rfl, ⟨_, 0, rfl, Nat.le_refl _, fun h => absurd h (by decide)⟩, T.out.2⟩
  · have T := Lib.hid (two_new w room (c + 1) (.slice qa qn qc) (.slice (some ⟨b, off + 1, none⟩) u.length (uc - 1)))
    have HT := Lib.hid hu.tail_ne
    simp only [List.length_cons] at hlc ⊢
    have hu1 : ¬ uc = 1 := huc
    clear hu huc
    go_enter Try.func37, Try.ntmps37
    go_wp2_with fail
    try any_goals (exfalso; omega)
    obtain ⟨c0, c1, c2, c3⟩ := T.out.1.cells
    exact bodyPost_ret (v := .tuple #[.agg #[.int .i64 room, .int .i64 (c + 1), .slice qa qn qc, .slice (some ⟨b, off + 1, none⟩) u.length (uc - 1)], .string (str x), .bool true]) (by simp [results, Try.results37, go_sem, c0, c1, c2, c3]) rfl ⟨_, rfl, HT.out, T.out.2⟩
end Go.Proofs.Ytanillahofohgaa
