/- Layer 3: a text of two lines, the second without its end, read. -/
import Derived.Test.YteoahbpfhfjfmaaGreatDoorDsH
set_option linter.unusedVariables false
set_option linter.unusedSimpArgs false
namespace Go.Proofs.YteoahbpfhfjfmaaGreatDoor
open Go.RowKit
attribute [local go_sem] Oper.semAt_some

/-- What a call of next leaves. -/
def Nx (w : World) (ps pm : Nat) (b : List UInt8) (f : Bool) (w' : World) : Prop :=
  w'.cell? ⟨ps, 0, none⟩ = some (.string ⟨b.toArray⟩) ∧ w'.cell? ⟨pm, 0, none⟩ = some (.bool f) ∧ w'.frozen? ⟨ps, 0, none⟩ = false ∧ w'.frozen? ⟨pm, 0, none⟩ = false ∧ w'.heap.size = w.heap.size ∧ (∀ k, k ≠ ps → k ≠ pm → w'.heap[k]? = w.heap[k]?) ∧ w'.os = w.os ∧ w'.tape = w.tape ∧ w'.output = w.output
theorem next_more' (pm ps : Nat) (s a b : List UInt8) (f : Bool) (w : World) (hm : ML w) (hs : s.length < 1000000) (he : Lib.cut s [32] = (a, b, f)) (c1 : w.cell? ⟨pm, 0, none⟩ = some (.bool true)) (c2 : w.cell? ⟨ps, 0, none⟩ = some (.string ⟨s.toArray⟩)) (f1 : w.frozen? ⟨pm, 0, none⟩ = false) (f2 : w.frozen? ⟨ps, 0, none⟩ = false) (hne : pm ≠ ps) :
    Calls Tryz.prog 106 #[.pointer (some ⟨pm, 0, none⟩), .pointer (some ⟨ps, 0, none⟩)] w fun e w' => e = .returned (.tuple #[.string ⟨a.toArray⟩, .bool true]) ∧ Nx w ps pm b f w' := by
  refine (next_more pm ps s a b f w hm hs he c1 c2 f1 f2 hne).mono fun e w' ⟨h1, n, h2⟩ => ⟨h1, ?_⟩
  subst h2
  have hne' : ps ≠ pm := Ne.symm hne
  refine ⟨?_, ?_, ?_, ?_, ?_, fun k k1 k2 => ?_, rfl, rfl, rfl⟩
  · show ((w.setCell ⟨ps, 0, none⟩ _).setCell ⟨pm, 0, none⟩ _).cell? ⟨ps, 0, none⟩ = _
    simp [go_sem, c1, c2, hne, hne']
  · show ((w.setCell ⟨ps, 0, none⟩ _).setCell ⟨pm, 0, none⟩ _).cell? ⟨pm, 0, none⟩ = _
    simp [go_sem, c1, c2, hne, hne']
  · show ((w.setCell ⟨ps, 0, none⟩ _).setCell ⟨pm, 0, none⟩ _).frozen? ⟨ps, 0, none⟩ = _
    rw [World.frozen?_setCell, World.frozen?_setCell]; exact f2
  · show ((w.setCell ⟨ps, 0, none⟩ _).setCell ⟨pm, 0, none⟩ _).frozen? ⟨pm, 0, none⟩ = _
    rw [World.frozen?_setCell, World.frozen?_setCell]; exact f1
  · show ((w.setCell ⟨ps, 0, none⟩ _).setCell ⟨pm, 0, none⟩ _).heap.size = _
    simp
  · exact (Below.heap_setCell _ _ _ _ k2).trans (Below.heap_setCell _ _ _ _ k1)

theorem cutA : Lib.cut LN0 [32] = ([100, 101, 116, 101, 99, 116, 111, 114], [97], true) := by decide
theorem cutB : Lib.cut [97] [32] = ([97], [], false) := by decide
theorem cutC : Lib.cut LN1 [32] = ([112, 108, 97, 110, 101], [48, 32, 49, 32, 49, 32, 49, 32, 49, 32, 49, 32, 48], true) := by decide

/-- What lies between two rounds. -/
def RdI (w : World) (nb pt : Int) (fm : Bool) (tx : List UInt8) (W : World) : Prop :=
  (W.cell? ⟨w.heap.size + 1, 0, none⟩ = some (.int .i64 nb) ∧ W.cell? ⟨w.heap.size + 1 + 1, 0, none⟩ = some (.int .i64 pt) ∧ W.cell? ⟨w.heap.size + 1 + 1 + 1, 0, none⟩ = some (.bool fm) ∧ W.cell? ⟨w.heap.size + 1 + 1 + 1 + 1, 0, none⟩ = some (.string ⟨tx.toArray⟩)) ∧
  (∃ v0 v1 v2 v3, W.cell? ⟨w.heap.size, 0, none⟩ = some v0 ∧ W.cell? ⟨w.heap.size, 1, none⟩ = some v1 ∧ W.cell? ⟨w.heap.size, 2, none⟩ = some v2 ∧ W.cell? ⟨w.heap.size, 3, none⟩ = some v3) ∧
  (W.frozen? ⟨w.heap.size + 1, 0, none⟩ = false ∧ W.frozen? ⟨w.heap.size + 1 + 1, 0, none⟩ = false ∧ W.frozen? ⟨w.heap.size + 1 + 1 + 1, 0, none⟩ = false ∧ W.frozen? ⟨w.heap.size + 1 + 1 + 1 + 1, 0, none⟩ = false) ∧
  (W.frozen? ⟨w.heap.size, 0, none⟩ = false ∧ W.frozen? ⟨w.heap.size, 1, none⟩ = false ∧ W.frozen? ⟨w.heap.size, 2, none⟩ = false ∧ W.frozen? ⟨w.heap.size, 3, none⟩ = false) ∧
  ML W ∧ Below w.heap.size w W
theorem RdI.stab (w : World) (nb pt : Int) (fm : Bool) (tx : List UInt8) (B : Nat) (hB : w.heap.size + 5 ≤ B) (hg : 1 < w.heap.size) : Stab B (RdI w nb pt fm tx) := by
  intro W W' ⟨⟨a1, a2, a3, a4⟩, ⟨v0, v1, v2, v3, b0, b1, b2, b3⟩, ⟨c1, c2, c3, c4⟩, ⟨d0, d1, d2, d3⟩, m, k⟩ h
  have cc : ∀ {b o : Nat} {v : Value}, b < w.heap.size + 5 → W.cell? ⟨b, o, none⟩ = some v → W'.cell? ⟨b, o, none⟩ = some v := fun {b o v} hb e => by rw [h.cell (p := ⟨b, o, none⟩) (by show b < B; omega)]; exact e
  have ff : ∀ {b o : Nat} {v : Bool}, b < w.heap.size + 5 → W.frozen? ⟨b, o, none⟩ = v → W'.frozen? ⟨b, o, none⟩ = v := fun {b o v} hb e => by rw [h.frozen (p := ⟨b, o, none⟩) (by show b < B; omega)]; exact e
  exact ⟨⟨cc (by omega) a1, cc (by omega) a2, cc (by omega) a3, cc (by omega) a4⟩, ⟨v0, v1, v2, v3, cc (by omega) b0, cc (by omega) b1, cc (by omega) b2, cc (by omega) b3⟩,
    ⟨ff (by omega) c1, ff (by omega) c2, ff (by omega) c3, ff (by omega) c4⟩, ⟨ff (by omega) d0, ff (by omega) d1, ff (by omega) d2, ff (by omega) d3⟩, m.heap (h.block _ (by omega)), k.trans (h.mono (by omega))⟩

theorem RdI.set {w W : World} {nb pt : Int} {fm : Bool} {tx ty : List UInt8} (h : RdI w nb pt fm tx W) (hg : 1 < w.heap.size) : RdI w nb pt fm ty (W.setCell ⟨w.heap.size + 1 + 1 + 1 + 1, 0, none⟩ (.string ⟨ty.toArray⟩)) := by
  obtain ⟨⟨a1, a2, a3, a4⟩, ⟨v0, v1, v2, v3, b0, b1, b2, b3⟩, ⟨c1, c2, c3, c4⟩, ⟨d0, d1, d2, d3⟩, m, k⟩ := h
  refine ⟨⟨?_, ?_, ?_, ?_⟩, ⟨v0, v1, v2, v3, ?_, ?_, ?_, ?_⟩, ⟨?_, ?_, ?_, ?_⟩, ⟨?_, ?_, ?_, ?_⟩, ?_, k.setCell (p := ⟨w.heap.size + 1 + 1 + 1 + 1, 0, none⟩) (by show w.heap.size ≤ w.heap.size + 1 + 1 + 1 + 1; omega) _⟩
  all_goals first
    | (rw [World.frozen?_setCell]; assumption)
    | (simp [go_sem, a1, a2, a3, a4, b0, b1, b2, b3]; done)
    | skip
  exact m.heap (Below.heap_setCell _ _ _ _ (by show _ ≠ w.heap.size + 1 + 1 + 1 + 1; omega))
theorem rdI_new (w : World) (hm : ML w) : RdI w 0 0 false TXT (((((w.alloc (.cells #[.string ⟨#[]⟩, .slice none 0 0, .slice none 0 0, .slice none 0 0] 26)).alloc (.cells #[.int .i64 0] 3)).alloc (.cells #[.int .i64 0] 3)).alloc (.cells #[.bool false] 4)).alloc (.cells #[.string ⟨TXT.toArray⟩] 9)) := by
  refine ⟨⟨by simp [go_sem], by simp [go_sem], by simp [go_sem], by simp [go_sem]⟩, ⟨_, _, _, _, by simp [go_sem]; rfl, by simp [go_sem]; rfl, by simp [go_sem]; rfl, by simp [go_sem]; rfl⟩, ⟨by simp [go_sem], by simp [go_sem], by simp [go_sem], by simp [go_sem]⟩, ⟨by simp [go_sem], by simp [go_sem], by simp [go_sem], by simp [go_sem]⟩, hm.below (by repeat (first | exact Below.refl _ _ | exact Nat.le_refl _ | (apply Below.alloc) | (apply Below.drew) | (simp <;> omega))), by repeat (first | exact Below.refl _ _ | exact Nat.le_refl _ | (apply Below.alloc) | (apply Below.drew) | (simp <;> omega))⟩

theorem RdI.num {w W : World} {nb pt : Int} {fm : Bool} {tx : List UInt8} (h : RdI w nb pt fm tx W) (hg : 1 < w.heap.size) (n : Int) : RdI w n pt fm tx (W.setCell ⟨w.heap.size + 1, 0, none⟩ (.int .i64 n)) := by
  obtain ⟨⟨a1, a2, a3, a4⟩, ⟨v0, v1, v2, v3, b0, b1, b2, b3⟩, ⟨c1, c2, c3, c4⟩, ⟨d0, d1, d2, d3⟩, m, k⟩ := h
  refine ⟨⟨?_, ?_, ?_, ?_⟩, ⟨v0, v1, v2, v3, ?_, ?_, ?_, ?_⟩, ⟨?_, ?_, ?_, ?_⟩, ⟨?_, ?_, ?_, ?_⟩, ?_, k.setCell (p := ⟨w.heap.size + 1, 0, none⟩) (by show w.heap.size ≤ w.heap.size + 1; omega) _⟩
  all_goals first
    | (rw [World.frozen?_setCell]; assumption)
    | (simp [go_sem, a1, a2, a3, a4, b0, b1, b2, b3]; done)
    | skip
  exact m.heap (Below.heap_setCell _ _ _ _ (by show _ ≠ w.heap.size + 1; omega))
theorem RdI.part {w W : World} {nb pt : Int} {fm : Bool} {tx : List UInt8} (h : RdI w nb pt fm tx W) (hg : 1 < w.heap.size) (n : Int) : RdI w nb n fm tx (W.setCell ⟨w.heap.size + 1 + 1, 0, none⟩ (.int .i64 n)) := by
  obtain ⟨⟨a1, a2, a3, a4⟩, ⟨v0, v1, v2, v3, b0, b1, b2, b3⟩, ⟨c1, c2, c3, c4⟩, ⟨d0, d1, d2, d3⟩, m, k⟩ := h
  refine ⟨⟨?_, ?_, ?_, ?_⟩, ⟨v0, v1, v2, v3, ?_, ?_, ?_, ?_⟩, ⟨?_, ?_, ?_, ?_⟩, ⟨?_, ?_, ?_, ?_⟩, ?_, k.setCell (p := ⟨w.heap.size + 1 + 1, 0, none⟩) (by show w.heap.size ≤ w.heap.size + 1 + 1; omega) _⟩
  all_goals first
    | (rw [World.frozen?_setCell]; assumption)
    | (simp [go_sem, a1, a2, a3, a4, b0, b1, b2, b3]; done)
    | skip
  exact m.heap (Below.heap_setCell _ _ _ _ (by show _ ≠ w.heap.size + 1 + 1; omega))
theorem RdI.form {w W : World} {nb pt : Int} {fm : Bool} {tx : List UInt8} (h : RdI w nb pt fm tx W) (hg : 1 < w.heap.size) (f : Bool) : RdI w nb pt f tx (W.setCell ⟨w.heap.size + 1 + 1 + 1, 0, none⟩ (.bool f)) := by
  obtain ⟨⟨a1, a2, a3, a4⟩, ⟨v0, v1, v2, v3, b0, b1, b2, b3⟩, ⟨c1, c2, c3, c4⟩, ⟨d0, d1, d2, d3⟩, m, k⟩ := h
  refine ⟨⟨?_, ?_, ?_, ?_⟩, ⟨v0, v1, v2, v3, ?_, ?_, ?_, ?_⟩, ⟨?_, ?_, ?_, ?_⟩, ⟨?_, ?_, ?_, ?_⟩, ?_, k.setCell (p := ⟨w.heap.size + 1 + 1 + 1, 0, none⟩) (by show w.heap.size ≤ w.heap.size + 1 + 1 + 1; omega) _⟩
  all_goals first
    | (rw [World.frozen?_setCell]; assumption)
    | (simp [go_sem, a1, a2, a3, a4, b0, b1, b2, b3]; done)
    | skip
  exact m.heap (Below.heap_setCell _ _ _ _ (by show _ ≠ w.heap.size + 1 + 1 + 1; omega))
theorem RdI.name {w W : World} {nb pt : Int} {fm : Bool} {tx : List UInt8} (h : RdI w nb pt fm tx W) (hg : 1 < w.heap.size) (t : ByteArray) : RdI w nb pt fm tx (W.setCell ⟨w.heap.size, 0, none⟩ (.string t)) := by
  obtain ⟨⟨a1, a2, a3, a4⟩, ⟨v0, v1, v2, v3, b0, b1, b2, b3⟩, ⟨c1, c2, c3, c4⟩, ⟨d0, d1, d2, d3⟩, m, k⟩ := h
  refine ⟨⟨?_, ?_, ?_, ?_⟩, ⟨.string t, v1, v2, v3, ?_, ?_, ?_, ?_⟩, ⟨?_, ?_, ?_, ?_⟩, ⟨?_, ?_, ?_, ?_⟩, ?_, k.setCell (p := ⟨w.heap.size, 0, none⟩) (by show w.heap.size ≤ w.heap.size; omega) _⟩
  all_goals first
    | (rw [World.frozen?_setCell]; assumption)
    | (simp [go_sem, a1, a2, a3, a4, b0, b1, b2, b3]; done)
    | skip
  exact m.heap (Below.heap_setCell _ _ _ _ (by show _ ≠ w.heap.size; omega))
theorem Kept.refl (B : Nat) (w : World) : Kept B w w := ⟨Nat.le_refl _, fun _ _ _ => rfl⟩
theorem Kept.set {B : Nat} {w w' : World} (h : Kept B w w') {a : Addr} (ha : a.block < B) (v : Value) : Kept B w (w'.setCell a v) :=
  ⟨by have := h.1; simpa using this, fun k h1 h2 => (Below.heap_setCell _ _ _ _ (by omega)).trans (h.2 k h1 h2)⟩
theorem Kept.alloc {B : Nat} {w w' : World} (h : Kept B w w') (o : Obj) : Kept B w (w'.alloc o) :=
  ⟨by have := h.1; simp; omega, fun k h1 h2 => (Below.heap_alloc _ _ _ (by have := h.1; omega)).trans (h.2 k h1 h2)⟩
theorem Kept.below {B : Nat} {w w' w2 : World} (h : Kept B w w') (k : Below w'.heap.size w' w2) : Kept B w w2 :=
  ⟨Nat.le_trans h.1 k.size, fun j h1 h2 => (k.block j (by have := h.1; omega)).trans (h.2 j h1 h2)⟩
theorem Kept.nx {B ps pm : Nat} {w w' w2 : World} {b : List UInt8} {f : Bool} (h : Kept B w w') (k : Nx w' ps pm b f w2) (h1 : w.heap.size ≤ ps) (h2 : w.heap.size ≤ pm) : Kept B w w2 := by
  obtain ⟨_, _, _, _, e, ho, _⟩ := k
  exact ⟨by rw [e]; exact h.1, fun j j1 j2 => (ho j (by omega) (by omega)).trans (h.2 j j1 j2)⟩
theorem Nx.below {ps pm B : Nat} {w w2 : World} {b : List UInt8} {f : Bool} (k : Nx w ps pm b f w2) (h1 : B ≤ ps) (h2 : B ≤ pm) : Below B w w2 := by
  obtain ⟨_, _, _, _, e, ho, e1, e2, e3⟩ := k
  exact ⟨e1, e2, e3, by rw [e]; exact Nat.le_refl _, fun j hj => ho j (by omega) (by omega)⟩

set_option maxRecDepth 100000 in
set_option maxHeartbeats 1600000 in
theorem read_ex (w : World) (hm : ML w) : Calls Tryz.prog 69 #[.string ⟨TXT.toArray⟩] w fun e w' => e = .returned (.tuple #[.agg #[.string ⟨#[]⟩, .slice none 0 0, .slice none 0 0, .slice none 0 0], .int .i64 2]) ∧ Below w.heap.size w w' := by
  refine (callsIn_wide (n := 5)).1 (callsIn_of_wp_marks Tryz.func69 rfl trivial (wpIn_wide.2 ?_) rfl)
  simp only [Tryz.ntmps69, List.size_toArray, List.length_cons, List.length_nil, Nat.reduceAdd, Nat.reduceSub, Array.replicate_succ, Array.replicate_zero, List.push_toArray, List.append_toArray, List.nil_append, List.cons_append]
  have HM := Lib.hid hm
  clear hm
  go_wp2_with fail
  go_step3
  go_wp2_with fail
  go_step3
  go_wp2_with fail
  refine (lines_any _ _).mono ?_
  rintro e w2 ⟨rfl, rfl⟩
  go_wp2_with fail
  have R0 := Lib.hid (rdI_new w HM.out)
  have hg := HM.out.lt
  have HS : Hid ((((((w.alloc (.cells #[.string ⟨#[]⟩, .slice none 0 0, .slice none 0 0, .slice none 0 0] 26)).alloc (.cells #[.int .i64 0] 3)).alloc (.cells #[.int .i64 0] 3)).alloc (.cells #[.bool false] 4)).alloc (.cells #[.string ⟨TXT.toArray⟩] 9)).heap.size = w.heap.size + 5) := Lib.hid (by simp)
  generalize hW0 : (((((w.alloc (.cells #[.string ⟨#[]⟩, .slice none 0 0, .slice none 0 0, .slice none 0 0] 26)).alloc (.cells #[.int .i64 0] 3)).alloc (.cells #[.int .i64 0] 3)).alloc (.cells #[.bool false] 4)).alloc (.cells #[.string ⟨TXT.toArray⟩] 9)) = W0 at *
  clear hW0
  refine (wpIn_wide (n := 5)).1 (range_lines 0 (w.heap.size + 1 + 1 + 1 + 1) rfl rfl R0.out.1.2.2.2 R0.out.2.2.2.2.1 (RdI w 1 0 true TXT) (RdI w 1 0 true LN1) (fun c W => c = .exit 0 ∧ RdI w 2 1 false LN1 W)
    (RdI.stab w _ _ _ _ _ (by have := HS.out; omega) hg) (RdI.stab w _ _ _ _ _ (by have := HS.out; omega) hg) (fun c => fun W W' ⟨h1, h2⟩ hb => ⟨h1, RdI.stab w _ _ _ _ _ (by have := HS.out; omega) hg W W' h2 hb⟩)
    (fun W h => ⟨h.1.2.2.2, h.2.2.1.2.2.2, (RdI.set h hg).2.2.2.2.1, RdI.set h hg⟩)
    (fun x y => { tmps := #[.string ⟨TXT.toArray⟩, undef, .pointer (some ⟨w.heap.size, 0, none⟩), .int .i64 0, .pointer (some ⟨w.heap.size + 1, 0, none⟩), .pointer (some ⟨w.heap.size + 1 + 1, 0, none⟩), .pointer (some ⟨w.heap.size + 1 + 1 + 1, 0, none⟩), x, y, undef, undef, undef, undef, undef, undef, undef, undef, undef, undef, undef, undef, undef, undef, .string ⟨TXT.toArray⟩, .func (.func 104) #[] #[.pointer (some ⟨w.heap.size + 1 + 1 + 1 + 1, 0, none⟩)], x, y, undef, undef, undef, undef, undef, undef, undef, undef, undef, undef, undef, undef, undef, undef, undef, undef, undef, undef, undef, undef, undef, undef, undef, undef, undef, undef, undef, undef, undef, undef, undef, undef, undef, undef, undef, undef, undef, undef, undef, undef, undef, undef, undef, undef, undef, undef, undef, undef, undef, undef, undef, undef, undef, undef, undef, undef, undef, undef, undef, undef, undef, undef, undef, undef, undef, undef, undef, undef, undef, undef, undef, undef], defers := [] }) ?assign ?body0 ?body1 ?stop)
  case assign =>
    intro l x y W K hK
    gi_wp2
    exact hK
  case body0 =>
    intro l W hB
    have hlo : w.heap.size + 5 ≤ W.heap.size := by have := hB.size; have := HS.out; omega
    have R1 := Lib.hid (RdI.stab w 0 0 false TXT _ (by have := HS.out; omega) hg _ _ R0.out hB)
    clear hB R0
    obtain ⟨⟨a1, a2, a3, a4⟩, ⟨v0, v1, v2, v3, b0, b1, b2, b3⟩, ⟨c1, c2, c3, c4⟩, ⟨d0, d1, d2, d3⟩, mm, kk⟩ := R1.out
    have l0 := cell_lt b0
    have l1 := cell_lt a1
    have l2 := cell_lt a2
    have l3 := cell_lt a3
    have l4 := cell_lt a4
    clear mm kk
    have hB5 : W0.heap.size = w.heap.size + 5 := HS.out
    have HB5 := Lib.hid hB5
    clear hB5
    gi_wp2_with fail
    refine ⟨trivial, (CallsIn.inRound l (callsIn_wide.2 (words_any _ _))).mono ?_⟩
    rintro e wa ⟨rfl, rfl⟩
    have R2 : Hid (RdI w 1 0 false TXT ((W.setCell ⟨w.heap.size + 1, 0, none⟩ (.int .i64 1)).setCell ⟨w.heap.size + 1 + 1 + 1, 0, none⟩ (.bool false))) := Lib.hid ((R1.out.num hg 1).form hg false)
    have K2 : Hid (Kept W0.heap.size W ((W.setCell ⟨w.heap.size + 1, 0, none⟩ (.int .i64 1)).setCell ⟨w.heap.size + 1 + 1 + 1, 0, none⟩ (.bool false))) := Lib.hid (((Kept.refl _ W).set (by show w.heap.size + 1 < _; have := HB5.out; omega) _).set (by show w.heap.size + 1 + 1 + 1 < _; have := HB5.out; omega) _)
    have hsX : ((W.setCell ⟨w.heap.size + 1, 0, none⟩ (.int .i64 1)).setCell ⟨w.heap.size + 1 + 1 + 1, 0, none⟩ (.bool false)).heap.size = W.heap.size := by simp
    clear a1 a2 a3 a4 b0 b1 b2 b3 c1 c2 c3 c4 d0 d1 d2 d3 l0 l1 l2 l3 l4
    generalize ((W.setCell ⟨w.heap.size + 1, 0, none⟩ (.int .i64 1)).setCell ⟨w.heap.size + 1 + 1 + 1, 0, none⟩ (.bool false)) = X at *
    rw [hsX]
    gi_wp2_with fail
    have R3 : Hid (RdI w 1 0 false TXT ((X.alloc (.cells #[.string ⟨LN0.toArray⟩] 9)).alloc (.cells #[.bool true] 4))) := Lib.hid (RdI.stab w _ _ _ _ (w.heap.size + 5) (Nat.le_refl _) hg _ _ R2.out (((Below.refl _ _).alloc (by omega) _).alloc (by simp; omega) _))
    have K3 : Hid (Kept W0.heap.size W ((X.alloc (.cells #[.string ⟨LN0.toArray⟩] 9)).alloc (.cells #[.bool true] 4))) := Lib.hid ((K2.out.alloc _).alloc _)
    refine ⟨trivial, (CallsIn.inRound l (callsIn_wide.2 (next_more' (W.heap.size + 1) W.heap.size LN0 [100, 101, 116, 101, 99, 116, 111, 114] [97] true _ R3.out.2.2.2.2.1 (by decide) cutA (by rw [← hsX]; simp [go_sem]) (by rw [← hsX]; simp [go_sem]) (by rw [← hsX]; simp [go_sem]) (by rw [← hsX]; simp [go_sem]) (by omega)))).mono ?_⟩
    rintro e wb ⟨rfl, hx⟩
    have R4 : Hid (RdI w 1 0 false TXT wb) := Lib.hid (RdI.stab w _ _ _ _ (w.heap.size + 5) (Nat.le_refl _) hg _ _ R3.out (hx.below (by omega) (by omega)))
    have K4 : Hid (Kept W0.heap.size W wb) := Lib.hid (K3.out.nx hx (by omega) (by omega))
    obtain ⟨x1, x2, x3, x4, x5, _⟩ := hx
    have hsb : wb.heap.size = W.heap.size + 2 := by rw [x5]; simp [hsX]
    have HSB := Lib.hid hsb
    have HSX := Lib.hid hsX
    clear x5 hsb hsX R2 R3 K2 K3
    obtain ⟨⟨a1, a2, a3, a4⟩, ⟨v0, v1, v2, v3, b0, b1, b2, b3⟩, ⟨c1, c2, c3, c4⟩, ⟨d0, d1, d2, d3⟩, mm, kk⟩ := R4.out
    have l0 := cell_lt b0
    have l1 := cell_lt a1
    have l2 := cell_lt a2
    have l3 := cell_lt a3
    have l4 := cell_lt a4
    clear mm kk
    have e1 : W.heap.size < wb.heap.size := cell_lt x1
    have e2 : W.heap.size + 1 < wb.heap.size := cell_lt x2
    gi_wp2_with fail
    refine ⟨trivial, (CallsIn.inRound l (callsIn_wide.2 (part0 _))).mono ?_⟩
    rintro e wc ⟨rfl, rfl⟩
    gi_wp2_with fail
    have R5 := Lib.hid (R4.out.part hg 0)
    have K5 := Lib.hid (K4.out.set (a := ⟨w.heap.size + 1 + 1, 0, none⟩) (by show w.heap.size + 1 + 1 < _; have := HB5.out; omega) (.int .i64 0))
    have hsX2 : (wb.setCell ⟨w.heap.size + 1 + 1, 0, none⟩ (.int .i64 0)).heap.size = wb.heap.size := by simp
    have y1 : (wb.setCell ⟨w.heap.size + 1 + 1, 0, none⟩ (.int .i64 0)).cell? ⟨W.heap.size, 0, none⟩ = some (.string ⟨#[97]⟩) := cell_heap (Below.heap_setCell _ _ _ _ (by show _ ≠ w.heap.size + 1 + 1; omega)) x1
    have y2 : (wb.setCell ⟨w.heap.size + 1 + 1, 0, none⟩ (.int .i64 0)).cell? ⟨W.heap.size + 1, 0, none⟩ = some (.bool true) := cell_heap (Below.heap_setCell _ _ _ _ (by show _ ≠ w.heap.size + 1 + 1; omega)) x2
    have y3 : (wb.setCell ⟨w.heap.size + 1 + 1, 0, none⟩ (.int .i64 0)).frozen? ⟨W.heap.size, 0, none⟩ = false := by rw [World.frozen?_setCell]; exact x3
    have y4 : (wb.setCell ⟨w.heap.size + 1 + 1, 0, none⟩ (.int .i64 0)).frozen? ⟨W.heap.size + 1, 0, none⟩ = false := by rw [World.frozen?_setCell]; exact x4
    clear R4 K4 x1 x2 x3 x4
    clear a1 a2 a3 a4 b0 b1 b2 b3 c1 c2 c3 c4 d0 d1 d2 d3 l0 l1 l2 l3 l4
    generalize (wb.setCell ⟨w.heap.size + 1 + 1, 0, none⟩ (.int .i64 0)) = X2 at *
    refine ⟨trivial, (CallsIn.inRound l (callsIn_wide.2 (next_more' (W.heap.size + 1) W.heap.size [97] [97] [] false _ R5.out.2.2.2.2.1 (by decide) cutB y2 y1 y4 y3 (by omega)))).mono ?_⟩
    rintro e wd ⟨rfl, hy⟩
    have R6 : Hid (RdI w 1 0 false TXT wd) := Lib.hid (RdI.stab w _ _ _ _ (w.heap.size + 5) (Nat.le_refl _) hg _ _ R5.out (hy.below (by omega) (by omega)))
    have K6 : Hid (Kept W0.heap.size W wd) := Lib.hid ⟨Nat.le_trans K5.out.1 (by rw [hy.2.2.2.2.1]; exact Nat.le_refl _), fun k k1 k2 => (hy.2.2.2.2.2.1 k (by omega) (by omega)).trans (K5.out.2 k k1 k2)⟩
    obtain ⟨z1, z2, _, _, z5, _⟩ := hy
    have HSD : Hid (wd.heap.size = W.heap.size + 2) := Lib.hid (by rw [z5, hsX2]; exact HSB.out)
    clear y1 y2 y3 y4 z5 hsX2 R5 K5 e1 e2
    gi_wp2_with fail
    refine ⟨trivial, (CallsIn.inRound l (callsIn_wide.2 (clone_any ⟨#[97]⟩ _ (by decide)))).mono ?_⟩
    rintro e we ⟨rfl, hb⟩
    have R7 : Hid (RdI w 1 0 false TXT we) := Lib.hid (RdI.stab w _ _ _ _ _ (by have := HSD.out; omega) hg _ _ R6.out hb)
    have K7 : Hid (Kept W0.heap.size W we) := Lib.hid (K6.out.below hb)
    have z1' := bc hb z1
    have z2' := bc hb z2
    clear R6 K6 z1 z2 hb
    obtain ⟨⟨a1, a2, a3, a4⟩, ⟨v0, v1, v2, v3, b0, b1, b2, b3⟩, ⟨c1, c2, c3, c4⟩, ⟨d0, d1, d2, d3⟩, mm, kk⟩ := R7.out
    have l0 := cell_lt b0
    have l1 := cell_lt a1
    have l2 := cell_lt a2
    have l3 := cell_lt a3
    have l4 := cell_lt a4
    clear mm kk
    gi_wp2_with fail
    have R8 := Lib.hid (R7.out.name hg ⟨#[97]⟩)
    have K8 := Lib.hid (K7.out.set (a := ⟨w.heap.size, 0, none⟩) (by show w.heap.size < _; have := HB5.out; omega) (.string ⟨#[97]⟩))
    have z3 : (we.setCell ⟨w.heap.size, 0, none⟩ (.string ⟨#[97]⟩)).cell? ⟨W.heap.size + 1, 0, none⟩ = some (.bool false) := cell_heap (Below.heap_setCell _ _ _ _ (by show _ ≠ w.heap.size; omega)) z2'
    clear R7 K7 z1' z2'
    clear a1 a2 a3 a4 b0 b1 b2 b3 c1 c2 c3 c4 d0 d1 d2 d3 l0 l1 l2 l3 l4
    generalize (we.setCell ⟨w.heap.size, 0, none⟩ (.string ⟨#[97]⟩)) = X3 at *
    refine ⟨trivial, (CallsIn.inRound l (callsIn_wide.2 (grow_none _ _))).mono ?_⟩
    rintro e wf ⟨rfl, rfl⟩
    gi_wp2_with fail
    refine wpIn_loop_rounds 1 ?_
    rw [roundsIn_succ]
    gi_wp2_with fail
    refine ⟨trivial, (CallsIn.inRound l (callsIn_wide.2 (next_none (W.heap.size + 1) W.heap.size _ z3))).mono ?_⟩
    rintro e wf ⟨rfl, rfl⟩
    obtain ⟨⟨a1, a2, a3, a4⟩, ⟨v0, v1, v2, v3, b0, b1, b2, b3⟩, ⟨c1, c2, c3, c4⟩, ⟨d0, d1, d2, d3⟩, mm, kk⟩ := R8.out
    have l0 := cell_lt b0
    have l1 := cell_lt a1
    have l2 := cell_lt a2
    have l3 := cell_lt a3
    have l4 := cell_lt a4
    clear mm kk
    gi_wp2_with fail
    exact ⟨K8.out.set (a := ⟨w.heap.size + 1 + 1 + 1, 0, none⟩) (by show w.heap.size + 1 + 1 + 1 < _; have := HB5.out; omega) _, R8.out.form hg true⟩
  case body1 =>
    intro l W hR hsz
    have hlo : w.heap.size + 5 ≤ W.heap.size := by have := HS.out; omega
    have R1 := Lib.hid hR
    clear hR hsz R0
    obtain ⟨⟨a1, a2, a3, a4⟩, ⟨v0, v1, v2, v3, b0, b1, b2, b3⟩, ⟨c1, c2, c3, c4⟩, ⟨d0, d1, d2, d3⟩, mm, kk⟩ := R1.out
    have l0 := cell_lt b0
    have l1 := cell_lt a1
    have l2 := cell_lt a2
    have l3 := cell_lt a3
    have l4 := cell_lt a4
    clear mm kk
    have hB5 : W0.heap.size = w.heap.size + 5 := HS.out
    have HB5 := Lib.hid hB5
    clear hB5
    gi_wp2_with fail
    refine ⟨trivial, (CallsIn.inRound l (callsIn_wide.2 (words_any _ _))).mono ?_⟩
    rintro e wa ⟨rfl, rfl⟩
    have R2 : Hid (RdI w 2 0 false LN1 ((W.setCell ⟨w.heap.size + 1, 0, none⟩ (.int .i64 2)).setCell ⟨w.heap.size + 1 + 1 + 1, 0, none⟩ (.bool false))) := Lib.hid ((R1.out.num hg 2).form hg false)
    have K2 : Hid (Kept W0.heap.size W ((W.setCell ⟨w.heap.size + 1, 0, none⟩ (.int .i64 2)).setCell ⟨w.heap.size + 1 + 1 + 1, 0, none⟩ (.bool false))) := Lib.hid (((Kept.refl _ W).set (by show w.heap.size + 1 < _; have := HB5.out; omega) _).set (by show w.heap.size + 1 + 1 + 1 < _; have := HB5.out; omega) _)
    have hsX : ((W.setCell ⟨w.heap.size + 1, 0, none⟩ (.int .i64 2)).setCell ⟨w.heap.size + 1 + 1 + 1, 0, none⟩ (.bool false)).heap.size = W.heap.size := by simp
    clear a1 a2 a3 a4 b0 b1 b2 b3 c1 c2 c3 c4 d0 d1 d2 d3 l0 l1 l2 l3 l4
    generalize ((W.setCell ⟨w.heap.size + 1, 0, none⟩ (.int .i64 2)).setCell ⟨w.heap.size + 1 + 1 + 1, 0, none⟩ (.bool false)) = X at *
    rw [hsX]
    gi_wp2_with fail
    have R3 : Hid (RdI w 2 0 false LN1 ((X.alloc (.cells #[.string ⟨LN1.toArray⟩] 9)).alloc (.cells #[.bool true] 4))) := Lib.hid (RdI.stab w _ _ _ _ (w.heap.size + 5) (Nat.le_refl _) hg _ _ R2.out (((Below.refl _ _).alloc (by omega) _).alloc (by simp; omega) _))
    have K3 : Hid (Kept W0.heap.size W ((X.alloc (.cells #[.string ⟨LN1.toArray⟩] 9)).alloc (.cells #[.bool true] 4))) := Lib.hid ((K2.out.alloc _).alloc _)
    refine ⟨trivial, (CallsIn.inRound l (callsIn_wide.2 (next_more' (W.heap.size + 1) W.heap.size LN1 [112, 108, 97, 110, 101] [48, 32, 49, 32, 49, 32, 49, 32, 49, 32, 49, 32, 48] true _ R3.out.2.2.2.2.1 (by decide) cutC (by rw [← hsX]; simp [go_sem]) (by rw [← hsX]; simp [go_sem]) (by rw [← hsX]; simp [go_sem]) (by rw [← hsX]; simp [go_sem]) (by omega)))).mono ?_⟩
    rintro e wb ⟨rfl, hx⟩
    have R4 : Hid (RdI w 2 0 false LN1 wb) := Lib.hid (RdI.stab w _ _ _ _ (w.heap.size + 5) (Nat.le_refl _) hg _ _ R3.out (hx.below (by omega) (by omega)))
    have K4 : Hid (Kept W0.heap.size W wb) := Lib.hid (K3.out.nx hx (by omega) (by omega))
    obtain ⟨x1, x2, x3, x4, x5, _⟩ := hx
    have hsb : wb.heap.size = W.heap.size + 2 := by rw [x5]; simp [hsX]
    have HSB := Lib.hid hsb
    have HSX := Lib.hid hsX
    clear x5 hsb hsX R2 R3 K2 K3
    obtain ⟨⟨a1, a2, a3, a4⟩, ⟨v0, v1, v2, v3, b0, b1, b2, b3⟩, ⟨c1, c2, c3, c4⟩, ⟨d0, d1, d2, d3⟩, mm, kk⟩ := R4.out
    have l0 := cell_lt b0
    have l1 := cell_lt a1
    have l2 := cell_lt a2
    have l3 := cell_lt a3
    have l4 := cell_lt a4
    clear mm kk
    have e1 : W.heap.size < wb.heap.size := cell_lt x1
    have e2 : W.heap.size + 1 < wb.heap.size := cell_lt x2
    gi_wp2_with fail
    refine ⟨trivial, (CallsIn.inRound l (callsIn_wide.2 (part1 _))).mono ?_⟩
    rintro e wc ⟨rfl, rfl⟩
    gi_wp2_with fail
    refine ⟨?_, rfl, R4.out.part hg 1⟩
    exact K4.out.set (by show w.heap.size + 1 + 1 < _; have := HB5.out; omega) _
  case stop =>
    rintro c W ⟨rfl, hR⟩ hK hsz
    have R1 := Lib.hid hR
    clear hR
    obtain ⟨⟨a1, a2, a3, a4⟩, ⟨v0, v1, v2, v3, b0, b1, b2, b3⟩, ⟨c1, c2, c3, c4⟩, ⟨d0, d1, d2, d3⟩, mm, kk⟩ := R1.out
    have l0 := cell_lt b0
    have l1 := cell_lt a1
    have l2 := cell_lt a2
    have l3 := cell_lt a3
    have l4 := cell_lt a4
    clear mm kk
    gi_wp2_with fail
    go_wp2_with fail
    go_region
    have MK : Hid (Marks w.heap.size [W0.heap.size] W) := Lib.hid (Marks.nil.cons (by have := HS.out; omega) hK (by simp))
    have hsz0 := HS.out
    go_wp2_with fail
    refine leaves_marks (B := w.heap.size) [W0.heap.size] _ (MK.out.same fun r hr => ?_) fun w' hL => ⟨.tuple #[.agg #[.string ⟨#[]⟩, .slice none 0 0, .slice none 0 0, .slice none 0 0], .int .i64 2], ?_, rfl, ?_⟩
    · simp at hr
      subst hr
      exact (Below.heap_setCell _ _ _ _ (by show _ ≠ w.heap.size; omega)).trans ((Below.heap_setCell _ _ _ _ (by show _ ≠ w.heap.size; omega)).trans ((Below.heap_setCell _ _ _ _ (by show _ ≠ w.heap.size; omega)).trans (Below.heap_setCell _ _ _ _ (by show _ ≠ w.heap.size; omega))))
    · simp [results, Tryz.results69, go_sem, hL.1, b0, b1, b2, b3]
    · exact (((((R1.out.2.2.2.2.2.setCell (p := ⟨w.heap.size, 0, none⟩) (Nat.le_refl _) _).setCell (p := ⟨w.heap.size, 1, none⟩) (Nat.le_refl _) _).setCell (p := ⟨w.heap.size, 2, none⟩) (Nat.le_refl _) _).setCell (p := ⟨w.heap.size, 3, none⟩) (Nat.le_refl _) _).drew).trans hL.2
end Go.Proofs.YteoahbpfhfjfmaaGreatDoor
