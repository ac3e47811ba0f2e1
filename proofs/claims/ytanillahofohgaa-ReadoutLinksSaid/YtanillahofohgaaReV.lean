/- Layer 5: Send of the document's link, where it sends. -/
import Derived.Test.YtanillahofohgaaReU
set_option linter.unusedVariables false
set_option linter.unusedSimpArgs false
set_option maxRecDepth 100000
namespace Go.Proofs.Ytanillahofohgaa
open Go.RowKit

theorem Sd.dr {w W : World} {room c : Int} {qv uv : Value} (h : Sd w W room c qv uv) : Sd w W.drew room c qv uv := h.below (Below.refl _ _).drew
theorem Ro.dr {w W : World} {v : Value} {l : Strs} (h : Ro w W v l) : Ro w W.drew v l := h.below (Below.refl _ _).drew

theorem fin_row {w W W' : World} {v v' : Value} {l l' : Strs} {room c : Int} {qv uv : Value} (hg : W.grownBy W' v.ownBlock) (d : Sd w W room c qv uv) (h : Ro w W v l) (hs : So w.heap.size W' v' l') (hv : v'.ownBlock = v.ownBlock ∨ ∃ g, v'.ownBlock = some g ∧ W.heap.size ≤ g) : Sd w W' room c qv uv ∧ Ro w W' v' l' :=
  ⟨d.put hg h.o, Ro.put d h hs hv⟩
theorem keep_one {W W' : World} {v : Value} {g : Nat} {y : List UInt8} (hg : W.grownBy W' v.ownBlock) (h : W.cell? ⟨g, 0, none⟩ = some (.string (str y))) (hne : v.ownBlock ≠ some g) : W'.cell? ⟨g, 0, none⟩ = some (.string (str y)) :=
  (World.cell?_of_block (hg.block g (cell_lt h) fun e => hne e.symm)).trans h
set_option maxHeartbeats 6400000 in
theorem refSend_yes (P P' : Nat → Prop) (room c : Int) (qv uv fv : Value) (x : List UInt8) (q u : Strs) (fl : List Int) (w : World) (hq : StS P w qv (x :: q)) (hu : StS P' w uv u) (hf : InS w fv fl) (hc : 1 ≤ c ∧ c ≤ 1000) (hql : q.length ≤ 1000) (hul : u.length ≤ 1000) (hx : x.length ≤ 1000000) (hfl : fl.length ≤ 9223372036854775807) :
    Calls Try.prog 35 #[.agg #[.int .i64 room, .int .i64 c, qv, uv], fv] w (SdPost P w room c q (u ++ [flL x fl])) := by
  obtain ⟨qa, qc, rfl, hlc⟩ := hq.form
  obtain ⟨ua, uc, rfl, _⟩ := hu.form
  obtain ⟨fa, fc, rfl, _⟩ := hf.form
  obtain ⟨b, off, rfl, _, hx0⟩ := hq.head
  have hb : b < w.heap.size := cell_lt hx0
  have HQ := Lib.hid hq
  have FLIP := Lib.hid (fun W (k : Below w.heap.size w W) => refFlip_any x _ fl W (hf.below k) hx hfl)
  have SRC := Lib.hid (fun W (k : Below w.heap.size w W) => (hu.below k).src)
  have CX := Lib.hid (fun W (k : Below w.heap.size w W) => (bc k hx0 : W.cell? ⟨b, off, none⟩ = some (.string (str x))))
  obtain ⟨y, hy⟩ : ∃ y, y = flL x fl := ⟨_, rfl⟩
  rw [← hy] at FLIP ⊢
  have hne : ((((x :: q).length : Nat) : Int) == 0) = false := by simp; omega
  have hn1 : (x :: q).length = q.length + 1 := by simp
  obtain ⟨n, hn⟩ : ∃ n, n = (x :: q).length := ⟨_, rfl⟩
  rw [← hn] at hne hlc hn1 ⊢
  have hcz : (c == 0) = false := by simp; omega
  have HN := Lib.hid (And.intro hn hn1)
  have hn2 : 0 < n := by omega
  obtain ⟨W1, hW1⟩ : ∃ W, W = (w.alloc (.cells #[.int .i64 room, .int .i64 c, .slice (some ⟨b, off, none⟩) n qc, .slice ua u.length uc] 65)).alloc (.cells #[.int .i64 0, .int .i64 0, .slice none 0 0, .slice none 0 0] 65) := ⟨_, rfl⟩
  have sd : Sd w W1 room c (.slice (some ⟨b, off, none⟩) n qc) (.slice ua u.length uc) := by
    rw [hW1]
    have y0 := YAt.fresh w room c (.slice (some ⟨b, off, none⟩) n qc) (.slice ua u.length uc)
    have k0 : Below w.heap.size w (w.alloc (.cells #[.int .i64 room, .int .i64 c, .slice (some ⟨b, off, none⟩) n qc, .slice ua u.length uc] 65)) := (Below.refl _ _).alloc (Nat.le_refl _) _
    have z0 : (w.alloc (.cells #[.int .i64 room, .int .i64 c, .slice (some ⟨b, off, none⟩) n qc, .slice ua u.length uc] 65)).heap.size = w.heap.size + 1 := by simp
    generalize w.alloc (.cells #[.int .i64 room, .int .i64 c, .slice (some ⟨b, off, none⟩) n qc, .slice ua u.length uc] 65) = W0 at *
    have y1 := YAt.fresh W0 0 0 (.slice none 0 0) (.slice none 0 0)
    have k1 : Below W0.heap.size W0 (W0.alloc (.cells #[.int .i64 0, .int .i64 0, .slice none 0 0, .slice none 0 0] 65)) := (Below.refl _ _).alloc (Nat.le_refl _) _
    have z1 : (W0.alloc (.cells #[.int .i64 0, .int .i64 0, .slice none 0 0, .slice none 0 0] 65)).heap.size = w.heap.size + 1 + 1 := by simp [z0]
    rw [z0] at y1
    exact ⟨y0.below k1, y1, Below.up k0 k1, by omega⟩
  have SD0 := Lib.hid sd
  have SD := Lib.hid (sd.below (Below.refl W1.heap.size W1).drew)
  obtain ⟨c0, c1, c2, c3⟩ := sd.y.cells
  obtain ⟨f0, f1, f2, f3⟩ := sd.y.frozens
  have cx := CX.out _ sd.b
  rw [hW1] at c0 c1 c2 c3 f0 f1 f2 f3 cx
  clear hq hu hf hx0 hn hn1 hy sd
  go_enter Try.func35, Try.ntmps35
  go_wp2_with fail
  rw [← hW1] at c0 c1 c2 c3 f0 f1 f2 f3 cx ⊢
  clear hW1
  have z2 := fun o => (SD0.out.al o).y.cells.2.2.1
  have z3 := fun o => (SD0.out.al o).y.cells.2.2.2
  have zx := fun o => CX.out _ (SD0.out.al o).b
  go_cut [28] from 16 to 28 (fun _ W => ∃ a5 k5 w5, W = w5.setCell ⟨w.heap.size, 3, none⟩ (.slice a5 (u.length + 1) k5) ∧ Hid (Sd w w5 room c (.slice (some ⟨b, off, none⟩) n qc) (.slice ua u.length uc)) ∧ Hid (Ro w w5 (.slice a5 (u.length + 1) k5) (u ++ [y])))
  case first =>
    rename_i hJ hK
    go_region_law
      (first
        | (have D0 := SD.out.al (.cells #[.string (str y)] 9); have RC := RW.out.al (.cells #[.string (str y)] 9); (refine step_append_strs rfl _ _ (by rfl) (by rfl) RC.s _ (by rfl) [y] (one_src (new_one _ _ _)) (by simp; omega) D0.b.size ?_); intro v5 w5 h5 g5 l5; obtain ⟨a5, k5, e5, _⟩ := h5.form; rw [show (([] ++ u) ++ [y] : Strs).length = u.length + 1 by simp] at e5; subst e5; have RS := Lib.hid (fin_row g5 D0 RC h5 l5); clear h5 g5 l5 D0 RC; have SD := Lib.hid RS.out.1; have RW := Lib.hid RS.out.2; clear RS; have y2 := SD.out.y.cells.2.2.1; have y3 := SD.out.y.cells.2.2.2; have yx := CX.out _ SD.out.b; have z2 := fun o => (SD.out.al o).y.cells.2.2.1; have z3 := fun o => (SD.out.al o).y.cells.2.2.2; have zx := fun o => CX.out _ (SD.out.al o).b; have v2 := fun o o' => ((SD.out.al o).al o').y.cells.2.2.1; have v3 := fun o o' => ((SD.out.al o).al o').y.cells.2.2.2; have vx := fun o o' => CX.out _ ((SD.out.al o).al o').b; have fz3 := SD.out.y.frozens.2.2.2; dsimp only)
        | (have D0 := SD.out; have RC := RW.out; (refine step_append_strs rfl _ _ (by rfl) (by rfl) RC.s _ (by rfl) [y] (one_src SC.out) (by simp; omega) D0.b.size ?_); intro v5 w5 h5 g5 l5; obtain ⟨a5, k5, e5, _⟩ := h5.form; rw [show (([] ++ u) ++ [y] : Strs).length = u.length + 1 by simp] at e5; subst e5; have RS := Lib.hid (fin_row g5 D0 RC h5 l5); clear h5 g5 l5 D0 RC; have SD := Lib.hid RS.out.1; have RW := Lib.hid RS.out.2; clear RS; have y2 := SD.out.y.cells.2.2.1; have y3 := SD.out.y.cells.2.2.2; have yx := CX.out _ SD.out.b; have z2 := fun o => (SD.out.al o).y.cells.2.2.1; have z3 := fun o => (SD.out.al o).y.cells.2.2.2; have zx := fun o => CX.out _ (SD.out.al o).b; have v2 := fun o o' => ((SD.out.al o).al o').y.cells.2.2.1; have v3 := fun o o' => ((SD.out.al o).al o').y.cells.2.2.2; have vx := fun o o' => CX.out _ ((SD.out.al o).al o').b; have fz3 := SD.out.y.frozens.2.2.2; dsimp only)
        | (have D0 := (SD0.out.al (.cells #[] 9)).dr; have RC := (Ro.new SD0.out).dr; (refine step_append_strs rfl _ _ (by rfl) (by rfl) RC.s _ (by rfl) u (SRC.out _ D0.b) (by simp; omega) D0.b.size ?_); intro v5 w5 h5 g5 l5; have RS := Lib.hid (fin_row g5 D0 RC h5 l5); clear h5 g5 l5 D0 RC; have SD := Lib.hid RS.out.1; have RW := Lib.hid RS.out.2; clear RS; have y2 := SD.out.y.cells.2.2.1; have y3 := SD.out.y.cells.2.2.2; have yx := CX.out _ SD.out.b; have z2 := fun o => (SD.out.al o).y.cells.2.2.1; have z3 := fun o => (SD.out.al o).y.cells.2.2.2; have zx := fun o => CX.out _ (SD.out.al o).b; have v2 := fun o o' => ((SD.out.al o).al o').y.cells.2.2.1; have v3 := fun o o' => ((SD.out.al o).al o').y.cells.2.2.2; have vx := fun o o' => CX.out _ ((SD.out.al o).al o').b; have fz3 := SD.out.y.frozens.2.2.2; dsimp only)
        | (have D0 := SD.out.al (.cells #[] 9); have RC := Ro.new SD.out; (refine step_append_strs rfl _ _ (by rfl) (by rfl) RC.s _ (by rfl) u (SRC.out _ D0.b) (by simp; omega) D0.b.size ?_); intro v5 w5 h5 g5 l5; have RS := Lib.hid (fin_row g5 D0 RC h5 l5); clear h5 g5 l5 D0 RC; have SD := Lib.hid RS.out.1; have RW := Lib.hid RS.out.2; clear RS; have y2 := SD.out.y.cells.2.2.1; have y3 := SD.out.y.cells.2.2.2; have yx := CX.out _ SD.out.b; have z2 := fun o => (SD.out.al o).y.cells.2.2.1; have z3 := fun o => (SD.out.al o).y.cells.2.2.2; have zx := fun o => CX.out _ (SD.out.al o).b; have v2 := fun o o' => ((SD.out.al o).al o').y.cells.2.2.1; have v3 := fun o o' => ((SD.out.al o).al o').y.cells.2.2.2; have vx := fun o o' => CX.out _ ((SD.out.al o).al o').b; have fz3 := SD.out.y.frozens.2.2.2; dsimp only)
        | (have D0 := SD.out; have RC := RW.out; (refine step_append_strs rfl _ _ (by rfl) (by rfl) RC.s _ (by rfl) u (SRC.out _ D0.b) (by simp; omega) D0.b.size ?_); intro v5 w5 h5 g5 l5; have RS := Lib.hid (fin_row g5 D0 RC h5 l5); clear h5 g5 l5 D0 RC; have SD := Lib.hid RS.out.1; have RW := Lib.hid RS.out.2; clear RS; have y2 := SD.out.y.cells.2.2.1; have y3 := SD.out.y.cells.2.2.2; have yx := CX.out _ SD.out.b; have z2 := fun o => (SD.out.al o).y.cells.2.2.1; have z3 := fun o => (SD.out.al o).y.cells.2.2.2; have zx := fun o => CX.out _ (SD.out.al o).b; have v2 := fun o o' => ((SD.out.al o).al o').y.cells.2.2.1; have v3 := fun o o' => ((SD.out.al o).al o').y.cells.2.2.2; have vx := fun o o' => CX.out _ ((SD.out.al o).al o').b; have fz3 := SD.out.y.frozens.2.2.2; dsimp only)
        | (have D0 := SD.out.al (.cells #[.string (str y)] 9); have RC := RW.out.al (.cells #[.string (str y)] 9); (refine step_append_strs rfl _ _ (by rfl) (by rfl) RC.s _ (by rfl) u (SRC.out _ D0.b) (by simp; omega) D0.b.size ?_); intro v5 w5 h5 g5 l5; have RS := Lib.hid (fin_row g5 D0 RC h5 l5); have SC := Lib.hid (keep_one (y := y) g5 (new_one _ _ _) (fun e => absurd (So.lt RW.out.s _ e).2 (Nat.lt_irrefl _))); clear h5 g5 l5 D0 RC; have SD := Lib.hid RS.out.1; have RW := Lib.hid RS.out.2; clear RS; have y2 := SD.out.y.cells.2.2.1; have y3 := SD.out.y.cells.2.2.2; have yx := CX.out _ SD.out.b; have z2 := fun o => (SD.out.al o).y.cells.2.2.1; have z3 := fun o => (SD.out.al o).y.cells.2.2.2; have zx := fun o => CX.out _ (SD.out.al o).b; have v2 := fun o o' => ((SD.out.al o).al o').y.cells.2.2.1; have v3 := fun o o' => ((SD.out.al o).al o').y.cells.2.2.2; have vx := fun o o' => CX.out _ ((SD.out.al o).al o').b; have fz3 := SD.out.y.frozens.2.2.2; dsimp only)
        | (have D0 := (SD.out.al (.cells #[] 9)).al (.cells #[.string (str y)] 9); have RC := (Ro.new SD.out).al (.cells #[.string (str y)] 9); (refine step_append_strs rfl _ _ (by rfl) (by rfl) RC.s _ (by rfl) u (SRC.out _ D0.b) (by simp; omega) D0.b.size ?_); intro v5 w5 h5 g5 l5; have RS := Lib.hid (fin_row g5 D0 RC h5 l5); have SC := Lib.hid (keep_one (y := y) g5 (new_one _ _ _) (fun e => absurd (So.lt (Ro.new SD.out).s _ e).2 (Nat.lt_irrefl _))); clear h5 g5 l5 D0 RC; have SD := Lib.hid RS.out.1; have RW := Lib.hid RS.out.2; clear RS; have y2 := SD.out.y.cells.2.2.1; have y3 := SD.out.y.cells.2.2.2; have yx := CX.out _ SD.out.b; have z2 := fun o => (SD.out.al o).y.cells.2.2.1; have z3 := fun o => (SD.out.al o).y.cells.2.2.2; have zx := fun o => CX.out _ (SD.out.al o).b; have v2 := fun o o' => ((SD.out.al o).al o').y.cells.2.2.1; have v3 := fun o o' => ((SD.out.al o).al o').y.cells.2.2.2; have vx := fun o o' => CX.out _ ((SD.out.al o).al o').b; have fz3 := SD.out.y.frozens.2.2.2; dsimp only)
        | (have D0 := (SD.out.al (.cells #[.string (str y)] 9)).al (.cells #[] 9); have RC := Ro.new (SD.out.al (.cells #[.string (str y)] 9)); (refine step_append_strs rfl _ _ (by rfl) (by rfl) RC.s _ (by rfl) u (SRC.out _ D0.b) (by simp; omega) D0.b.size ?_); intro v5 w5 h5 g5 l5; have RS := Lib.hid (fin_row g5 D0 RC h5 l5); have SC := Lib.hid (keep_one (y := y) g5 (bc (Below.alloc (Below.refl _ _) (Nat.le_refl _) _) (new_one _ _ _)) (fun e => absurd (Option.some.inj e) (by simp))); clear h5 g5 l5 D0 RC; have SD := Lib.hid RS.out.1; have RW := Lib.hid RS.out.2; clear RS; have y2 := SD.out.y.cells.2.2.1; have y3 := SD.out.y.cells.2.2.2; have yx := CX.out _ SD.out.b; have z2 := fun o => (SD.out.al o).y.cells.2.2.1; have z3 := fun o => (SD.out.al o).y.cells.2.2.2; have zx := fun o => CX.out _ (SD.out.al o).b; have v2 := fun o o' => ((SD.out.al o).al o').y.cells.2.2.1; have v3 := fun o o' => ((SD.out.al o).al o').y.cells.2.2.2; have vx := fun o o' => CX.out _ ((SD.out.al o).al o').b; have fz3 := SD.out.y.frozens.2.2.2; dsimp only)
        | (refine step_at (Eq.refl true) ?_; go_simp; go_at_call 57; have D0 := (SD0.out.al (.cells #[] 9)).dr; ((with_reducible refine (FLIP.out _ D0.b).mono ?_); rintro e w7 ⟨rfl, b7⟩; have RW := Lib.hid ((Ro.new SD0.out).dr.below b7); have SD := Lib.hid (D0.below b7); clear b7 D0; have y2 := SD.out.y.cells.2.2.1; have y3 := SD.out.y.cells.2.2.2; have yx := CX.out _ SD.out.b; have z2 := fun o => (SD.out.al o).y.cells.2.2.1; have z3 := fun o => (SD.out.al o).y.cells.2.2.2; have zx := fun o => CX.out _ (SD.out.al o).b; have v2 := fun o o' => ((SD.out.al o).al o').y.cells.2.2.1; have v3 := fun o o' => ((SD.out.al o).al o').y.cells.2.2.2; have vx := fun o o' => CX.out _ ((SD.out.al o).al o').b; have fz3 := SD.out.y.frozens.2.2.2; dsimp only))
        | (refine step_at (Eq.refl true) ?_; go_simp; go_at_call 57; have D0 := SD.out; ((with_reducible refine (FLIP.out _ D0.b).mono ?_); rintro e w7 ⟨rfl, b7⟩; have RW := Lib.hid (RW.out.below b7); have SD := Lib.hid (D0.below b7); clear b7 D0; have y2 := SD.out.y.cells.2.2.1; have y3 := SD.out.y.cells.2.2.2; have yx := CX.out _ SD.out.b; have z2 := fun o => (SD.out.al o).y.cells.2.2.1; have z3 := fun o => (SD.out.al o).y.cells.2.2.2; have zx := fun o => CX.out _ (SD.out.al o).b; have v2 := fun o o' => ((SD.out.al o).al o').y.cells.2.2.1; have v3 := fun o o' => ((SD.out.al o).al o').y.cells.2.2.2; have vx := fun o o' => CX.out _ ((SD.out.al o).al o').b; have fz3 := SD.out.y.frozens.2.2.2; dsimp only))
        | (refine step_at (Eq.refl true) ?_; go_simp; go_at_call 57; have D0 := SD.out; ((with_reducible refine (FLIP.out _ D0.b).mono ?_); rintro e w7 ⟨rfl, b7⟩; have SD := Lib.hid (D0.below b7); clear b7 D0; have y2 := SD.out.y.cells.2.2.1; have y3 := SD.out.y.cells.2.2.2; have yx := CX.out _ SD.out.b; have z2 := fun o => (SD.out.al o).y.cells.2.2.1; have z3 := fun o => (SD.out.al o).y.cells.2.2.2; have zx := fun o => CX.out _ (SD.out.al o).b; have v2 := fun o o' => ((SD.out.al o).al o').y.cells.2.2.1; have v3 := fun o o' => ((SD.out.al o).al o').y.cells.2.2.2; have vx := fun o o' => CX.out _ ((SD.out.al o).al o').b; have fz3 := SD.out.y.frozens.2.2.2; dsimp only)))
    all_goals
      refine hK _ _ (Met.intro (hJ _ _ ?_))
      (repeat apply Exists.intro)
      refine ⟨?_, rfl⟩
      exact ⟨a5, k5, w5, rfl, SD, Lib.hid (by have h := RW.out; rwa [List.nil_append] at h)⟩
  case rest =>
    clear z2 z3 zx c0 c1 c2 c3 f0 f1 f2 f3 cx
    obtain ⟨a5, k5, w5, rfl, SD5, RW5⟩ := hcut
    obtain ⟨c0, c1, c2, c3⟩ := SD5.out.y.cells
    obtain ⟨f0, f1, f2, f3⟩ := SD5.out.y.frozens
    obtain ⟨d0, d1, d2, d3⟩ := SD5.out.r.cells
    obtain ⟨g0, g1, g2, g3⟩ := SD5.out.r.frozens
    have HQ5 := Lib.hid (fun W (k : Below w.heap.size w W) => HQ.out.below k)
    have HNQ : Hid (n - 1 = q.length) := Lib.hid (by have := HN.out.2; omega)
    have HQ1 := HQ
    have hq1c : qc = 1 ∨ ¬ qc = 1 := by omega
    rcases hq1c with hq1 | hq1
    · go_wp2_with fail
      have D := Lib.hid (SD5.out.done (.slice a5 (u.length + 1) k5) (.slice (some ⟨b, off, none⟩) (n - 1) 0) (.int .i64 (c - 1)) room (c - 1) (.slice (some ⟨b, off, none⟩) (n - 1) 0) (.slice a5 (u.length + 1) k5))
      obtain ⟨e0, e1, e2, e3⟩ := D.out.1.cells
      have hq0 : q = [] := by
        have h1 := HQ.out
        rw [hq1] at h1
        exact h1.tail_one
      exact bodyPost_ret (v := .tuple #[.agg #[.int .i64 room, .int .i64 (c - 1), .slice (some ⟨b, off, none⟩) (n - 1) 0, .slice a5 (u.length + 1) k5], .bool true]) (by simp [results, Try.results35, go_sem, e0, e1, e2, e3]) rfl ⟨_, _, rfl, (by rw [hq0, HNQ.out, hq0]; exact ⟨_, 0, rfl, Nat.le_refl _, fun h => absurd h (by decide)⟩), (RW5.out.s.same fun g hg => D.out.2.2 g (by have := RW5.out.o g hg; omega) (by have := RW5.out.o g hg; omega)).sts.mono (fun b _ h => h.1), D.out.2.1⟩
    · go_wp2_with fail
      have D := Lib.hid (SD5.out.done (.slice a5 (u.length + 1) k5) (.slice (some ⟨b, off + 1, none⟩) (n - 1) (qc - 1)) (.int .i64 (c - 1)) room (c - 1) (.slice (some ⟨b, off + 1, none⟩) (n - 1) (qc - 1)) (.slice a5 (u.length + 1) k5))
      obtain ⟨e0, e1, e2, e3⟩ := D.out.1.cells
      have hstq : StS P w (.slice (some ⟨b, off + 1, none⟩) (n - 1) (qc - 1)) q := by
        rw [HNQ.out]
        exact HQ.out.tail_ne
      exact bodyPost_ret (v := .tuple #[.agg #[.int .i64 room, .int .i64 (c - 1), .slice (some ⟨b, off + 1, none⟩) (n - 1) (qc - 1), .slice a5 (u.length + 1) k5], .bool true]) (by simp [results, Try.results35, go_sem, e0, e1, e2, e3]) rfl ⟨.slice (some ⟨b, off + 1, none⟩) (n - 1) (qc - 1), .slice a5 (u.length + 1) k5, rfl, (StS.below hstq D.out.2.1), (RW5.out.s.same fun g hg => D.out.2.2 g (by have := RW5.out.o g hg; omega) (by have := RW5.out.o g hg; omega)).sts.mono (fun b _ h => h.1), D.out.2.1⟩
end Go.Proofs.Ytanillahofohgaa
