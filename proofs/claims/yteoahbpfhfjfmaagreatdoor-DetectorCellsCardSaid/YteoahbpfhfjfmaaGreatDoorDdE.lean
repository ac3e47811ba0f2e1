/- Layer 3: the example's chip resolved. -/
import Derived.Test.YteoahbpfhfjfmaaGreatDoorDbJ
import Derived.Test.YteoahbpfhfjfmaaGreatDoorDcC
import Derived.RangeFuncNested
import Derived.Shelf.RegionOpen
set_option linter.unusedVariables false
set_option linter.unusedSimpArgs false
namespace Go.Proofs.YteoahbpfhfjfmaaGreatDoor
open Go.RowKit
attribute [local go_sem] Oper.semAt_some

theorem live_any (a : Option Addr) (n cap : Nat) (t : Int) (w : World) : Calls Tryz.prog 64 #[.slice a n cap, .int .i64 t] w fun e w' => e = .returned (.func (.func 89) #[] #[.pointer (some ⟨w.heap.size, 0, none⟩), .pointer (some ⟨w.heap.size + 1, 0, none⟩)]) ∧ w' = (w.alloc (.cells #[.slice a n cap] 24)).alloc (.cells #[.int .i64 t] 3) := by
  go_enter Tryz.func64, Tryz.ntmps64
  go_wp2_with fail
  go_ret
  exact ⟨rfl, rfl⟩
theorem chipOf_any (c0 c1 c2 c3 c4 c5 c6 c7 c8 : Int) (w : World) : Calls Tryz.prog 65 #[.agg #[.int .i64 c0, .int .i64 c1, .int .i64 c2, .int .i64 c3, .int .i64 c4, .int .i64 c5, .int .i64 c6, .int .i64 c7, .int .i64 c8]] w fun e w' => e = .returned (.agg #[.int .i64 c0, .int .i64 c1]) ∧ Below w.heap.size w w' := by
  go_enter Tryz.func65, Tryz.ntmps65
  go_wp2_with fail
  exact bodyPost_ret (v := .agg #[.int .i64 c0, .int .i64 c1]) (by simp [results, Tryz.results65, go_sem]) rfl ⟨rfl, by repeat (first | exact Below.refl _ _ | exact Nat.le_refl _ | (apply Below.alloc) | (apply Below.drew) | (simp <;> omega))⟩
theorem cellAt_ex (w : World) : Calls Tryz.prog 66 #[.agg #[.int .i64 2, .int .i64 5, .int .i64 0, .int .i64 1, .int .i64 0, .int .i64 3, .int .i64 2, .int .i64 100, .int .i64 200], .int .i64 3] w fun e w' => e = .returned (.agg #[.int .i64 0, .int .i64 2, .int .i64 1]) ∧ Below w.heap.size w w' := by
  go_enter Tryz.func66, Tryz.ntmps66
  go_wp2_with fail
  go_region
  all_goals
    go_wp2_with fail
    exact bodyPost_ret (v := .agg #[.int .i64 0, .int .i64 2, .int .i64 1]) (by simp [results, Tryz.results66, go_sem]) rfl ⟨rfl, by repeat (first | exact Below.refl _ _ | exact Nat.le_refl _ | (apply Below.alloc) | (apply Below.drew) | (simp <;> omega))⟩

/-- A box with the example's cable. -/
def Bx9 (W : World) (B : Nat) : Prop := ∀ k, k < 9 → W.cell? ⟨B, k, none⟩ = some (.int .i64 (exC 0 k))
theorem exC_eq : exC 0 0 = 2 ∧ exC 0 1 = 5 ∧ exC 0 2 = 0 ∧ exC 0 3 = 1 ∧ exC 0 4 = 0 ∧ exC 0 5 = 3 ∧ exC 0 6 = 2 ∧ exC 0 7 = 100 ∧ exC 0 8 = 200 := by decide
theorem Ex.cables {w : World} {b1 b2 b3 : Nat} (h : Ex w b1 b2 b3) : Sl 9 w (.slice (some ⟨b3, 0, none⟩) 1 1) 1 exC := by
  obtain ⟨_, _, _, _, _, _, _, _, _, _, _, h0, h1, h2, h3, h4, h5, h6, h7, h8⟩ := h
  refine ⟨_, _, rfl, Nat.le_refl _, exC_bd, fun _ => ⟨b3, 0, rfl, fun i k hi hk => ?_⟩⟩
  obtain rfl : i = 0 := by omega
  match k, hk with
  | 0, _ | 1, _ | 2, _ | 3, _ | 4, _ | 5, _ | 6, _ | 7, _ | 8, _ => assumption
theorem exLive : lvL 150 exC 1 1 (Nat.le_refl _) = [⟨0, by omega⟩] := by decide
theorem keeps_below {B : Nat} {W W' : World} (h : Below W.heap.size W W') : KeepsFrom B W W' :=
  ⟨h.size, fun k o _ hk _ => (h.block k (Array.getElem?_eq_some_iff.1 hk).1).trans hk⟩

set_option maxRecDepth 100000 in
set_option maxHeartbeats 1600000 in
theorem Resolve_ex (b1 b2 b3 : Nat) (w : World) (h : Ex w b1 b2 b3) : Calls Tryz.prog 35 #[exV b1 b2 b3, .int .i64 150, .agg #[.int .i64 2, .int .i64 5], .int .i64 3] w fun e w' => e = .returned (.tuple #[.agg #[.int .i64 0, .int .i64 2, .int .i64 1], .int .i64 0]) ∧ Below w.heap.size w w' := by
  refine (callsIn_wide (n := 9)).1 ?_
  refine callsIn_of_wp_marks Tryz.func35 rfl trivial ?_ rfl
  simp only [Tryz.ntmps35, List.size_toArray, List.length_cons, List.length_nil, Nat.reduceAdd, Nat.reduceSub, Array.replicate_succ, Array.replicate_zero, List.push_toArray, List.append_toArray, List.nil_append, List.cons_append]
  have HE := Lib.hid h
  clear h
  gi_wp2_with fail
  refine ⟨trivial, callsIn_wide.2 ((isValid_ex b1 b2 b3 _ (HE.out.below (by repeat (first | exact Below.refl _ _ | exact Nat.le_refl _ | (apply Below.alloc) | (apply Below.drew) | (simp <;> omega))))).mono ?_)⟩
  rintro e w1 ⟨rfl, hB⟩
  have g3 := bc hB (b := w.heap.size) (o := 3) (v := .slice (some ⟨b3, 0, none⟩) 1 1) (by simp [go_sem])
  have t0 := bc hB (b := w.heap.size + 1) (o := 0) (v := .int .i64 2) (by simp [go_sem])
  have t1 := bc hB (b := w.heap.size + 1) (o := 1) (v := .int .i64 5) (by simp [go_sem])
  have a0 := bc hB (b := w.heap.size + 1 + 1) (o := 0) (v := .int .i64 3) (by simp [go_sem])
  have r0 := bc hB (b := w.heap.size + 1 + 1 + 1) (o := 0) (v := .int .i64 0) (by simp [go_sem])
  have r1 := bc hB (b := w.heap.size + 1 + 1 + 1) (o := 1) (v := .int .i64 0) (by simp [go_sem])
  have r2 := bc hB (b := w.heap.size + 1 + 1 + 1) (o := 2) (v := .int .i64 0) (by simp [go_sem])
  have s0 := bc hB (b := w.heap.size + 1 + 1 + 1 + 1) (o := 0) (v := .int .i64 0) (by simp [go_sem])
  have fr0 := bf hB (b := w.heap.size + 1 + 1 + 1) (o := 0) (v := .int .i64 0) (f := false) (by simp [go_sem]) (by simp [go_sem])
  have fr1 := bf hB (b := w.heap.size + 1 + 1 + 1) (o := 1) (v := .int .i64 0) (f := false) (by simp [go_sem]) (by simp [go_sem])
  have fr2 := bf hB (b := w.heap.size + 1 + 1 + 1) (o := 2) (v := .int .i64 0) (f := false) (by simp [go_sem]) (by simp [go_sem])
  have fs0 := bf hB (b := w.heap.size + 1 + 1 + 1 + 1) (o := 0) (v := .int .i64 0) (f := false) (by simp [go_sem]) (by simp [go_sem])
  have hz := hB.size
  simp only [World.size_alloc] at hz
  have z0 : w.heap.size < w1.heap.size := by omega
  have z1 : w.heap.size + 1 < w1.heap.size := by omega
  have z2 : w.heap.size + 1 + 1 < w1.heap.size := by omega
  have z3 : w.heap.size + 1 + 1 + 1 < w1.heap.size := by omega
  have z4 : w.heap.size + 1 + 1 + 1 + 1 < w1.heap.size := by omega
  have B1 : Hid (Below w.heap.size w w1) := Lib.hid (Below.up (u := w) (by repeat (first | exact Below.refl _ _ | exact Nat.le_refl _ | (apply Below.alloc) | (apply Below.drew) | (simp <;> omega))) hB)
  have E1 := Lib.hid (HE.out.below B1.out)
  clear hB HE
  gi_wp2_with fail
  refine ⟨trivial, callsIn_wide.2 ((live_any _ _ _ _ _).mono ?_)⟩
  rintro e w2 ⟨rfl, rfl⟩
  gi_wp2_with fail
  generalize hw2 : ((w1.alloc (.cells #[.slice (some ⟨b3, 0, none⟩) 1 1] 24)).alloc (.cells #[.int .i64 150] 3)) = w2 at *
  have L0 : w2.cell? ⟨w1.heap.size, 0, none⟩ = some (.slice (some ⟨b3, 0, none⟩) 1 1) := by rw [← hw2]; simp [go_sem]
  have L1 : w2.cell? ⟨w1.heap.size + 1, 0, none⟩ = some (.int .i64 150) := by rw [← hw2]; simp [go_sem]
  have HS2 : w2.heap.size = w1.heap.size + 2 := by rw [← hw2]; simp
  have B12 : Hid (Below w1.heap.size w1 w2) := Lib.hid (by rw [← hw2]; exact (by repeat (first | exact Below.refl _ _ | exact Nat.le_refl _ | (apply Below.alloc) | (apply Below.drew) | (simp <;> omega))))
  have E2 := Lib.hid (E1.out.below B12.out)
  clear hw2
  have HS := Lib.hid HS2
  clear HS2
  have X6 : Hid (w2.cell? ⟨w.heap.size + 1, 0, none⟩ = some (.int .i64 2) ∧ w2.cell? ⟨w.heap.size + 1, 1, none⟩ = some (.int .i64 5) ∧ w2.cell? ⟨w.heap.size + 1 + 1, 0, none⟩ = some (.int .i64 3)) := Lib.hid ⟨bc B12.out t0, bc B12.out t1, bc B12.out a0⟩
  have X8 : Hid (w2.cell? ⟨w.heap.size + 1 + 1 + 1, 0, none⟩ = some (.int .i64 0) ∧ w2.cell? ⟨w.heap.size + 1 + 1 + 1, 1, none⟩ = some (.int .i64 0) ∧ w2.cell? ⟨w.heap.size + 1 + 1 + 1, 2, none⟩ = some (.int .i64 0) ∧ w2.cell? ⟨w.heap.size + 1 + 1 + 1 + 1, 0, none⟩ = some (.int .i64 0)) := Lib.hid ⟨bc B12.out r0, bc B12.out r1, bc B12.out r2, bc B12.out s0⟩
  have X9 : Hid (w2.frozen? ⟨w.heap.size + 1 + 1 + 1, 0, none⟩ = false ∧ w2.frozen? ⟨w.heap.size + 1 + 1 + 1, 1, none⟩ = false ∧ w2.frozen? ⟨w.heap.size + 1 + 1 + 1, 2, none⟩ = false ∧ w2.frozen? ⟨w.heap.size + 1 + 1 + 1 + 1, 0, none⟩ = false) := Lib.hid ⟨bf B12.out r0 fr0, bf B12.out r1 fr1, bf B12.out r2 fr2, bf B12.out s0 fs0⟩
  clear g3 t0 t1 a0 r0 r1 r2 s0 fr0 fr1 fr2 fs0
  refine wpIn_rangeFunc_ownH (F := Fence.wide) (n := 9) (w := w2) rfl (by omega) (gf := 89) (lb := #[.pointer (some ⟨w1.heap.size, 0, none⟩), .pointer (some ⟨w1.heap.size + 1, 0, none⟩)]) rfl trivial (Go.Proofs.enters_of Tryz.func89 (by kernel_rfl) rfl)
    (live1_stops Fence.wide 8 trivial rfl (by omega) w1.heap.size (w1.heap.size + 1) 1 _ 150 exC w2 L0 L1 E2.out.cables (fun b off nn cap e => by cases e; exact E2.out.lt.2.2) (by omega)) belowK_t (belowK_b (Nat.le_refl _)) (Below.refl _ _) (fun _ => rfl)
    (fun pre W => pre = [] ∧ Below w2.heap.size w2 W)
    (fun c pre W => c = .ret ∧ (W.cell? ⟨w.heap.size + 1 + 1 + 1, 0, none⟩ = some (.int .i64 0) ∧ W.cell? ⟨w.heap.size + 1 + 1 + 1, 1, none⟩ = some (.int .i64 2) ∧ W.cell? ⟨w.heap.size + 1 + 1 + 1, 2, none⟩ = some (.int .i64 1) ∧ W.cell? ⟨w.heap.size + 1 + 1 + 1 + 1, 0, none⟩ = some (.int .i64 0)) ∧ Below w.heap.size w W)
    (OwnFrom.and (ownFrom_pure _ _) (ownFrom_below (Nat.le_refl _) (Nat.le_refl _)))
    (fun c => OwnFrom.and (ownFrom_pure _ _) (OwnFrom.and (fun s A B row hs hg hr => ⟨cell_kept hs.1 hg (fun r e => (hr r e).2), cell_kept hs.2.1 hg (fun r e => (hr r e).2), cell_kept hs.2.2.1 hg (fun r e => (hr r e).2), cell_kept hs.2.2.2 hg (fun r e => (hr r e).2)⟩) (ownFrom_below (Nat.le_refl _) (by have := B1.out.size; have := HS.out; omega))))
    ⟨rfl, Below.refl _ _⟩
    (fun x a' W => ∃ Bx : Nat, w2.heap.size ≤ Bx ∧ a' = { tmps := #[exV b1 b2 b3, .int .i64 150, .agg #[.int .i64 2, .int .i64 5], .int .i64 3, .pointer (some ⟨w.heap.size, 0, none⟩), undef, .pointer (some ⟨w.heap.size + 1, 0, none⟩), .pointer (some ⟨w.heap.size + 1 + 1, 0, none⟩), .pointer (some ⟨w.heap.size + 1 + 1 + 1, 0, none⟩), .pointer (some ⟨w.heap.size + 1 + 1 + 1 + 1, 0, none⟩), undef, .pointer (some ⟨Bx, 0, none⟩), exV b1 b2 b3, .bool true, .bool false, undef, .pointer (some ⟨w.heap.size, 3, none⟩), .slice (some ⟨b3, 0, none⟩) 1 1, .int .i64 150, .func (.func 89) #[] #[.pointer (some ⟨w1.heap.size, 0, none⟩), .pointer (some ⟨w1.heap.size + 1, 0, none⟩)], .int .i64 0, .agg #[.int .i64 2, .int .i64 5, .int .i64 0, .int .i64 1, .int .i64 0, .int .i64 3, .int .i64 2, .int .i64 100, .int .i64 200], undef, undef, undef, undef, undef, undef, undef, undef, undef, undef, undef, undef, undef, undef, undef, undef, undef, undef], defers := [] } ∧ Bx9 W Bx)
    (fun x a' => fun s A B row hs hg hr => by obtain ⟨Bx, h1, h2, h3⟩ := hs; exact ⟨Bx, h1, h2, fun k hk => cell_kept (h3 k hk) hg (fun r e => (hr r e).2)⟩)
    ?assign ?body ?done ?stop
  case assign =>
    rintro l pre ⟨i, hi⟩ W K ⟨rfl, hB⟩ hK
    obtain rfl : i = 0 := by omega
    obtain ⟨c0, c1, c2, c3, c4, c5, c6, c7, c8⟩ := exC_eq
    have HB := Lib.hid hB
    have HK := Lib.hid hK
    clear hB hK
    gi_wp2
    exact HK.out _ _ ((KeepsOthers.alloc _ _).from _) ((Below.refl _ _).alloc HB.out.size _) ⟨by trivial, HB.out.alloc HB.out.size _⟩ ⟨W.heap.size, HB.out.size, rfl, fun k hk => by
      match k, hk with
      | 0, _ | 1, _ | 2, _ | 3, _ | 4, _ | 5, _ | 6, _ | 7, _ | 8, _ => simp [go_sem, c0, c1, c2, c3, c4, c5, c6, c7, c8]⟩
  case body =>
    rintro l pre ⟨i, hi⟩ a' W hl hr ⟨rfl, hB⟩ ⟨Bx, hBx, rfl, h9⟩ _
    obtain rfl : i = 0 := by omega
    obtain ⟨e0, e1, e2, e3, e4, e5, e6, e7, e8⟩ := exC_eq
    have b0 := h9 0 (by omega)
    have b1' := h9 1 (by omega)
    have b2' := h9 2 (by omega)
    have b3' := h9 3 (by omega)
    have b4' := h9 4 (by omega)
    have b5' := h9 5 (by omega)
    have b6' := h9 6 (by omega)
    have b7' := h9 7 (by omega)
    have b8' := h9 8 (by omega)
    rw [e0] at b0
    rw [e1] at b1'
    rw [e2] at b2'
    rw [e3] at b3'
    rw [e4] at b4'
    rw [e5] at b5'
    rw [e6] at b6'
    rw [e7] at b7'
    rw [e8] at b8'
    obtain ⟨t0, t1, a0⟩ := X6.out
    obtain ⟨r0, r1, r2, s0⟩ := X8.out
    obtain ⟨fr0, fr1, fr2, fs0⟩ := X9.out
    have fr0 := bf hB r0 fr0
    have fr1 := bf hB r1 fr1
    have fr2 := bf hB r2 fr2
    have fs0 := bf hB s0 fs0
    have r0 := bc hB r0
    have r1 := bc hB r1
    have r2 := bc hB r2
    have s0 := bc hB s0
    have t0 := bc hB t0
    have t1 := bc hB t1
    have a0 := bc hB a0
    have lb := cell_lt b0
    have lt0 := cell_lt t0
    have HB := Lib.hid hB
    have hin : inB 3 0 5 = true := by decide
    have hne : ∀ W : World, (binOp .neq 62 (.agg #[.int .i64 2, .int .i64 5]) (.agg #[.int .i64 2, .int .i64 5])).run Tryz.prog W = .ok (.bool false) W := fun W => by kernel_rfl
    clear h9 hB e0 e1 e2 e3 e4 e5 e6 e7 e8 hr
    have hmix : Tryz.prog.follows .mixedOrders = true := by kernel_rfl
    gi_wp2_with fail
    gi_region_with_o ((refine ⟨trivial, ?_⟩; gi_at_call 65; refine (CallsIn.inRound l (callsIn_wide.2 (chipOf_any _ _ _ _ _ _ _ _ _ _))).mono ?_; rintro e w3 ⟨rfl, hB3⟩; have q0 := bc hB3 t0; have q1 := bc hB3 t1; have lq := cell_lt q0; have W3 := Lib.hid hB3; clear hB3))
    all_goals
      have W4 : Hid (Below W.heap.size W w3) := Lib.hid (Below.up (Below.drew (Below.refl W.heap.size W)) W3.out)
      have cc0 := bc W4.out b0
      have cc1 := bc W4.out b1'
      have cc2 := bc W4.out b2'
      have cc3 := bc W4.out b3'
      have cc4 := bc W4.out b4'
      have cc5 := bc W4.out b5'
      have cc6 := bc W4.out b6'
      have cc7 := bc W4.out b7'
      have cc8 := bc W4.out b8'
      have aa0 := bc W4.out a0
      have rr0 := bc W4.out r0
      have rr1 := bc W4.out r1
      have rr2 := bc W4.out r2
      have ss0 := bc W4.out s0
      have gr0 := bf W4.out r0 fr0
      have gr1 := bf W4.out r1 fr1
      have gr2 := bf W4.out r2 fr2
      have gs0 := bf W4.out s0 fs0
      clear b0 b1' b2' b3' b4' b5' b6' b7' b8' t0 t1 a0 r0 r1 r2 s0 fr0 fr1 fr2 fs0
      gi_wp2_with ((refine ⟨trivial, ?_⟩; gi_at_call 55; refine (CallsIn.inRound l (callsIn_wide.2 (within _ _ _ _))).mono ?_; rintro e w' ⟨rfl, rfl⟩))
      refine ⟨trivial, (CallsIn.inRound l (callsIn_wide.2 (cellAt_ex _))).mono ?_⟩
      rintro e w5 ⟨rfl, hB5⟩
      have xr0 := bc hB5 rr0
      have xr1 := bc hB5 rr1
      have xr2 := bc hB5 rr2
      have xs0 := bc hB5 ss0
      have yr0 := bf hB5 rr0 gr0
      have yr1 := bf hB5 rr1 gr1
      have yr2 := bf hB5 rr2 gr2
      have ys0 := bf hB5 ss0 gs0
      have W6 : Hid (Below W.heap.size W w5) := Lib.hid (Below.up W4.out hB5)
      clear hB5
      gi_wp2_with fail
      refine ⟨(keeps_below W6.out).trans (((((KeepsOthers.setCell _ _ _).trans (KeepsOthers.setCell _ _ _)).trans (KeepsOthers.setCell _ _ _)).trans (KeepsOthers.setCell _ _ _)).from _), rfl, ⟨?_, ?_, ?_, ?_⟩, ?_⟩
      · simp [go_sem, xr0, xr1, xr2, xs0]
      · simp [go_sem, xr0, xr1, xr2, xs0]
      · simp [go_sem, xr0, xr1, xr2, xs0]
      · simp [go_sem, xr0, xr1, xr2, xs0]
      · exact ((((Below.up (Below.up (Below.up B1.out B12.out) HB.out) W6.out).setCell (p := ⟨w.heap.size + 1 + 1 + 1, 0, none⟩) (by show w.heap.size ≤ w.heap.size + 1 + 1 + 1; omega) _).setCell (p := ⟨w.heap.size + 1 + 1 + 1, 1, none⟩) (by show w.heap.size ≤ w.heap.size + 1 + 1 + 1; omega) _).setCell (p := ⟨w.heap.size + 1 + 1 + 1, 2, none⟩) (by show w.heap.size ≤ w.heap.size + 1 + 1 + 1; omega) _).setCell (p := ⟨w.heap.size + 1 + 1 + 1 + 1, 0, none⟩) (by show w.heap.size ≤ w.heap.size + 1 + 1 + 1 + 1; omega) _
  case done =>
    rintro D xs W hD rfl ⟨h, _⟩ hK
    rw [exLive] at h
    cases h
  case stop =>
    rintro D c pre W hD _ ⟨rfl, ⟨k0, k1, k2, k3⟩, hB⟩ hK
    gi_wp2
    refine leaves_marks (B := w.heap.size) [D] W (Marks.nil.cons (by have := B1.out.size; have := HS.out; omega) hK (by simp)) fun w' hL => ⟨.tuple #[.agg #[.int .i64 0, .int .i64 2, .int .i64 1], .int .i64 0], ?_, rfl, hB.trans hL.2⟩
    simp [results, Tryz.results35, go_sem, hL.1, k0, k1, k2, k3]
end Go.Proofs.YteoahbpfhfjfmaaGreatDoor
