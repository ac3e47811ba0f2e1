/- Layer 4: contracts of builders; Check. -/
import Derived.Test.YtlegacllbohbmaaDoorCbP
set_option linter.unusedVariables false
set_option linter.unusedSimpArgs false
namespace Go.Proofs.YtlegacllbohbmaaDoor
open Go.RowKit Go.Shelf
attribute [local go_sem ↓] Go.wp_at_zero Go.wp_at_succ

theorem itoa_any (n : Int) (h0 : -9223372036854775808 ≤ n) (h1 : n ≤ 9223372036854775807) (w : World) (htab : Lib.TabIs Tryd.prog w "internal/strconv.uint64pow10" .u64 Lib.pow10Tab) :
    Calls Tryd.prog 36 #[.int .i64 n] w fun e w' => e = .returned (.string ⟨(Lib.itoa n).toArray⟩) ∧ Below w.heap.size w w' := by
  have h := Any.strconv_Itoa laysM171 n h0 h1 w htab
  rw [show laysM171_ren.f 171 = 36 by kernel_rfl] at h
  refine h.mono fun e w' ⟨he, k, os, hw⟩ => ⟨he, ?_⟩
  rw [hw]
  exact Lib.below_grow _ w (Nat.le_refl _) k os
/-- A builder of the call's own, with these bytes. -/
abbrev Bu (B b : Nat) (l : List UInt8) (w : World) : Prop := Lib.IsBuilderF 80 5 B b (Lib.byteCells l) w
theorem ba_old {T e : TypeId} {B b : Nat} {p : Value} {bs : List Value} {w w' : World} (h : Lib.BuilderAtF T e B b p bs w) (k : Below w.heap.size w w') : Lib.BuilderAtF T e B b p bs w' := by
  have hl := h.lt
  obtain ⟨hB, v, hb, hown, hne⟩ := h
  refine ⟨hB, v, (k.block b hl).trans hb, ⟨hown.1, ?_⟩, hne⟩
  rcases hown.2 with hn | ⟨g, cap, cur, fz, hv, hbg, hg, rest⟩
  · exact .inl hn
  · exact .inr ⟨g, cap, cur, fz, hv, hbg, (k.block g (Array.getElem?_eq_some_iff.1 hg).1).trans hg, rest⟩
theorem Bu.old {B b : Nat} {l : List UInt8} {w w' : World} (h : Bu B b l w) (k : Below w.heap.size w w') : Bu B b l w' :=
  h.elim (fun x => .inl (ba_old x k)) (fun x => .inr (ba_old x k))
theorem kept_below {e : TypeId} {b : Option Nat} {w w' : World} (h : Below w.heap.size w w') : Lib.OthersKept e b w w' :=
  fun k o hk _ _ => (h.block k (Array.getElem?_eq_some_iff.1 hk).1).trans hk
theorem write_any (B b : Nat) (l : List UInt8) (s : ByteArray) (w : World) (h : Bu B b l w) (hl : l.length + s.size ≤ 1000000) (hB : B ≤ w.heap.size) :
    Calls Tryd.prog 34 #[.pointer (some ⟨b, 0, none⟩), .string s] w fun e w' => e = .returned (.tuple #[.int .i64 s.size, .nilIface]) ∧ Bu B b (l ++ s.data.toList) w' ∧ Below B w w' ∧ Lib.OthersKept 5 (some b) w w' := by
  have h := Any.Builder_WriteString_k lays166 lays166_extra B b (Lib.byteCells l) s w h (by simp [Lib.byteCells]; omega) hB
  rw [show lays166_ren.f 166 = 34 by kernel_rfl] at h
  refine h.mono fun e w' ⟨he, h1, h2, h3⟩ => ⟨he, ?_, h2, h3⟩
  have e1 : Lib.byteCells (l ++ s.data.toList) = Lib.byteCells l ++ Lib.strCells s := by simp [Lib.byteCells, Lib.strCells]
  rw [Bu, e1]
  exact .inr h1
theorem string_any (B b : Nat) (l : List UInt8) (w : World) (h : Bu B b l w) (hB : B ≤ w.heap.size) :
    Calls Tryd.prog 37 #[.pointer (some ⟨b, 0, none⟩)] w fun e w' => e = .returned (.string ⟨l.toArray⟩) ∧ Below B w w' := by
  have h := Any.Builder_String_any_k lays169 lays169_extra B b l w h hB
  rw [show lays169_ren.f 169 = 37 by kernel_rfl] at h
  exact h.mono fun e w' ⟨he, _, h2, _⟩ => ⟨he, h2⟩

theorem is0 (a0 : Option Addr) (n0 c0 : Nat) (a1 : Option Addr) (n1 c1 : Nat) (a2 : Option Addr) (n2 c2 : Nat) (a3 : Option Addr) (n3 c3 : Nat) (a4 : Option Addr) (n4 c4 : Nat) (a5 : Option Addr) (n5 c5 : Nat) (a6 : Option Addr) (n6 c6 : Nat) (w : World) : (Instr.index 41 (.agg #[.slice a0 n0 c0, .slice a1 n1 c1, .slice a2 n2 c2, .slice a3 n3 c3, .slice a4 n4 c4, .slice a5 n5 c5, .slice a6 n6 c6]) (.int .i64 0)).run Tryd.prog w = .ok (.slice a0 n0 c0) w := by kernel_rfl
theorem is1 (a0 : Option Addr) (n0 c0 : Nat) (a1 : Option Addr) (n1 c1 : Nat) (a2 : Option Addr) (n2 c2 : Nat) (a3 : Option Addr) (n3 c3 : Nat) (a4 : Option Addr) (n4 c4 : Nat) (a5 : Option Addr) (n5 c5 : Nat) (a6 : Option Addr) (n6 c6 : Nat) (w : World) : (Instr.index 41 (.agg #[.slice a0 n0 c0, .slice a1 n1 c1, .slice a2 n2 c2, .slice a3 n3 c3, .slice a4 n4 c4, .slice a5 n5 c5, .slice a6 n6 c6]) (.int .i64 1)).run Tryd.prog w = .ok (.slice a1 n1 c1) w := by kernel_rfl
theorem is2 (a0 : Option Addr) (n0 c0 : Nat) (a1 : Option Addr) (n1 c1 : Nat) (a2 : Option Addr) (n2 c2 : Nat) (a3 : Option Addr) (n3 c3 : Nat) (a4 : Option Addr) (n4 c4 : Nat) (a5 : Option Addr) (n5 c5 : Nat) (a6 : Option Addr) (n6 c6 : Nat) (w : World) : (Instr.index 41 (.agg #[.slice a0 n0 c0, .slice a1 n1 c1, .slice a2 n2 c2, .slice a3 n3 c3, .slice a4 n4 c4, .slice a5 n5 c5, .slice a6 n6 c6]) (.int .i64 2)).run Tryd.prog w = .ok (.slice a2 n2 c2) w := by kernel_rfl
theorem is3 (a0 : Option Addr) (n0 c0 : Nat) (a1 : Option Addr) (n1 c1 : Nat) (a2 : Option Addr) (n2 c2 : Nat) (a3 : Option Addr) (n3 c3 : Nat) (a4 : Option Addr) (n4 c4 : Nat) (a5 : Option Addr) (n5 c5 : Nat) (a6 : Option Addr) (n6 c6 : Nat) (w : World) : (Instr.index 41 (.agg #[.slice a0 n0 c0, .slice a1 n1 c1, .slice a2 n2 c2, .slice a3 n3 c3, .slice a4 n4 c4, .slice a5 n5 c5, .slice a6 n6 c6]) (.int .i64 3)).run Tryd.prog w = .ok (.slice a3 n3 c3) w := by kernel_rfl
theorem is4 (a0 : Option Addr) (n0 c0 : Nat) (a1 : Option Addr) (n1 c1 : Nat) (a2 : Option Addr) (n2 c2 : Nat) (a3 : Option Addr) (n3 c3 : Nat) (a4 : Option Addr) (n4 c4 : Nat) (a5 : Option Addr) (n5 c5 : Nat) (a6 : Option Addr) (n6 c6 : Nat) (w : World) : (Instr.index 41 (.agg #[.slice a0 n0 c0, .slice a1 n1 c1, .slice a2 n2 c2, .slice a3 n3 c3, .slice a4 n4 c4, .slice a5 n5 c5, .slice a6 n6 c6]) (.int .i64 4)).run Tryd.prog w = .ok (.slice a4 n4 c4) w := by kernel_rfl
theorem is5 (a0 : Option Addr) (n0 c0 : Nat) (a1 : Option Addr) (n1 c1 : Nat) (a2 : Option Addr) (n2 c2 : Nat) (a3 : Option Addr) (n3 c3 : Nat) (a4 : Option Addr) (n4 c4 : Nat) (a5 : Option Addr) (n5 c5 : Nat) (a6 : Option Addr) (n6 c6 : Nat) (w : World) : (Instr.index 41 (.agg #[.slice a0 n0 c0, .slice a1 n1 c1, .slice a2 n2 c2, .slice a3 n3 c3, .slice a4 n4 c4, .slice a5 n5 c5, .slice a6 n6 c6]) (.int .i64 5)).run Tryd.prog w = .ok (.slice a5 n5 c5) w := by kernel_rfl
theorem is6 (a0 : Option Addr) (n0 c0 : Nat) (a1 : Option Addr) (n1 c1 : Nat) (a2 : Option Addr) (n2 c2 : Nat) (a3 : Option Addr) (n3 c3 : Nat) (a4 : Option Addr) (n4 c4 : Nat) (a5 : Option Addr) (n5 c5 : Nat) (a6 : Option Addr) (n6 c6 : Nat) (w : World) : (Instr.index 41 (.agg #[.slice a0 n0 c0, .slice a1 n1 c1, .slice a2 n2 c2, .slice a3 n3 c3, .slice a4 n4 c4, .slice a5 n5 c5, .slice a6 n6 c6]) (.int .i64 6)).run Tryd.prog w = .ok (.slice a6 n6 c6) w := by kernel_rfl
attribute [local go_sem] is0 is1 is2 is3 is4 is5 is6

set_option maxRecDepth 100000 in
set_option maxHeartbeats 3200000 in
theorem Check_yes (s : ByteArray) (T : Int) (ls : Nat → Ents) (u0 u1 u2 u3 u4 u5 u6 : Value) (w : World) (hn : ∀ W, Calls Tryd.prog 27 #[.string s] W fun e w' => e = .returned (.bool true) ∧ Below W.heap.size W w') (hT : inB T 0 1099511627776 = true)
    (hl : ∀ k, k < 7 → listB (ls k) = true) (h : EntS w u0 (ls 0) ∧ EntS w u1 (ls 1) ∧ EntS w u2 (ls 2) ∧ EntS w u3 (ls 3) ∧ EntS w u4 (ls 4) ∧ EntS w u5 (ls 5) ∧ EntS w u6 (ls 6)) :
    Calls Tryd.prog 33 #[.agg #[.string s, .int .i64 T, u0, u1, u2, u3, u4, u5, u6]] w fun e w' => e = .returned (.bool true) ∧ Below w.heap.size w w' := by
  obtain ⟨h0, h1, h2, h3, h4, h5, h6⟩ := h
  obtain ⟨a0, n0, c0, rfl⟩ := h0.form
  obtain ⟨a1, n1, c1, rfl⟩ := h1.form
  obtain ⟨a2, n2, c2, rfl⟩ := h2.form
  obtain ⟨a3, n3, c3, rfl⟩ := h3.form
  obtain ⟨a4, n4, c4, rfl⟩ := h4.form
  obtain ⟨a5, n5, c5, rfl⟩ := h5.form
  obtain ⟨a6, n6, c6, rfl⟩ := h6.form
  have b0 : Below w.heap.size w (w.alloc (.cells #[.string s, .int .i64 T, .slice a0 n0 c0, .slice a1 n1 c1, .slice a2 n2 c2, .slice a3 n3 c3, .slice a4 n4 c4, .slice a5 n5 c5, .slice a6 n6 c6] 43)) := (Below.refl _ _).alloc (Nat.le_refl _) _
  have X0 : Hid (RF (w.alloc (.cells #[.string s, .int .i64 T, .slice a0 n0 c0, .slice a1 n1 c1, .slice a2 n2 c2, .slice a3 n3 c3, .slice a4 n4 c4, .slice a5 n5 c5, .slice a6 n6 c6] 43)) w.heap.size 43 9 (fun i => ((#[.string s, .int .i64 T, .slice a0 n0 c0, .slice a1 n1 c1, .slice a2 n2 c2, .slice a3 n3 c3, .slice a4 n4 c4, .slice a5 n5 c5, .slice a6 n6 c6] : Array Value)[i]?).getD default)) := Lib.hid (RF_new w _ _ 9 _ rfl (fun i hi => by rw [Array.getElem?_eq_getElem hi]; rfl))
  have B0 := Lib.hid b0
  have HN := Lib.hid hn
  have HT := Lib.hid hT
  have HL := Lib.hid hl
  have E0 := Lib.hid (h0.below b0)
  have E1 := Lib.hid (h1.below b0)
  have E2 := Lib.hid (h2.below b0)
  have E3 := Lib.hid (h3.below b0)
  have E4 := Lib.hid (h4.below b0)
  have E5 := Lib.hid (h5.below b0)
  have E6 := Lib.hid (h6.below b0)
  clear b0 hn hT hl h0 h1 h2 h3 h4 h5 h6
  go_enter Tryd.func33, Tryd.ntmps33
  go_wp2_with fail
  generalize (w.alloc (.cells #[.string s, .int .i64 T, .slice a0 n0 c0, .slice a1 n1 c1, .slice a2 n2 c2, .slice a3 n3 c3, .slice a4 n4 c4, .slice a5 n5 c5, .slice a6 n6 c6] 43)) = W0 at *
  refine (HN.out _).mono ?_
  rintro e w1 ⟨rfl, b1⟩
  have B1 := Lib.hid (Below.up B0.out b1)
  have X1 := Lib.hid (X0.out.below b1)
  have F0 := Lib.hid (E0.out.below b1)
  have F1 := Lib.hid (E1.out.below b1)
  have F2 := Lib.hid (E2.out.below b1)
  have F3 := Lib.hid (E3.out.below b1)
  have F4 := Lib.hid (E4.out.below b1)
  have F5 := Lib.hid (E5.out.below b1)
  have F6 := Lib.hid (E6.out.below b1)
  clear b1 X0 B0 HN E0 E1 E2 E3 E4 E5 E6
  have q0 : w1.cell? ⟨w.heap.size, 0, none⟩ = some (.string s) := X1.out.cell (i := 0) (by omega)
  have q1 : w1.cell? ⟨w.heap.size, 1, none⟩ = some (.int .i64 T) := X1.out.cell (i := 1) (by omega)
  have q2 : w1.cell? ⟨w.heap.size, 2, none⟩ = some (.slice a0 n0 c0) := X1.out.cell (i := 2) (by omega)
  have q3 : w1.cell? ⟨w.heap.size, 3, none⟩ = some (.slice a1 n1 c1) := X1.out.cell (i := 3) (by omega)
  have q4 : w1.cell? ⟨w.heap.size, 4, none⟩ = some (.slice a2 n2 c2) := X1.out.cell (i := 4) (by omega)
  have q5 : w1.cell? ⟨w.heap.size, 5, none⟩ = some (.slice a3 n3 c3) := X1.out.cell (i := 5) (by omega)
  have q6 : w1.cell? ⟨w.heap.size, 6, none⟩ = some (.slice a4 n4 c4) := X1.out.cell (i := 6) (by omega)
  have q7 : w1.cell? ⟨w.heap.size, 7, none⟩ = some (.slice a5 n5 c5) := X1.out.cell (i := 7) (by omega)
  have q8 : w1.cell? ⟨w.heap.size, 8, none⟩ = some (.slice a6 n6 c6) := X1.out.cell (i := 8) (by omega)
  go_wp2_with fail
  refine (isTime_any _ _).mono ?_
  rw [HT.out]
  rintro e w' ⟨rfl, rfl⟩
  go_wp2_with fail
  clear q0 q1 q2 q3 q4 q5 q6 q7 q8
  refine wp_loop_rounds 8 ?_
  rw [rounds_succ]
  go_wp2_with fail
  refine (isList_any _ (ls 0) _ F0.out.en).mono ?_
  rw [HL.out 0 (by omega)]
  rintro e y0 ⟨rfl, b1⟩
  have B2 := Lib.hid (Below.up B1.out b1)
  have G1 := Lib.hid (F1.out.below b1)
  have G2 := Lib.hid (F2.out.below b1)
  have G3 := Lib.hid (F3.out.below b1)
  have G4 := Lib.hid (F4.out.below b1)
  have G5 := Lib.hid (F5.out.below b1)
  have G6 := Lib.hid (F6.out.below b1)
  clear b1 F0 F1 F2 F3 F4 F5 F6
  have F1 := G1
  have F2 := G2
  have F3 := G3
  have F4 := G4
  have F5 := G5
  have F6 := G6
  clear G1 G2 G3 G4 G5 G6
  go_wp2_with fail
  rw [rounds_succ]
  go_wp2_with fail
  refine (isList_any _ (ls 1) _ F1.out.en).mono ?_
  rw [HL.out 1 (by omega)]
  rintro e y1 ⟨rfl, b1⟩
  have B3 := Lib.hid (Below.up B2.out b1)
  have G2 := Lib.hid (F2.out.below b1)
  have G3 := Lib.hid (F3.out.below b1)
  have G4 := Lib.hid (F4.out.below b1)
  have G5 := Lib.hid (F5.out.below b1)
  have G6 := Lib.hid (F6.out.below b1)
  clear b1 F1 F2 F3 F4 F5 F6
  have F2 := G2
  have F3 := G3
  have F4 := G4
  have F5 := G5
  have F6 := G6
  clear G2 G3 G4 G5 G6
  go_wp2_with fail
  rw [rounds_succ]
  go_wp2_with fail
  refine (isList_any _ (ls 2) _ F2.out.en).mono ?_
  rw [HL.out 2 (by omega)]
  rintro e y2 ⟨rfl, b1⟩
  have B4 := Lib.hid (Below.up B3.out b1)
  have G3 := Lib.hid (F3.out.below b1)
  have G4 := Lib.hid (F4.out.below b1)
  have G5 := Lib.hid (F5.out.below b1)
  have G6 := Lib.hid (F6.out.below b1)
  clear b1 F2 F3 F4 F5 F6
  have F3 := G3
  have F4 := G4
  have F5 := G5
  have F6 := G6
  clear G3 G4 G5 G6
  go_wp2_with fail
  rw [rounds_succ]
  go_wp2_with fail
  refine (isList_any _ (ls 3) _ F3.out.en).mono ?_
  rw [HL.out 3 (by omega)]
  rintro e y3 ⟨rfl, b1⟩
  have B5 := Lib.hid (Below.up B4.out b1)
  have G4 := Lib.hid (F4.out.below b1)
  have G5 := Lib.hid (F5.out.below b1)
  have G6 := Lib.hid (F6.out.below b1)
  clear b1 F3 F4 F5 F6
  have F4 := G4
  have F5 := G5
  have F6 := G6
  clear G4 G5 G6
  go_wp2_with fail
  rw [rounds_succ]
  go_wp2_with fail
  refine (isList_any _ (ls 4) _ F4.out.en).mono ?_
  rw [HL.out 4 (by omega)]
  rintro e y4 ⟨rfl, b1⟩
  have B6 := Lib.hid (Below.up B5.out b1)
  have G5 := Lib.hid (F5.out.below b1)
  have G6 := Lib.hid (F6.out.below b1)
  clear b1 F4 F5 F6
  have F5 := G5
  have F6 := G6
  clear G5 G6
  go_wp2_with fail
  rw [rounds_succ]
  go_wp2_with fail
  refine (isList_any _ (ls 5) _ F5.out.en).mono ?_
  rw [HL.out 5 (by omega)]
  rintro e y5 ⟨rfl, b1⟩
  have B7 := Lib.hid (Below.up B6.out b1)
  have G6 := Lib.hid (F6.out.below b1)
  clear b1 F5 F6
  have F6 := G6
  clear G6
  go_wp2_with fail
  rw [rounds_succ]
  go_wp2_with fail
  refine (isList_any _ (ls 6) _ F6.out.en).mono ?_
  rw [HL.out 6 (by omega)]
  rintro e y6 ⟨rfl, b1⟩
  have B8 := Lib.hid (Below.up B7.out b1)
  clear b1 F6
  go_wp2_with fail
  rw [rounds_succ]
  go_wp2_with fail
  go_ret
  exact ⟨rfl, B8.out⟩
end Go.Proofs.YtlegacllbohbmaaDoor
