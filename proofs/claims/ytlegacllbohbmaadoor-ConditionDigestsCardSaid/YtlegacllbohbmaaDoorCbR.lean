/- Layer 4: Print. -/
import Derived.Deep.RegionLaw
import Derived.Deep.DrawnRows
import Derived.Test.YtlegacllbohbmaaDoorCbQ
set_option linter.unusedVariables false
set_option linter.unusedSimpArgs false
namespace Go.Proofs.YtlegacllbohbmaaDoor
open Go.RowKit Go.Shelf
attribute [local go_sem ↓] Go.wp_at_zero Go.wp_at_succ

def headT (s : ByteArray) (T : Int) : List UInt8 := (([115, 110, 97, 112, 115, 104, 111, 116, 32] ++ s.data.toList) ++ numsL (nth [T]) 1) ++ [10]
def lineT (k : Nat) (x : Int × Int) : List UInt8 := (Lib.itoa (k : Int) ++ numsL (nth [x.1, x.2]) 2) ++ [10]
def linesT (k : Nat) (l : Ents) : List UInt8 := l.flatMap (lineT k)
def kindsT (ls : Nat → Ents) : Nat → List UInt8
  | 0 => []
  | k + 1 => kindsT ls k ++ linesT k (ls k)
def printT (s : ByteArray) (T : Int) (ls : Nat → Ents) : List UInt8 := (headT s T ++ kindsT ls 7) ++ [101, 110, 100, 10]
def InI (x : Int × Int) : Prop := (-9223372036854775808 ≤ x.1 ∧ x.1 ≤ 9223372036854775807) ∧ (-9223372036854775808 ≤ x.2 ∧ x.2 ≤ 9223372036854775807)
theorem nth_two_in {p q : Int} (h : InI (p, q)) : ∀ j, j < 2 → -9223372036854775808 ≤ nth [p, q] j ∧ nth [p, q] j ≤ 9223372036854775807 := fun j hj => by
  match j, hj with
  | 0, _ => exact h.1
  | 1, _ => exact h.2
theorem lineT_len (k : Nat) (hk : k < 7) (x : Int × Int) (h : InI x) : (lineT k x).length ≤ 70 := by
  have h1 := numsL_len (nth [x.1, x.2]) 2 (nth_two_in h)
  have h2 := Lib.itoa_length_le (k : Int) (by omega) (by omega)
  simp only [lineT, List.length_append, List.length_cons, List.length_nil]
  omega
theorem linesT_len (k : Nat) (hk : k < 7) : ∀ (l : Ents), (∀ x ∈ l, InI x) → (linesT k l).length ≤ 70 * l.length
  | [], _ => by simp [linesT]
  | x :: l, h => by
    have h1 := lineT_len k hk x (h x (by simp))
    have h2 := linesT_len k hk l (fun y hy => h y (by simp [hy]))
    simp only [linesT, List.flatMap_cons, List.length_append, List.length_cons] at h2 ⊢
    omega
theorem linesT_take (k : Nat) (l : Ents) (j : Nat) (h : j < l.length) : linesT k (l.take (j + 1)) = linesT k (l.take j) ++ lineT k l[j] := by
  rw [List.take_succ_eq_append_getElem h]
  unfold linesT
  rw [List.flatMap_append]
  simp
theorem kindsT_len (ls : Nat → Ents) : ∀ k, k ≤ 7 → (∀ j, j < 7 → (ls j).length ≤ 256 ∧ ∀ x ∈ ls j, InI x) → (kindsT ls k).length ≤ 17920 * k
  | 0, _, _ => by simp [kindsT]
  | k + 1, hk, h => by
    have h1 := kindsT_len ls k (by omega) h
    have h2 := linesT_len k (by omega) (ls k) (h k (by omega)).2
    have h3 := (h k (by omega)).1
    simp only [kindsT, List.length_append]
    omega
theorem nums_two (w : World) (p q : Int) (h : InI (p, q)) : NumS (w.alloc (.cells #[.int .i64 p, .int .i64 q] 3)) (.slice (some ⟨w.heap.size, 0, none⟩) 2 2) 2 (nth [p, q]) :=
  nums_lit w [p, q] (fun y hy => by
    simp at hy
    rcases hy with rfl | rfl
    · exact h.1
    · exact h.2)
theorem listB_len {l : Ents} (h : listB l = true) : l.length ≤ 256 := by
  unfold listB at h
  simp at h
  exact h.1
theorem EntS.ini {W : World} {v : Value} {l : Ents} (h : EntS W v l) : ∀ x ∈ l, InI x := by
  obtain ⟨_, _, _, _, hb, _⟩ := h
  exact hb
theorem pick7 {P : Nat → Prop} (h0 : P 0) (h1 : P 1) (h2 : P 2) (h3 : P 3) (h4 : P 4) (h5 : P 5) (h6 : P 6) : ∀ k, k < 7 → P k := fun k hk => by
  match k, hk with
  | 0, _ => exact h0
  | 1, _ => exact h1
  | 2, _ => exact h2
  | 3, _ => exact h3
  | 4, _ => exact h4
  | 5, _ => exact h5
  | 6, _ => exact h6

set_option maxRecDepth 100000 in
set_option maxHeartbeats 3200000 in
theorem Print_any (s : ByteArray) (T : Int) (ls : Nat → Ents) (u0 u1 u2 u3 u4 u5 u6 : Value) (w : World) (hs : s.size ≤ 1000) (hn : ∀ W, Calls Tryd.prog 27 #[.string s] W fun e w' => e = .returned (.bool true) ∧ Below W.heap.size W w') (hT : inB T 0 1099511627776 = true)
    (hl : ∀ k, k < 7 → listB (ls k) = true) (h : EntS w u0 (ls 0) ∧ EntS w u1 (ls 1) ∧ EntS w u2 (ls 2) ∧ EntS w u3 (ls 3) ∧ EntS w u4 (ls 4) ∧ EntS w u5 (ls 5) ∧ EntS w u6 (ls 6)) (hp : Pow w.heap.size w) :
    Calls Tryd.prog 15 #[.agg #[.string s, .int .i64 T, u0, u1, u2, u3, u4, u5, u6]] w fun e w' => e = .returned (.string ⟨(printT s T ls).toArray⟩) ∧ Below w.heap.size w w' := by
  obtain ⟨h0, h1, h2, h3, h4, h5, h6⟩ := h
  obtain ⟨a0, n0, c0, rfl⟩ := h0.form
  obtain ⟨a1, n1, c1, rfl⟩ := h1.form
  obtain ⟨a2, n2, c2, rfl⟩ := h2.form
  obtain ⟨a3, n3, c3, rfl⟩ := h3.form
  obtain ⟨a4, n4, c4, rfl⟩ := h4.form
  obtain ⟨a5, n5, c5, rfl⟩ := h5.form
  obtain ⟨a6, n6, c6, rfl⟩ := h6.form
  have hix : ∀ k, k < 7 → ∃ a n c, (∀ W : World, (Instr.index 41 (.agg #[.slice a0 n0 c0, .slice a1 n1 c1, .slice a2 n2 c2, .slice a3 n3 c3, .slice a4 n4 c4, .slice a5 n5 c5, .slice a6 n6 c6]) (.int .i64 (k : Nat))).run Tryd.prog W = .ok (.slice a n c) W) ∧ EntS w (.slice a n c) (ls k) :=
    pick7 ⟨a0, n0, c0, fun W => is0 a0 n0 c0 a1 n1 c1 a2 n2 c2 a3 n3 c3 a4 n4 c4 a5 n5 c5 a6 n6 c6 W, h0⟩ ⟨a1, n1, c1, fun W => is1 a0 n0 c0 a1 n1 c1 a2 n2 c2 a3 n3 c3 a4 n4 c4 a5 n5 c5 a6 n6 c6 W, h1⟩ ⟨a2, n2, c2, fun W => is2 a0 n0 c0 a1 n1 c1 a2 n2 c2 a3 n3 c3 a4 n4 c4 a5 n5 c5 a6 n6 c6 W, h2⟩ ⟨a3, n3, c3, fun W => is3 a0 n0 c0 a1 n1 c1 a2 n2 c2 a3 n3 c3 a4 n4 c4 a5 n5 c5 a6 n6 c6 W, h3⟩ ⟨a4, n4, c4, fun W => is4 a0 n0 c0 a1 n1 c1 a2 n2 c2 a3 n3 c3 a4 n4 c4 a5 n5 c5 a6 n6 c6 W, h4⟩ ⟨a5, n5, c5, fun W => is5 a0 n0 c0 a1 n1 c1 a2 n2 c2 a3 n3 c3 a4 n4 c4 a5 n5 c5 a6 n6 c6 W, h5⟩ ⟨a6, n6, c6, fun W => is6 a0 n0 c0 a1 n1 c1 a2 n2 c2 a3 n3 c3 a4 n4 c4 a5 n5 c5 a6 n6 c6 W, h6⟩
  have hin : ∀ j, j < 7 → (ls j).length ≤ 256 ∧ ∀ x ∈ ls j, InI x := fun j hj => ⟨listB_len (hl j hj), by obtain ⟨a, n, c, _, hh⟩ := hix j hj; exact hh.ini⟩
  have b0 : Below w.heap.size w (w.alloc (.cells #[.string s, .int .i64 T, .slice a0 n0 c0, .slice a1 n1 c1, .slice a2 n2 c2, .slice a3 n3 c3, .slice a4 n4 c4, .slice a5 n5 c5, .slice a6 n6 c6] 43)) := (Below.refl _ _).alloc (Nat.le_refl _) _
  have X0 : Hid (RF (w.alloc (.cells #[.string s, .int .i64 T, .slice a0 n0 c0, .slice a1 n1 c1, .slice a2 n2 c2, .slice a3 n3 c3, .slice a4 n4 c4, .slice a5 n5 c5, .slice a6 n6 c6] 43)) w.heap.size 43 9 (fun i => ((#[.string s, .int .i64 T, .slice a0 n0 c0, .slice a1 n1 c1, .slice a2 n2 c2, .slice a3 n3 c3, .slice a4 n4 c4, .slice a5 n5 c5, .slice a6 n6 c6] : Array Value)[i]?).getD default)) := Lib.hid (RF_new w _ _ 9 _ rfl (fun i hi => by rw [Array.getElem?_eq_getElem hi]; rfl))
  have B0 := Lib.hid b0
  have HC := Lib.hid (Check_yes s T ls (.slice a0 n0 c0) (.slice a1 n1 c1) (.slice a2 n2 c2) (.slice a3 n3 c3) (.slice a4 n4 c4) (.slice a5 n5 c5) (.slice a6 n6 c6) (w.alloc (.cells #[.string s, .int .i64 T, .slice a0 n0 c0, .slice a1 n1 c1, .slice a2 n2 c2, .slice a3 n3 c3, .slice a4 n4 c4, .slice a5 n5 c5, .slice a6 n6 c6] 43)) hn hT hl ⟨h0.below b0, h1.below b0, h2.below b0, h3.below b0, h4.below b0, h5.below b0, h6.below b0⟩)
  have HIX := Lib.hid hix
  have HIN := Lib.hid hin
  have HP := Lib.hid hp
  obtain ⟨T0, T1⟩ := inB_true.1 hT
  clear b0 hn hT hl h0 h1 h2 h3 h4 h5 h6 hix hin hp
  go_enter Tryd.func15, Tryd.ntmps15
  go_wp2_with fail
  refine HC.out.mono ?_
  rintro e w1 ⟨rfl, b1⟩
  have B1 := Lib.hid (Below.up B0.out b1)
  have X1 := Lib.hid (X0.out.below b1)
  clear b1 X0 B0 HC
  have b2 : Below w1.heap.size w1 (w1.alloc (.cells #[.pointer none, .slice none 0 0] 80)) := (Below.refl _ _).alloc (Nat.le_refl _) _
  have U2 : Hid (Bu w1.heap.size w1.heap.size [] (w1.alloc (.cells #[.pointer none, .slice none 0 0] 80))) := Lib.hid (Lib.IsBuilderF.of (Lib.fresh_isBuilder _ _ w1))
  have B2 := Lib.hid b2
  have X2 := Lib.hid (X1.out.below b2)
  have z2 := b2.size
  clear b2
  have q0 : (w1.alloc (.cells #[.pointer none, .slice none 0 0] 80)).cell? ⟨w.heap.size, 0, none⟩ = some (.string s) := X2.out.cell (i := 0) (by omega)
  have q1 : (w1.alloc (.cells #[.pointer none, .slice none 0 0] 80)).cell? ⟨w.heap.size, 1, none⟩ = some (.int .i64 T) := X2.out.cell (i := 1) (by omega)
  obtain ⟨t0, ht0⟩ : ∃ t0 : ByteArray, t0 = (⟨#[115, 110, 97, 112, 115, 104, 111, 116, 32]⟩ : ByteArray) ++ s := ⟨_, rfl⟩
  have z0 : t0.size = 9 + s.size := by rw [ht0, ByteArray.size_append]; rfl
  have e0 := add_str _ s t0 ht0 (by omega)
  have HT0 : Hid (t0.data.toList = [115, 110, 97, 112, 115, 104, 111, 116, 32] ++ s.data.toList) := Lib.hid (by rw [ht0, cat_size])
  clear ht0
  have z3 : (w1.alloc (.cells #[.pointer none, .slice none 0 0] 80)).heap.size = w1.heap.size + 1 := by simp
  have HIX1 : Hid (∀ k, k < 7 → ∃ a n c, (∀ W : World, (Instr.index 41 (.agg #[.slice a0 n0 c0, .slice a1 n1 c1, .slice a2 n2 c2, .slice a3 n3 c3, .slice a4 n4 c4, .slice a5 n5 c5, .slice a6 n6 c6]) (.int .i64 (k : Nat))).run Tryd.prog W = .ok (.slice a n c) W) ∧ EntS w1 (.slice a n c) (ls k)) := Lib.hid fun k hk => by
    obtain ⟨a, n, c, h1, h2⟩ := HIX.out k hk
    exact ⟨a, n, c, h1, h2.below B1.out⟩
  have HP1 : Hid (Pow w1.heap.size w1) := Lib.hid ((HP.out.on B1.out).mono' B1.out.size)
  have K2 := Lib.hid (B2.out)
  clear HIX
  go_wp2_with fail
  clear q0 q1
  generalize (w1.alloc (.cells #[.pointer none, .slice none 0 0] 80)) = W2 at *
  have bA : Below W2.heap.size W2 (W2.alloc (.cells #[.int .i64 T] 3)) := (Below.refl _ _).alloc (Nat.le_refl _) _
  have BA := Lib.hid (Below.up B2.out bA)
  have UA := Lib.hid (U2.out.old bA)
  have zA := bA.size
  clear bA
  rw [← z3]
  refine (join_any t0 _ 1 (nth [T]) _ (by omega) (by omega) (nums_lit W2 [T] (fun y hy => by simp at hy; omega)) ((HP1.out.on BA.out).mono' BA.out.size)).mono ?_
  rintro e w4 ⟨rfl, b4⟩
  have B4 := Lib.hid (Below.up BA.out b4)
  have U4 := Lib.hid (UA.out.old b4)
  clear b4 BA UA U2 B2
  have nl := numsL_len (nth [T]) 1 (fun j hj => by
    match j, hj with
    | 0, _ => exact ⟨by show _ ≤ T; omega, by show T ≤ _; omega⟩)
  have tl : t0.data.toList.length = t0.size := Array.length_toList
  obtain ⟨j1, hj1⟩ : ∃ j1 : ByteArray, j1 = ⟨(t0.data.toList ++ numsL (nth [T]) 1).toArray⟩ := ⟨_, rfl⟩
  have y1 : j1.size = t0.size + (numsL (nth [T]) 1).length := by rw [hj1, size_str, List.length_append, tl]
  rw [← hj1]
  obtain ⟨j2, hj2⟩ : ∃ j2 : ByteArray, j2 = j1 ++ ⟨#[10]⟩ := ⟨_, rfl⟩
  have y2 : j2.size = j1.size + 1 := by rw [hj2, ByteArray.size_append]; rfl
  have e2 := add_str j1 ⟨#[10]⟩ j2 hj2 (by omega)
  have HJ : Hid (j2.data.toList = headT s T) := Lib.hid (by rw [hj2, cat_size, hj1, HT0.out]; rfl)
  clear hj1 hj2
  go_wp2_with fail
  refine (write_any w1.heap.size w1.heap.size [] j2 _ U4.out (by simp; omega) B4.out.size).mono ?_
  rintro e w5 ⟨rfl, u5, b5, _⟩
  rw [List.nil_append, HJ.out] at u5
  have U5 := Lib.hid u5
  have B5 := Lib.hid (B4.out.trans b5)
  have hlen : (headT s T).length ≤ 2000 := by rw [← HJ.out]; have : j2.data.toList.length = j2.size := Array.length_toList; omega
  have X5 := Lib.hid (X1.out.below B5.out)
  clear u5 b5 B4 U4 X1 X2 HJ nl tl y1 y2 z0 HT0 e0 e2
  have q0 : w5.cell? ⟨w.heap.size, 2, none⟩ = some (.slice a0 n0 c0) := X5.out.cell (i := 2) (by omega)
  have q1 : w5.cell? ⟨w.heap.size, 3, none⟩ = some (.slice a1 n1 c1) := X5.out.cell (i := 3) (by omega)
  have q2 : w5.cell? ⟨w.heap.size, 4, none⟩ = some (.slice a2 n2 c2) := X5.out.cell (i := 4) (by omega)
  have q3 : w5.cell? ⟨w.heap.size, 5, none⟩ = some (.slice a3 n3 c3) := X5.out.cell (i := 5) (by omega)
  have q4 : w5.cell? ⟨w.heap.size, 6, none⟩ = some (.slice a4 n4 c4) := X5.out.cell (i := 6) (by omega)
  have q5 : w5.cell? ⟨w.heap.size, 7, none⟩ = some (.slice a5 n5 c5) := X5.out.cell (i := 7) (by omega)
  have q6 : w5.cell? ⟨w.heap.size, 8, none⟩ = some (.slice a6 n6 c6) := X5.out.cell (i := 8) (by omega)
  go_wp2_with fail
  clear q0 q1 q2 q3 q4 q5 q6
  go_loopw [22] (fun i wr => ∃ k : Nat, k ≤ 7 ∧ i = .int .i64 k ∧ Hid (Bu w1.heap.size w1.heap.size (headT s T ++ kindsT ls k) wr) ∧ Hid (Below w1.heap.size w1 wr)) (fun i _ => 7 - (intOf i).toNat)
  case atStart => exact ⟨0, by omega, rfl, Lib.hid (by rw [kindsT, List.append_nil]; exact U5.out), B5⟩
  case round =>
    clear U5 B5 X5
    obtain ⟨k, hk, rfl, U, K⟩ := hrel
    by_cases hlt : k < 7
    · have HKD : Hid (decide ((k : Int) < 7) = true) := Lib.hid (decide_eq_true (by omega))
      obtain ⟨a, n, c, hx, hE⟩ := HIX1.out k hlt
      obtain ⟨l, hlk⟩ : ∃ l, l = ls k := ⟨_, rfl⟩
      have HLK := Lib.hid hlk
      obtain ⟨hl256, hin⟩ := HIN.out k hlt
      rw [← hlk] at hE hl256 hin
      have hkl := kindsT_len ls k hk HIN.out
      have HI := Lib.hid hin
      have E := Lib.hid hE
      obtain ⟨a', c', e', _, _, hcc⟩ := hE
      cases e'
      have HC := Lib.hid hcc
      clear hlk hin hcc
      go_wp2_with fail
      go_loopw [28] (fun j wr => ∃ m : Nat, m ≤ l.length ∧ j = .int .i64 m ∧ Hid (Bu w1.heap.size w1.heap.size ((headT s T ++ kindsT ls k) ++ linesT k (l.take m)) wr) ∧ Hid (Below w1.heap.size w1 wr)) (fun j _ => l.length - (intOf j).toNat)
      case atStart => exact ⟨0, by omega, rfl, Lib.hid (by rw [List.take_zero, linesT, List.flatMap_nil, List.append_nil]; exact U.out), K⟩
      case round =>
        clear U K
        obtain ⟨m, hm, rfl, U, K⟩ := hrel
        by_cases hlm : m < l.length
        · obtain ⟨gb, off, rfl, _, hcell⟩ := HC.out (by omega)
          obtain ⟨c1, c2⟩ := hcell m hlm
          have c1 := bc K.out c1
          have c2 := bc K.out c2
          obtain ⟨⟨i0, i1⟩, i2, i3⟩ := HI.out l[m] (List.getElem_mem hlm)
          clear hcell
          have HLT := Lib.hid (linesT_take k l m hlm)
          have HLL := Lib.hid (linesT_len k hlt (l.take m) (fun x hx => HI.out x (List.mem_of_mem_take hx)))
          obtain ⟨⟨p, q⟩, hpq⟩ : ∃ x, x = l[m] := ⟨_, rfl⟩
          rw [← hpq] at c1 c2 i0 i1 i2 i3 HLT
          simp only at c1 c2 i0 i1 i2 i3
          have HIPQ : Hid (InI (p, q)) := Lib.hid ⟨⟨i0, i1⟩, i2, i3⟩
          clear hpq
          rw [show off + 2 * m = off + m * 2 by omega] at c1 c2
          have b6 : Below wr.heap.size wr (wr.alloc (.cells #[.int .i64 p, .int .i64 q] 36)) := (Below.refl _ _).alloc (Nat.le_refl _) _
          have K6 := Lib.hid (Below.up K.out b6)
          have U6 := Lib.hid (U.out.old b6)
          have R6 : Hid (RF (wr.alloc (.cells #[.int .i64 p, .int .i64 q] 36)) wr.heap.size 36 2 (fun i => ((#[.int .i64 p, .int .i64 q] : Array Value)[i]?).getD default)) := Lib.hid (RF_new wr _ _ 2 _ rfl (fun i hi => by rw [Array.getElem?_eq_getElem hi]; rfl))
          clear b6 U K
          go_wp2_with fail
          generalize (wr.alloc (.cells #[.int .i64 p, .int .i64 q] 36)) = W6 at *
          generalize wr.heap.size = xb at *
          clear c1 c2
          have r0 : W6.cell? ⟨xb, 0, none⟩ = some (.int .i64 p) := R6.out.cell (i := 0) (by omega)
          have r1 : W6.cell? ⟨xb, 1, none⟩ = some (.int .i64 q) := R6.out.cell (i := 1) (by omega)
          have hxb := R6.out.lt
          have D1 := Lib.hid (Below.drew (Below.refl W6.heap.size W6))
          have D2 : Hid (Below W6.heap.size W6 (W6.alloc (.cells #[.int .i64 p, .int .i64 q] 3)).drew) := Lib.hid (((Below.refl _ _).alloc (Nat.le_refl _) _).drew)
          have NM : Hid (NumS (W6.alloc (.cells #[.int .i64 p, .int .i64 q] 3)).drew (.slice (some ⟨W6.heap.size, 0, none⟩) 2 2) 2 (nth [p, q])) := Lib.hid (nums_two W6.drew p q ⟨⟨i0, i1⟩, i2, i3⟩)
          have M := Lib.hid (show ∀ w' : World, Below W6.heap.size W6 w' → w'.cell? ⟨xb, 0, none⟩ = some (.int .i64 p) ∧ w'.cell? ⟨xb, 1, none⟩ = some (.int .i64 q) from fun w' h => ⟨bc h r0, bc h r1⟩)
          obtain ⟨ki, hki⟩ : ∃ ki : ByteArray, ki = ⟨(Lib.itoa (k : Int)).toArray⟩ := ⟨_, rfl⟩
          have li := Lib.itoa_length_le (k : Int) (by omega) (by omega)
          have ly := numsL_len (nth [p, q]) 2 (nth_two_in ⟨⟨i0, i1⟩, i2, i3⟩)
          have zi : ki.size ≤ 22 := by rw [hki, size_str]; omega
          have ITO := Lib.hid (fun W (hW : Below W6.heap.size W6 W) => itoa_any (k : Int) (by omega) (by omega) W (HP1.out W (K6.out.trans (hW.mono K6.out.size))))
          rw [← hki] at ITO
          obtain ⟨j3, hj3⟩ : ∃ j3 : ByteArray, j3 = ⟨(ki.data.toList ++ numsL (nth [p, q]) 2).toArray⟩ := ⟨_, rfl⟩
          have tk : ki.data.toList.length = ki.size := Array.length_toList
          have z3 : j3.size ≤ 70 := by rw [hj3, size_str, List.length_append]; omega
          have JN := Lib.hid (fun W v (hv : NumS W v 2 (nth [p, q])) (hW : Below W6.heap.size W6 W) => join_any ki v 2 (nth [p, q]) W (by omega) (by omega) hv ((HP1.out.on (K6.out.trans (hW.mono K6.out.size))).mono' (Nat.le_trans K6.out.size hW.size)))
          rw [← hj3] at JN
          obtain ⟨j4, hj4⟩ : ∃ j4 : ByteArray, j4 = j3 ++ ⟨#[10]⟩ := ⟨_, rfl⟩
          have z4 : j4.size ≤ 71 := by rw [hj4, ByteArray.size_append]; have : (⟨#[10]⟩ : ByteArray).size = 1 := rfl; omega
          have e4 := add_str j3 ⟨#[10]⟩ j4 hj4 (by omega)
          have HJ4 : Hid (j4.data.toList = lineT k (p, q)) := Lib.hid (by rw [hj4, cat_size, hj3, hki]; rfl)
          have hbig : ((headT s T ++ kindsT ls k) ++ linesT k (l.take m)).length + j4.size ≤ 1000000 := by
            have h1 := HLL.out
            have h2 : (l.take m).length ≤ 256 := by rw [List.length_take]; omega
            rw [List.length_append, List.length_append]
            omega
          have WR := Lib.hid (fun W (hU : Bu w1.heap.size w1.heap.size ((headT s T ++ kindsT ls k) ++ linesT k (l.take m)) W) (hW : w1.heap.size ≤ W.heap.size) => write_any w1.heap.size w1.heap.size _ j4 W hU hbig hW)
          clear hki hj3 hj4 hbig tk li ly zi z3 z4
          go_region_law
            (first
              | (rw [if_pos (by rfl)]; go_simp; go_at_call 36; ((with_reducible refine (ITO.out _ D1.out).mono ?_); rintro e w7 ⟨rfl, b7⟩; have B7 := Lib.hid (Below.up D1.out b7); obtain ⟨s0, s1⟩ := M.out _ B7.out; clear b7; dsimp only))
              | (rw [if_pos (by rfl)]; go_simp; go_at_call 36; ((with_reducible refine (ITO.out _ D2.out).mono ?_); rintro e w7 ⟨rfl, b7⟩; have B7 := Lib.hid (Below.up D2.out b7); have N7 := Lib.hid (NM.out.below b7); obtain ⟨s0, s1⟩ := M.out _ B7.out; clear b7; dsimp only))
              | (rw [if_pos (by rfl)]; go_simp; go_at_call 35; ((with_reducible refine (JN.out _ _ N7.out B7.out).mono ?_); rintro e w8 ⟨rfl, b8⟩; have B8 := Lib.hid (Below.up B7.out b8); have U8 := Lib.hid (U6.out.old B8.out); clear b8; dsimp only))
              | (rw [if_pos (by rfl)]; go_simp; go_at_call 35; ((with_reducible refine (JN.out _ _ (nums_two w7 p q HIPQ.out) (B7.out.alloc B7.out.size _)).mono ?_); rintro e w8 ⟨rfl, b8⟩; have B8 := Lib.hid (Below.up (B7.out.alloc B7.out.size _) b8); have U8 := Lib.hid (U6.out.old B8.out); clear b8; dsimp only))
              | (rw [if_pos (by rfl)]; go_simp; go_at_call 34; ((with_reducible refine (WR.out _ U8.out (Nat.le_trans K6.out.size B8.out.size)).mono ?_); rintro e w9 ⟨rfl, u9, b9, _⟩; have U9 := Lib.hid u9; have B9 := Lib.hid b9; clear u9 b9; dsimp only)))
          all_goals
            have HX := Lib.hid (show Bu w1.heap.size w1.heap.size (((headT s T ++ kindsT ls k) ++ linesT k (l.take m)) ++ j4.data.toList) w9 ∧ Below w1.heap.size w1 w9 from ⟨U9.out, (K6.out.trans (B8.out.mono K6.out.size)).trans B9.out⟩)
            clear U9 B9 B8 U8 B7 JN WR ITO M NM D1 D2 R6 U6
            go_wp2_with fail
            go_roundw
            case rel =>
              rw [HKD.out]
              (repeat apply Exists.intro)
              refine ⟨?_, rfl⟩
              exact ⟨m + 1, by omega, by go_num, Lib.hid (by rw [HLT.out, ← HJ4.out, ← List.append_assoc]; exact HX.out.1), Lib.hid HX.out.2⟩
            case measure => simp [intOf]; omega
        · obtain rfl : m = l.length := by omega
          have HX := Lib.hid (show Bu w1.heap.size w1.heap.size (headT s T ++ kindsT ls (k + 1)) wr from by have := U.out; rw [List.take_length, List.append_assoc, HLK.out] at this; exact this)
          clear U
          go_wp2_with fail
          go_roundw
          case rel => exact ⟨k + 1, by omega, by go_num, HX, K⟩
          case measure => simp [intOf]; omega
    · obtain rfl : k = 7 := by omega
      have hk7 := kindsT_len ls 7 (by omega) HIN.out
      have KS := K.out.size
      go_wp2_with fail
      refine (write_any w1.heap.size w1.heap.size _ ⟨#[101, 110, 100, 10]⟩ _ U.out (by rw [List.length_append]; have : (⟨#[101, 110, 100, 10]⟩ : ByteArray).size = 4 := rfl; omega) KS).mono ?_
      rintro e w8 ⟨rfl, u8, b8, _⟩
      have U8 : Hid (Bu w1.heap.size w1.heap.size (printT s T ls) w8) := Lib.hid u8
      have B8 := Lib.hid (K.out.trans b8)
      clear u8 b8 U K
      go_wp2_with fail
      refine (string_any w1.heap.size w1.heap.size _ _ U8.out B8.out.size).mono ?_
      rintro e w9 ⟨rfl, b9⟩
      have B9 := Lib.hid (B1.out.trans ((B8.out.trans b9).mono B1.out.size))
      clear b9 U8 B8
      go_wp2_with fail
      go_ret
      exact ⟨rfl, B9.out⟩
end Go.Proofs.YtlegacllbohbmaaDoor
