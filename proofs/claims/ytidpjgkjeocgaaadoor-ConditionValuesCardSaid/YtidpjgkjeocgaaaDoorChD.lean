/- Layer 4: the values of a snapshot, of both. -/
import Derived.Test.YtidpjgkjeocgaaaDoorCbT
set_option linter.unusedVariables false
set_option linter.unusedSimpArgs false
namespace Go.Proofs.YtidpjgkjeocgaaaDoor
open Go.RowKit Go.Shelf
attribute [local go_sem ↓] Go.wp_at_zero Go.wp_at_succ

theorem EnS.form {W : World} {v : Value} {l : Ents} (h : EnS W v l) : ∃ a n c, v = .slice a n c := by
  obtain ⟨a, cap, rfl, _⟩ := h
  exact ⟨a, _, cap, rfl⟩
/-- The value of the first entry with a key. -/
def valF (l : Ents) (key o : Int) : Int := ((l.find? (fun x => x.1 == key)).map (·.2)).getD o
theorem valF_none {l : Ents} {key : Int} (o : Int) (h : ∀ j (hj : j < l.length), (l[j]).1 ≠ key) : valF l key o = o := by
  have : l.find? (fun x => x.1 == key) = none := by
    rw [List.find?_eq_none]
    intro x hx
    obtain ⟨j, hj, rfl⟩ := List.mem_iff_getElem.1 hx
    simpa using h j hj
  unfold valF
  rw [this]
  rfl
theorem valF_hit {l : Ents} {key : Int} (o : Int) {i : Nat} (hi : i < l.length) (h : (l[i]).1 = key) (hn : ∀ j (hj : j < l.length), j < i → (l[j]).1 ≠ key) : valF l key o = (l[i]).2 := by
  have : l.find? (fun x => x.1 == key) = some l[i] := by
    rw [List.find?_eq_some_iff_getElem]
    exact ⟨by simpa using h, i, hi, rfl, fun j hj => by simpa using hn j (by omega) hj⟩
  unfold valF
  rw [this]
  rfl
def IsBool (v : Value) : Prop := ∃ b, v = .bool b
def valS (ls : Nat → Ents) (k key o : Int) : Int := if inB k 0 6 = true then valF (ls k.toNat) key o else o

set_option maxRecDepth 100000 in
set_option maxHeartbeats 3200000 in
theorem Great_any (s : ByteArray) (T : Int) (ls : Nat → Ents) (u0 u1 u2 u3 u4 u5 u6 : Value) (w : World) (h : EnS w u0 (ls 0) ∧ EnS w u1 (ls 1) ∧ EnS w u2 (ls 2) ∧ EnS w u3 (ls 3) ∧ EnS w u4 (ls 4) ∧ EnS w u5 (ls 5) ∧ EnS w u6 (ls 6)) :
    Calls Tryd.prog 5 #[.agg #[.string s, .int .i64 T, u0, u1, u2, u3, u4, u5, u6]] w fun e w' => ∃ v, e = .returned v ∧ IsBool v ∧ Below w.heap.size w w' := by
  obtain ⟨h0, h1, h2, h3, h4, h5, h6⟩ := h
  obtain ⟨a0, n0, c0, rfl⟩ := h0.form
  obtain ⟨a1, n1, c1, rfl⟩ := h1.form
  obtain ⟨a2, n2, c2, rfl⟩ := h2.form
  obtain ⟨a3, n3, c3, rfl⟩ := h3.form
  obtain ⟨a4, n4, c4, rfl⟩ := h4.form
  obtain ⟨a5, n5, c5, rfl⟩ := h5.form
  obtain ⟨a6, n6, c6, rfl⟩ := h6.form
  have b0 : Below w.heap.size w (w.alloc (.cells #[.string s, .int .i64 T, .slice a0 n0 c0, .slice a1 n1 c1, .slice a2 n2 c2, .slice a3 n3 c3, .slice a4 n4 c4, .slice a5 n5 c5, .slice a6 n6 c6] 25)) := (Below.refl _ _).alloc (Nat.le_refl _) _
  have X0 : Hid (RF (w.alloc (.cells #[.string s, .int .i64 T, .slice a0 n0 c0, .slice a1 n1 c1, .slice a2 n2 c2, .slice a3 n3 c3, .slice a4 n4 c4, .slice a5 n5 c5, .slice a6 n6 c6] 25)) w.heap.size 25 9 (fun i => ((#[.string s, .int .i64 T, .slice a0 n0 c0, .slice a1 n1 c1, .slice a2 n2 c2, .slice a3 n3 c3, .slice a4 n4 c4, .slice a5 n5 c5, .slice a6 n6 c6] : Array Value)[i]?).getD default)) := Lib.hid (RF_new w _ _ 9 _ rfl (fun i hi => by rw [Array.getElem?_eq_getElem hi]; rfl))
  have B0 := Lib.hid b0
  clear b0 h0 h1 h2 h3 h4 h5 h6
  have q0 : (w.alloc (.cells #[.string s, .int .i64 T, .slice a0 n0 c0, .slice a1 n1 c1, .slice a2 n2 c2, .slice a3 n3 c3, .slice a4 n4 c4, .slice a5 n5 c5, .slice a6 n6 c6] 25)).cell? ⟨w.heap.size, 0, none⟩ = some (.string s) := X0.out.cell (i := 0) (by omega)
  have q1 : (w.alloc (.cells #[.string s, .int .i64 T, .slice a0 n0 c0, .slice a1 n1 c1, .slice a2 n2 c2, .slice a3 n3 c3, .slice a4 n4 c4, .slice a5 n5 c5, .slice a6 n6 c6] 25)).cell? ⟨w.heap.size, 1, none⟩ = some (.int .i64 T) := X0.out.cell (i := 1) (by omega)
  have q2 : (w.alloc (.cells #[.string s, .int .i64 T, .slice a0 n0 c0, .slice a1 n1 c1, .slice a2 n2 c2, .slice a3 n3 c3, .slice a4 n4 c4, .slice a5 n5 c5, .slice a6 n6 c6] 25)).cell? ⟨w.heap.size, 2, none⟩ = some (.slice a0 n0 c0) := X0.out.cell (i := 2) (by omega)
  have q3 : (w.alloc (.cells #[.string s, .int .i64 T, .slice a0 n0 c0, .slice a1 n1 c1, .slice a2 n2 c2, .slice a3 n3 c3, .slice a4 n4 c4, .slice a5 n5 c5, .slice a6 n6 c6] 25)).cell? ⟨w.heap.size, 3, none⟩ = some (.slice a1 n1 c1) := X0.out.cell (i := 3) (by omega)
  have q4 : (w.alloc (.cells #[.string s, .int .i64 T, .slice a0 n0 c0, .slice a1 n1 c1, .slice a2 n2 c2, .slice a3 n3 c3, .slice a4 n4 c4, .slice a5 n5 c5, .slice a6 n6 c6] 25)).cell? ⟨w.heap.size, 4, none⟩ = some (.slice a2 n2 c2) := X0.out.cell (i := 4) (by omega)
  have q5 : (w.alloc (.cells #[.string s, .int .i64 T, .slice a0 n0 c0, .slice a1 n1 c1, .slice a2 n2 c2, .slice a3 n3 c3, .slice a4 n4 c4, .slice a5 n5 c5, .slice a6 n6 c6] 25)).cell? ⟨w.heap.size, 5, none⟩ = some (.slice a3 n3 c3) := X0.out.cell (i := 5) (by omega)
  have q6 : (w.alloc (.cells #[.string s, .int .i64 T, .slice a0 n0 c0, .slice a1 n1 c1, .slice a2 n2 c2, .slice a3 n3 c3, .slice a4 n4 c4, .slice a5 n5 c5, .slice a6 n6 c6] 25)).cell? ⟨w.heap.size, 6, none⟩ = some (.slice a4 n4 c4) := X0.out.cell (i := 6) (by omega)
  have q7 : (w.alloc (.cells #[.string s, .int .i64 T, .slice a0 n0 c0, .slice a1 n1 c1, .slice a2 n2 c2, .slice a3 n3 c3, .slice a4 n4 c4, .slice a5 n5 c5, .slice a6 n6 c6] 25)).cell? ⟨w.heap.size, 7, none⟩ = some (.slice a5 n5 c5) := X0.out.cell (i := 7) (by omega)
  have q8 : (w.alloc (.cells #[.string s, .int .i64 T, .slice a0 n0 c0, .slice a1 n1 c1, .slice a2 n2 c2, .slice a3 n3 c3, .slice a4 n4 c4, .slice a5 n5 c5, .slice a6 n6 c6] 25)).cell? ⟨w.heap.size, 8, none⟩ = some (.slice a6 n6 c6) := X0.out.cell (i := 8) (by omega)
  go_enter Tryd.func5, Tryd.ntmps5
  go_wp2_with fail
  generalize (w.alloc (.cells #[.string s, .int .i64 T, .slice a0 n0 c0, .slice a1 n1 c1, .slice a2 n2 c2, .slice a3 n3 c3, .slice a4 n4 c4, .slice a5 n5 c5, .slice a6 n6 c6] 25)) = W0 at *
  go_loopw [3, 4] (fun u i wr => ∃ (k : Nat) (z : Int), k ≤ 7 ∧ u = .int .i64 z ∧ i = .int .i64 k ∧ Hid (W0 = wr)) (fun _ i _ => 7 - (intOf i).toNat)
  case atStart => exact ⟨0, _, by omega, rfl, rfl, Lib.hid rfl⟩
  case round =>
    obtain ⟨k, z, hk, rfl, rfl, he⟩ := hrel
    obtain rfl := he.out
    by_cases hlt : k < 7
    · have hc : ∃ a n c, W0.cell? ⟨w.heap.size, 2 + k, none⟩ = some (.slice a n c) := pick7 (P := fun k => ∃ a n c, W0.cell? ⟨w.heap.size, 2 + k, none⟩ = some (.slice a n c)) ⟨_, _, _, q2⟩ ⟨_, _, _, q3⟩ ⟨_, _, _, q4⟩ ⟨_, _, _, q5⟩ ⟨_, _, _, q6⟩ ⟨_, _, _, q7⟩ ⟨_, _, _, q8⟩ k hlt
      obtain ⟨a, n, c, hc⟩ := hc
      go_wp2_with fail
      go_roundw
      case rel => exact ⟨k + 1, _, by omega, rfl, by go_num, Lib.hid (by first | rfl | trivial)⟩
      case measure => simp [intOf]; omega
    · obtain rfl : k = 7 := by omega
      go_wp2_with fail
      go_ret
      exact ⟨_, rfl, ⟨_, rfl⟩, B0.out⟩

theorem kind_any (k : Int) (w : World) : Calls Tryd.prog 21 #[.int .i64 k] w fun e w' => e = .returned (.bool (inB k 0 6)) ∧ w = w' := by
  by_cases h1 : 0 ≤ k
  · by_cases h2 : k < 7
    all_goals
      go_enter Tryd.func21, Tryd.ntmps21
      go_wp2
      go_ret
      exact ⟨ret_bool (by unfold inB; grind), rfl⟩
  · go_enter Tryd.func21, Tryd.ntmps21
    go_wp2
    go_ret
    exact ⟨ret_bool (by unfold inB; grind), rfl⟩

set_option maxRecDepth 100000 in
set_option maxHeartbeats 3200000 in
theorem Value_any (s : ByteArray) (T : Int) (ls : Nat → Ents) (u0 u1 u2 u3 u4 u5 u6 : Value) (k key o : Int) (w : World) (h : EnS w u0 (ls 0) ∧ EnS w u1 (ls 1) ∧ EnS w u2 (ls 2) ∧ EnS w u3 (ls 3) ∧ EnS w u4 (ls 4) ∧ EnS w u5 (ls 5) ∧ EnS w u6 (ls 6)) (hl : ∀ j, j < 7 → (ls j).length ≤ maxLen) :
    Calls Tryd.prog 7 #[.agg #[.string s, .int .i64 T, u0, u1, u2, u3, u4, u5, u6], .int .i64 k, .int .i64 key, .int .i64 o] w fun e w' => e = .returned (.int .i64 (valS ls k key o)) ∧ Below w.heap.size w w' := by
  obtain ⟨h0, h1, h2, h3, h4, h5, h6⟩ := h
  obtain ⟨a0, n0, c0, rfl⟩ := h0.form
  obtain ⟨a1, n1, c1, rfl⟩ := h1.form
  obtain ⟨a2, n2, c2, rfl⟩ := h2.form
  obtain ⟨a3, n3, c3, rfl⟩ := h3.form
  obtain ⟨a4, n4, c4, rfl⟩ := h4.form
  obtain ⟨a5, n5, c5, rfl⟩ := h5.form
  obtain ⟨a6, n6, c6, rfl⟩ := h6.form
  have b0 : Below w.heap.size w (w.alloc (.cells #[.string s, .int .i64 T, .slice a0 n0 c0, .slice a1 n1 c1, .slice a2 n2 c2, .slice a3 n3 c3, .slice a4 n4 c4, .slice a5 n5 c5, .slice a6 n6 c6] 25)) := (Below.refl _ _).alloc (Nat.le_refl _) _
  have X0 : Hid (RF (w.alloc (.cells #[.string s, .int .i64 T, .slice a0 n0 c0, .slice a1 n1 c1, .slice a2 n2 c2, .slice a3 n3 c3, .slice a4 n4 c4, .slice a5 n5 c5, .slice a6 n6 c6] 25)) w.heap.size 25 9 (fun i => ((#[.string s, .int .i64 T, .slice a0 n0 c0, .slice a1 n1 c1, .slice a2 n2 c2, .slice a3 n3 c3, .slice a4 n4 c4, .slice a5 n5 c5, .slice a6 n6 c6] : Array Value)[i]?).getD default)) := Lib.hid (RF_new w _ _ 9 _ rfl (fun i hi => by rw [Array.getElem?_eq_getElem hi]; rfl))
  have B0 := Lib.hid b0
  have HC : Hid (∀ j, j < 7 → ∃ a c, (w.alloc (.cells #[.string s, .int .i64 T, .slice a0 n0 c0, .slice a1 n1 c1, .slice a2 n2 c2, .slice a3 n3 c3, .slice a4 n4 c4, .slice a5 n5 c5, .slice a6 n6 c6] 25)).cell? ⟨w.heap.size, 2 + j, none⟩ = some (.slice a (ls j).length c) ∧ EnS (w.alloc (.cells #[.string s, .int .i64 T, .slice a0 n0 c0, .slice a1 n1 c1, .slice a2 n2 c2, .slice a3 n3 c3, .slice a4 n4 c4, .slice a5 n5 c5, .slice a6 n6 c6] 25)) (.slice a (ls j).length c) (ls j)) := Lib.hid (pick7 (P := fun j => ∃ a c, (w.alloc (.cells #[.string s, .int .i64 T, .slice a0 n0 c0, .slice a1 n1 c1, .slice a2 n2 c2, .slice a3 n3 c3, .slice a4 n4 c4, .slice a5 n5 c5, .slice a6 n6 c6] 25)).cell? ⟨w.heap.size, 2 + j, none⟩ = some (.slice a (ls j).length c) ∧ EnS (w.alloc (.cells #[.string s, .int .i64 T, .slice a0 n0 c0, .slice a1 n1 c1, .slice a2 n2 c2, .slice a3 n3 c3, .slice a4 n4 c4, .slice a5 n5 c5, .slice a6 n6 c6] 25)) (.slice a (ls j).length c) (ls j))
    (by obtain ⟨a, c, e, _⟩ := id h0; have e' := e; cases e; exact ⟨_, _, X0.out.cell (i := 2) (by omega), h0.below b0⟩)
    (by obtain ⟨a, c, e, _⟩ := id h1; have e' := e; cases e; exact ⟨_, _, X0.out.cell (i := 3) (by omega), h1.below b0⟩)
    (by obtain ⟨a, c, e, _⟩ := id h2; have e' := e; cases e; exact ⟨_, _, X0.out.cell (i := 4) (by omega), h2.below b0⟩)
    (by obtain ⟨a, c, e, _⟩ := id h3; have e' := e; cases e; exact ⟨_, _, X0.out.cell (i := 5) (by omega), h3.below b0⟩)
    (by obtain ⟨a, c, e, _⟩ := id h4; have e' := e; cases e; exact ⟨_, _, X0.out.cell (i := 6) (by omega), h4.below b0⟩)
    (by obtain ⟨a, c, e, _⟩ := id h5; have e' := e; cases e; exact ⟨_, _, X0.out.cell (i := 7) (by omega), h5.below b0⟩)
    (by obtain ⟨a, c, e, _⟩ := id h6; have e' := e; cases e; exact ⟨_, _, X0.out.cell (i := 8) (by omega), h6.below b0⟩))
  have HL := Lib.hid hl
  clear b0 h0 h1 h2 h3 h4 h5 h6 hl
  cases hk : inB k 0 6 with
  | false =>
    have HK := Lib.hid hk
    have HV : Hid (valS ls k key o = o) := Lib.hid (by unfold valS; rw [hk]; rfl)
    clear hk HC
    go_enter Tryd.func7, Tryd.ntmps7
    go_wp2_with fail
    refine (isKind_any _ _).mono ?_
    rw [HK.out]
    rintro e w' ⟨rfl, rfl⟩
    go_wp2_with fail
    go_ret
    exact ⟨ret_int HV.out.symm, B0.out⟩
  | true =>
    have HK := Lib.hid hk
    obtain ⟨k0, k1⟩ := inB_true.1 hk
    obtain ⟨m, rfl⟩ : ∃ m : Nat, k = (m : Int) := ⟨k.toNat, by omega⟩
    have hm : m < 7 := by omega
    have HV : Hid (valS ls m key o = valF (ls m) key o) := Lib.hid (by unfold valS; rw [hk]; rfl)
    obtain ⟨a, c, hc, hE⟩ := HC.out m hm
    have hlen := HL.out m hm
    unfold maxLen at hlen
    obtain ⟨l, hll⟩ : ∃ l, l = ls m := ⟨_, rfl⟩
    rw [← hll] at hc hE hlen HV
    have E := Lib.hid hE
    clear hk HC hll hE X0
    go_enter Tryd.func7, Tryd.ntmps7
    go_wp2_with fail
    generalize (w.alloc (.cells #[.string s, .int .i64 T, .slice a0 n0 c0, .slice a1 n1 c1, .slice a2 n2 c2, .slice a3 n3 c3, .slice a4 n4 c4, .slice a5 n5 c5, .slice a6 n6 c6] 25)) = W0 at *
    refine (isKind_any _ _).mono ?_
    rw [HK.out]
    rintro e w' ⟨rfl, rfl⟩
    go_wp2_with fail
    go_loopw [20] (fun i wr => ∃ j : Nat, j ≤ l.length ∧ i = .int .i64 j ∧ Hid (∀ q (hq : q < l.length), q < j → (l[q]).1 ≠ key) ∧ Hid (Below W0.heap.size W0 wr)) (fun i _ => l.length - (intOf i).toNat)
    case atStart => exact ⟨0, Nat.zero_le _, rfl, Lib.hid (fun q hq h => absurd h (by omega)), Lib.hid (Below.refl _ _)⟩
    case round =>
      obtain ⟨j, hj, rfl, HN, BL⟩ := hrel
      by_cases hlt : j < l.length
      · obtain ⟨a', c', e', hi, hcc⟩ := E.out.below BL.out
        cases e'
        obtain ⟨gb, off, rfl, hcell⟩ := hcc (by omega)
        obtain ⟨c1, c2⟩ := hcell j hlt
        obtain ⟨⟨i0, i1⟩, i2, i3⟩ := hi l[j] (List.getElem_mem hlt)
        clear hcc hcell hi
        obtain ⟨⟨p, v⟩, hpv⟩ : ∃ x, x = l[j] := ⟨_, rfl⟩
        rw [← hpv] at c1 c2 i0 i1 i2 i3
        simp only at c1 c2 i0 i1 i2 i3
        have HPV := Lib.hid hpv
        clear hpv
        rw [show off + 2 * j = off + j * 2 by omega] at c1 c2
        by_cases hpk : p = key
        · have hb : (p == key) = true := by simpa using hpk
          have HH : Hid (valF l key o = v) := Lib.hid (by rw [valF_hit o hlt (by rw [← HPV.out]; exact hpk) HN.out, ← HPV.out])
          go_wp2_with fail
          go_ret
          exact ⟨ret_int (HV.out.trans HH.out).symm, Below.up B0.out (BL.out.alloc BL.out.size _)⟩
        · have hb : (p == key) = false := by simpa using hpk
          go_wp2_with fail
          go_roundw
          case rel => exact ⟨j + 1, by omega, by go_num, Lib.hid (fun q hq h => by
            rcases Nat.lt_or_ge q j with h' | h'
            · exact HN.out q hq h'
            · obtain rfl : q = j := by omega
              rw [← HPV.out]; exact hpk), Lib.hid (BL.out.alloc BL.out.size _)⟩
          case measure => simp [intOf]; omega
      · obtain rfl : j = l.length := by omega
        have HH : Hid (valF l key o = o) := Lib.hid (valF_none o (fun q hq => HN.out q hq hq))
        go_wp2_with fail
        go_ret
        exact ⟨ret_int (HV.out.trans HH.out).symm, Below.up B0.out BL.out⟩

set_option maxRecDepth 100000 in
set_option maxHeartbeats 3200000 in
theorem refValue_any (s : ByteArray) (T : Int) (ls : Nat → Ents) (u0 u1 u2 u3 u4 u5 u6 : Value) (k key o : Int) (w : World) (h : EnS w u0 (ls 0) ∧ EnS w u1 (ls 1) ∧ EnS w u2 (ls 2) ∧ EnS w u3 (ls 3) ∧ EnS w u4 (ls 4) ∧ EnS w u5 (ls 5) ∧ EnS w u6 (ls 6)) (hl : ∀ j, j < 7 → (ls j).length ≤ maxLen) :
    Calls Tryd.prog 8 #[.agg #[.string s, .int .i64 T, u0, u1, u2, u3, u4, u5, u6], .int .i64 k, .int .i64 key, .int .i64 o] w fun e w' => e = .returned (.int .i64 (valS ls k key o)) ∧ Below w.heap.size w w' := by
  obtain ⟨h0, h1, h2, h3, h4, h5, h6⟩ := h
  obtain ⟨a0, n0, c0, rfl⟩ := h0.form
  obtain ⟨a1, n1, c1, rfl⟩ := h1.form
  obtain ⟨a2, n2, c2, rfl⟩ := h2.form
  obtain ⟨a3, n3, c3, rfl⟩ := h3.form
  obtain ⟨a4, n4, c4, rfl⟩ := h4.form
  obtain ⟨a5, n5, c5, rfl⟩ := h5.form
  obtain ⟨a6, n6, c6, rfl⟩ := h6.form
  have b0 : Below w.heap.size w (w.alloc (.cells #[.string s, .int .i64 T, .slice a0 n0 c0, .slice a1 n1 c1, .slice a2 n2 c2, .slice a3 n3 c3, .slice a4 n4 c4, .slice a5 n5 c5, .slice a6 n6 c6] 25)) := (Below.refl _ _).alloc (Nat.le_refl _) _
  have X0 : Hid (RF (w.alloc (.cells #[.string s, .int .i64 T, .slice a0 n0 c0, .slice a1 n1 c1, .slice a2 n2 c2, .slice a3 n3 c3, .slice a4 n4 c4, .slice a5 n5 c5, .slice a6 n6 c6] 25)) w.heap.size 25 9 (fun i => ((#[.string s, .int .i64 T, .slice a0 n0 c0, .slice a1 n1 c1, .slice a2 n2 c2, .slice a3 n3 c3, .slice a4 n4 c4, .slice a5 n5 c5, .slice a6 n6 c6] : Array Value)[i]?).getD default)) := Lib.hid (RF_new w _ _ 9 _ rfl (fun i hi => by rw [Array.getElem?_eq_getElem hi]; rfl))
  have B0 := Lib.hid b0
  have HC : Hid (∀ j, j < 7 → ∃ a c, (w.alloc (.cells #[.string s, .int .i64 T, .slice a0 n0 c0, .slice a1 n1 c1, .slice a2 n2 c2, .slice a3 n3 c3, .slice a4 n4 c4, .slice a5 n5 c5, .slice a6 n6 c6] 25)).cell? ⟨w.heap.size, 2 + j, none⟩ = some (.slice a (ls j).length c) ∧ EnS (w.alloc (.cells #[.string s, .int .i64 T, .slice a0 n0 c0, .slice a1 n1 c1, .slice a2 n2 c2, .slice a3 n3 c3, .slice a4 n4 c4, .slice a5 n5 c5, .slice a6 n6 c6] 25)) (.slice a (ls j).length c) (ls j)) := Lib.hid (pick7 (P := fun j => ∃ a c, (w.alloc (.cells #[.string s, .int .i64 T, .slice a0 n0 c0, .slice a1 n1 c1, .slice a2 n2 c2, .slice a3 n3 c3, .slice a4 n4 c4, .slice a5 n5 c5, .slice a6 n6 c6] 25)).cell? ⟨w.heap.size, 2 + j, none⟩ = some (.slice a (ls j).length c) ∧ EnS (w.alloc (.cells #[.string s, .int .i64 T, .slice a0 n0 c0, .slice a1 n1 c1, .slice a2 n2 c2, .slice a3 n3 c3, .slice a4 n4 c4, .slice a5 n5 c5, .slice a6 n6 c6] 25)) (.slice a (ls j).length c) (ls j))
    (by obtain ⟨a, c, e, _⟩ := id h0; have e' := e; cases e; exact ⟨_, _, X0.out.cell (i := 2) (by omega), h0.below b0⟩)
    (by obtain ⟨a, c, e, _⟩ := id h1; have e' := e; cases e; exact ⟨_, _, X0.out.cell (i := 3) (by omega), h1.below b0⟩)
    (by obtain ⟨a, c, e, _⟩ := id h2; have e' := e; cases e; exact ⟨_, _, X0.out.cell (i := 4) (by omega), h2.below b0⟩)
    (by obtain ⟨a, c, e, _⟩ := id h3; have e' := e; cases e; exact ⟨_, _, X0.out.cell (i := 5) (by omega), h3.below b0⟩)
    (by obtain ⟨a, c, e, _⟩ := id h4; have e' := e; cases e; exact ⟨_, _, X0.out.cell (i := 6) (by omega), h4.below b0⟩)
    (by obtain ⟨a, c, e, _⟩ := id h5; have e' := e; cases e; exact ⟨_, _, X0.out.cell (i := 7) (by omega), h5.below b0⟩)
    (by obtain ⟨a, c, e, _⟩ := id h6; have e' := e; cases e; exact ⟨_, _, X0.out.cell (i := 8) (by omega), h6.below b0⟩))
  have HL := Lib.hid hl
  clear b0 h0 h1 h2 h3 h4 h5 h6 hl
  cases hk : inB k 0 6 with
  | false =>
    have HK := Lib.hid hk
    have HV : Hid (valS ls k key o = o) := Lib.hid (by unfold valS; rw [hk]; rfl)
    clear hk HC
    go_enter Tryd.func8, Tryd.ntmps8
    go_wp2_with fail
    refine (kind_any _ _).mono ?_
    rw [HK.out]
    rintro e w' ⟨rfl, rfl⟩
    go_wp2_with fail
    go_ret
    exact ⟨ret_int HV.out.symm, B0.out⟩
  | true =>
    have HK := Lib.hid hk
    obtain ⟨k0, k1⟩ := inB_true.1 hk
    obtain ⟨m, rfl⟩ : ∃ m : Nat, k = (m : Int) := ⟨k.toNat, by omega⟩
    have hm : m < 7 := by omega
    have HV : Hid (valS ls m key o = valF (ls m) key o) := Lib.hid (by unfold valS; rw [hk]; rfl)
    obtain ⟨a, c, hc, hE⟩ := HC.out m hm
    have hlen := HL.out m hm
    unfold maxLen at hlen
    obtain ⟨l, hll⟩ : ∃ l, l = ls m := ⟨_, rfl⟩
    rw [← hll] at hc hE hlen HV
    have E := Lib.hid hE
    clear hk HC hll hE X0
    go_enter Tryd.func8, Tryd.ntmps8
    go_wp2_with fail
    generalize (w.alloc (.cells #[.string s, .int .i64 T, .slice a0 n0 c0, .slice a1 n1 c1, .slice a2 n2 c2, .slice a3 n3 c3, .slice a4 n4 c4, .slice a5 n5 c5, .slice a6 n6 c6] 25)) = W0 at *
    refine (kind_any _ _).mono ?_
    rw [HK.out]
    rintro e w' ⟨rfl, rfl⟩
    go_wp2_with fail
    go_loopw [9] (fun i wr => ∃ j : Nat, j ≤ l.length ∧ i = .int .i64 j ∧ Hid (∀ q (hq : q < l.length), q < j → (l[q]).1 ≠ key) ∧ Hid (W0 = wr)) (fun i _ => l.length - (intOf i).toNat)
    case atStart => exact ⟨0, Nat.zero_le _, rfl, Lib.hid (fun q hq h => absurd h (by omega)), Lib.hid rfl⟩
    case round =>
      obtain ⟨j, hj, rfl, HN, BL⟩ := hrel
      obtain rfl := BL.out
      by_cases hlt : j < l.length
      · obtain ⟨a', c', e', hi, hcc⟩ := E.out
        cases e'
        obtain ⟨gb, off, rfl, hcell⟩ := hcc (by omega)
        obtain ⟨c1, c2⟩ := hcell j hlt
        obtain ⟨⟨i0, i1⟩, i2, i3⟩ := hi l[j] (List.getElem_mem hlt)
        clear hcc hcell hi
        obtain ⟨⟨p, v⟩, hpv⟩ : ∃ x, x = l[j] := ⟨_, rfl⟩
        rw [← hpv] at c1 c2 i0 i1 i2 i3
        simp only at c1 c2 i0 i1 i2 i3
        have HPV := Lib.hid hpv
        clear hpv
        rw [show off + 2 * j = off + j * 2 by omega] at c1 c2
        by_cases hpk : p = key
        · have hb : (p == key) = true := by simpa using hpk
          have HH : Hid (valF l key o = v) := Lib.hid (by rw [valF_hit o hlt (by rw [← HPV.out]; exact hpk) HN.out, ← HPV.out])
          go_wp2_with fail
          go_ret
          exact ⟨ret_int (HV.out.trans HH.out).symm, B0.out⟩
        · have hb : (p == key) = false := by simpa using hpk
          go_wp2_with fail
          go_roundw
          case rel => exact ⟨j + 1, by omega, by go_num, Lib.hid (fun q hq h => by
            rcases Nat.lt_or_ge q j with h' | h'
            · exact HN.out q hq h'
            · obtain rfl : q = j := by omega
              rw [← HPV.out]; exact hpk), Lib.hid (by first | rfl | trivial)⟩
          case measure => simp [intOf]; omega
      · obtain rfl : j = l.length := by omega
        have HH : Hid (valF l key o = o) := Lib.hid (valF_none o (fun q hq => HN.out q hq hq))
        go_wp2_with fail
        go_ret
        exact ⟨ret_int (HV.out.trans HH.out).symm, B0.out⟩
end Go.Proofs.YtidpjgkjeocgaaaDoor
