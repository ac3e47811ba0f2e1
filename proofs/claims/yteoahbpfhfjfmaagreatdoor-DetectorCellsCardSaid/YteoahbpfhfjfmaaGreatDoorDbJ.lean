/- Layer 3: the iterator over live cables. -/
import Derived.Test.YteoahbpfhfjfmaaGreatDoorDbI
set_option linter.unusedVariables false
set_option linter.unusedSimpArgs false
namespace Go.Proofs.YteoahbpfhfjfmaaGreatDoor
open Go.RowKit
attribute [local go_sem] Oper.semAt_some

/-- A cable's value. -/
abbrev cbV (c : Nat → Int) : Value := .agg #[.int .i64 (c 0), .int .i64 (c 1), .int .i64 (c 2), .int .i64 (c 3), .int .i64 (c 4), .int .i64 (c 5), .int .i64 (c 6), .int .i64 (c 7), .int .i64 (c 8)]
def lvB (t : Int) (c : Nat → Int) : Bool := decide (c 7 ≤ t ∧ t < c 8)
/-- The indices below k of live cables. -/
def lvL (t : Int) (C : Nat → Nat → Int) (n : Nat) : (k : Nat) → k ≤ n → List {i : Nat // i < n}
  | 0, _ => []
  | k + 1, h => if lvB t (C k) = true then lvL t C n k (by omega) ++ [⟨k, by omega⟩] else lvL t C n k (by omega)
theorem lvL_len (t : Int) (C : Nat → Nat → Int) (n : Nat) : ∀ (k : Nat) (h : k ≤ n), (lvL t C n k h).length ≤ k
  | 0, _ => by simp [lvL]
  | k + 1, h => by
    have := lvL_len t C n k (by omega)
    unfold lvL
    split
    · simp; omega
    · omega

set_option maxRecDepth 20000 in
set_option maxHeartbeats 1600000 in
theorem live1_in (F : Fence) (nf : Nat) (h6 : F.fn 89) (hro : F.round = none) (hn : 1 ≤ nf) (l bs bt n₀ n : Nat) (v : Value) (t : Int) (C : Nat → Nat → Int) (J Jx : List {i : Nat // i < n} → World → Prop)
    (hY : ∀ pre (j : {i : Nat // i < n}) W, J pre W → pre.length < n → YieldAt F (nf - 1) Tryz.prog l #[.int .i64 j.1, cbV (C j.1)] W fun e W' =>
      (e = .returned (.bool true) ∧ J (pre ++ [j]) W' ∧ Below n₀ W W') ∨ (e = .returned (.bool false) ∧ Jx (pre ++ [j]) W'))
    (W : World) (hJA : ∀ pre W1 W2, J pre W1 → Below W.heap.size W1 W2 → W.heap.size ≤ W1.heap.size → (∀ k, k < W1.heap.size → W2.heap[k]? = W1.heap[k]?) → J pre W2)
    (hs0 : W.cell? ⟨bs, 0, none⟩ = some v) (ht0 : W.cell? ⟨bt, 0, none⟩ = some (.int .i64 t))
    (hbs : bs < n₀) (hbt : bt < n₀) (hn0 : n₀ ≤ W.heap.size) (hv : Sl 9 W v n C) (hvb : ∀ b off nn cap, v = .slice (some ⟨b, off, none⟩) nn cap → b < n₀) (hnn : n ≤ 1000000) (h0 : J [] W) :
    CallsIn F nf Tryz.prog 89 #[.func (.yield l) #[] #[], .pointer (some ⟨bs, 0, none⟩), .pointer (some ⟨bt, 0, none⟩)] W fun e W' => (∃ v, e = .returned v) ∧
      ((∃ ys, ys = lvL t C n n (Nat.le_refl _) ∧ J ys W') ∨ (∃ pre, (∃ (k : Nat) (hk : k < n), lvB t (C k) = true ∧ pre = lvL t C n k (by omega) ++ [⟨k, hk⟩]) ∧ Jx pre W')) := by
  refine callsIn_of_wp Tryz.func89 rfl h6 ?_ hro
  simp only [Tryz.ntmps89, List.size_toArray, List.length_cons, List.length_nil, Nat.reduceAdd, Nat.reduceSub, Array.replicate_succ, Array.replicate_zero, List.push_toArray, List.append_toArray, List.nil_append, List.cons_append]
  obtain ⟨a, cap, rfl, hc, hp, hr⟩ := hv
  have HY := Lib.hid hY
  have HJA := Lib.hid hJA
  have HR := Lib.hid hr
  have H0 := Lib.hid h0
  have HVB := Lib.hid hvb
  have HT := Lib.hid ht0
  clear hY hJA hr h0 hp hvb ht0
  gi_wp2
  clear hs0
  gi_loopw [8] (fun p wr => ∃ (k : Nat) (hk : k ≤ n), p = .int .i64 k ∧ Hid (J (lvL t C n k hk) wr) ∧ Hid (Below n₀ W wr))
    (fun p wr => n - (intOf p).toNat)
  case atStart => exact ⟨0, Nat.zero_le _, rfl, H0, Lib.hid (Below.refl _ _)⟩
  case round =>
    obtain ⟨k, hk, rfl, hJ, hB⟩ := hrel
    have hsz : W.heap.size ≤ wr.heap.size := hB.out.size
    by_cases hlt : k < n
    · obtain ⟨b, off, rfl, hcell⟩ := HR.out (by omega)
      have hbn := HVB.out _ _ _ _ rfl
      have cw : ∀ j, j < 9 → wr.cell? ⟨b, off + k * 9 + j, none⟩ = some (.int .i64 (C k j)) := fun j hj => by
        rw [hB.out.cell (p := ⟨b, off + k * 9 + j, none⟩) hbn]; exact hcell k j hlt hj
      have d0 := cw 0 (by omega)
      have d1 := cw 1 (by omega)
      have d2 := cw 2 (by omega)
      have d3 := cw 3 (by omega)
      have d4 := cw 4 (by omega)
      have d5 := cw 5 (by omega)
      have d6 := cw 6 (by omega)
      have d7 := cw 7 (by omega)
      have d8 := cw 8 (by omega)
      simp only [Nat.add_zero] at d0
      have hbw := cell_lt d0
      have ht : wr.cell? ⟨bt, 0, none⟩ = some (.int .i64 t) := by rw [hB.out.cell (p := ⟨bt, 0, none⟩) hbt]; exact HT.out
      have hbtw := cell_lt ht
      clear cw hcell HR
      have J1 : Hid (J (lvL t C n k hk) (wr.alloc (.cells #[.int .i64 (C k 0), .int .i64 (C k 1), .int .i64 (C k 2), .int .i64 (C k 3), .int .i64 (C k 4), .int .i64 (C k 5), .int .i64 (C k 6), .int .i64 (C k 7), .int .i64 (C k 8)] 30))) :=
        Lib.hid (HJA.out _ _ _ hJ.out ((Below.refl _ _).alloc hsz _) hsz fun q hq => Below.heap_alloc _ _ _ hq)
      have B1 : Hid (Below n₀ W (wr.alloc (.cells #[.int .i64 (C k 0), .int .i64 (C k 1), .int .i64 (C k 2), .int .i64 (C k 3), .int .i64 (C k 4), .int .i64 (C k 5), .int .i64 (C k 6), .int .i64 (C k 7), .int .i64 (C k 8)] 30))) := Lib.hid (hB.out.alloc (by omega) _)
      by_cases h7 : C k 7 ≤ t
      · by_cases h8 : t < C k 8
        · have hL : Hid (lvL t C n (k + 1) hlt = lvL t C n k hk ++ [⟨k, hlt⟩]) := Lib.hid (by rw [lvL, if_pos (by simp [lvB, h7, h8])])
          obtain ⟨fn, tmps, assign, body, hy, hRd⟩ := HY.out _ ⟨k, hlt⟩ _ J1.out (by have := lvL_len t C n k hk; omega)
          have HRd := Lib.hid hRd
          simp only at hy
          clear hRd HY
          gi_wp2
          refine HRd.out.mono ?_
          rintro e W3 (⟨rfl, hJ3, hk3⟩ | ⟨rfl, hJx3⟩)
          · have B3 := Lib.hid (B1.out.trans hk3)
            have J3 : Hid (J (lvL t C n (k + 1) hlt) W3) := Lib.hid (by rw [hL.out]; exact hJ3)
            clear hJ3 hk3 HRd hy
            gi_wp2
            go_roundw
            case rel => exact ⟨k + 1, hlt, by go_num, J3, B3⟩
            case measure => simp [intOf]; omega
          · have J3 := Lib.hid hJx3
            clear hJx3 HRd hy
            gi_wp2
            exact bodyPost_ret (results_none rfl _ _ _) rfl ⟨⟨_, rfl⟩, .inr ⟨_, ⟨k, hlt, by simp [lvB, h7, h8], rfl⟩, J3.out⟩⟩
        · have hL : Hid (lvL t C n (k + 1) hlt = lvL t C n k hk) := Lib.hid (by rw [lvL, if_neg (by unfold lvB; grind)])
          have J3 : Hid (J (lvL t C n (k + 1) hlt) (wr.alloc (.cells #[.int .i64 (C k 0), .int .i64 (C k 1), .int .i64 (C k 2), .int .i64 (C k 3), .int .i64 (C k 4), .int .i64 (C k 5), .int .i64 (C k 6), .int .i64 (C k 7), .int .i64 (C k 8)] 30))) := Lib.hid (by rw [hL.out]; exact J1.out)
          have h8' : C k 8 ≤ t := by omega
          clear HY
          gi_wp2_with fail
          refine ⟨fun f hf => (by cases hf), ?_⟩
          gi_wp2
          go_roundw
          case rel => exact ⟨k + 1, hlt, by go_num, J3, B1⟩
          case measure => simp [intOf]; omega
      · have hL : Hid (lvL t C n (k + 1) hlt = lvL t C n k hk) := Lib.hid (by rw [lvL, if_neg (by unfold lvB; grind)])
        have J3 : Hid (J (lvL t C n (k + 1) hlt) (wr.alloc (.cells #[.int .i64 (C k 0), .int .i64 (C k 1), .int .i64 (C k 2), .int .i64 (C k 3), .int .i64 (C k 4), .int .i64 (C k 5), .int .i64 (C k 6), .int .i64 (C k 7), .int .i64 (C k 8)] 30))) := Lib.hid (by rw [hL.out]; exact J1.out)
        have h7' : t < C k 7 := by omega
        clear HY
        gi_wp2_with fail
        refine ⟨fun f hf => (by cases hf), ?_⟩
        gi_wp2
        go_roundw
        case rel => exact ⟨k + 1, hlt, by go_num, J3, B1⟩
        case measure => simp [intOf]; omega
    · obtain rfl : k = n := by omega
      gi_wp2
      go_end0
      exact ⟨⟨_, rfl⟩, .inl ⟨_, rfl, hJ.out⟩⟩

/-- The iterator's contract, as the law of a range over a function wants it. -/
theorem live1_stops (F : Fence) (nf : Nat) (h6 : F.fn 89) (hro : F.round = none) (hn : 1 ≤ nf) (bs bt n : Nat) (v : Value) (t : Int) (C : Nat → Nat → Int) (w : World)
    (hs0 : w.cell? ⟨bs, 0, none⟩ = some v) (ht0 : w.cell? ⟨bt, 0, none⟩ = some (.int .i64 t)) (hv : Sl 9 w v n C) (hvb : ∀ b off nn cap, v = .slice (some ⟨b, off, none⟩) nn cap → b < w.heap.size) (hnn : n ≤ 1000000) :
    SeqStopsK F nf Tryz.prog 89 #[.pointer (some ⟨bs, 0, none⟩), .pointer (some ⟨bt, 0, none⟩)] (fun (j : {i : Nat // i < n}) => #[.int .i64 j.1, cbV (C j.1)]) (Below w.heap.size) (fun xs => xs = lvL t C n n (Nat.le_refl _)) (fun pre => ∃ (k : Nat) (hk : k < n), lvB t (C k) = true ∧ pre = lvL t C n k (by omega) ++ [⟨k, hk⟩]) n w := by
  intro l J Jx W hW hJ hJx hY h0
  have b1 := cell_lt hs0
  have b2 := cell_lt ht0
  refine live1_in F nf h6 hro hn l bs bt w.heap.size n v t C J Jx hY W (fun pre W1 W2 h1 h2 h3 h4 => hJ pre W1 W2 none h1 ?_ (fun r e => by cases e)) (by rw [(bcell hW).1 _ _ b1]; exact hs0) (by rw [(bcell hW).1 _ _ b2]; exact ht0) b1 b2 hW.size (hv.below (by decide) hW) hvb hnn h0
  exact ⟨h2.os, h2.tape, h2.output, h2.size, fun k hk _ => h4 k hk⟩
end Go.Proofs.YteoahbpfhfjfmaaGreatDoor
