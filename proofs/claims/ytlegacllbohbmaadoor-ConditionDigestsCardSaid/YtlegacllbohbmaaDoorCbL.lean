/- Layer 4: tags found. -/
import Derived.Test.YtlegacllbohbmaaDoorCbK
set_option linter.unusedVariables false
set_option linter.unusedSimpArgs false
namespace Go.Proofs.YtlegacllbohbmaaDoor
open Go.RowKit Go.Shelf

theorem tgC_len (x : ByteArray × (Nat → Int)) : (tgC x).length = 8 := by simp [tgC]
theorem flat8 {α : Type} (g : α → List Value) (hg : ∀ x, (g x).length = 8) : ∀ (l : List α) (i j : Nat) (h : i < l.length) (hj : j < 8), (l.flatMap g)[i * 8 + j]? = (g l[i])[j]?
  | [], _, _, h, _ => by simp at h
  | x :: l, 0, j, _, hj => by
    rw [List.flatMap_cons, List.getElem?_append_left (by rw [hg]; omega)]
    simp
  | x :: l, i + 1, j, h, hj => by
    rw [List.flatMap_cons, List.getElem?_append_right (by rw [hg]; omega), hg, show (i + 1) * 8 + j - 8 = i * 8 + j by omega, flat8 g hg l i j (by simpa using h) hj]
    simp
/-- The tags in memory. -/
def TagS (W : World) (v : Value) (tg : List (ByteArray × (Nat → Int))) : Prop :=
  ∃ a cap, v = .slice a tg.length cap ∧ (0 < tg.length → ∃ g, a = some ⟨g, 0, none⟩ ∧ ∀ i (h : i < tg.length), W.cell? ⟨g, i * 8, none⟩ = some (.string (tg[i]).1) ∧ ∀ j, j < 7 → W.cell? ⟨g, i * 8 + (1 + j), none⟩ = some (.int .i64 ((tg[i]).2 j)))
theorem Rw.tagS {B : Nat} {W : World} {v : Value} {tg : List (ByteArray × (Nat → Int))} (h : Rw 72 8 B W v tg.length (tg.flatMap tgC)) : TagS W v tg := by
  rcases h.2 with ⟨rfl, h0⟩ | ⟨g, cap, f, rfl, hB, hf, hc, hm, hx⟩
  · exact ⟨none, 0, by rw [h0], fun h1 => by omega⟩
  · refine ⟨_, cap, rfl, fun h0 => ⟨g, rfl, fun i hi => ?_⟩⟩
    have m : tg.length * 8 ≤ cap * 8 := Nat.mul_le_mul_right _ hc
    have get : ∀ j, j < 8 → W.cell? ⟨g, i * 8 + j, none⟩ = (tgC tg[i])[j]? := fun j hj => by
      have x1 := hx (i * 8 + j) (by omega)
      rw [flat8 tgC tgC_len tg i j hi hj] at x1
      rw [hf.cell (by omega), ← x1]
    refine ⟨by rw [show i * 8 = i * 8 + 0 from rfl, get 0 (by omega)]; rfl, fun j hj => ?_⟩
    rw [get (1 + j) (by omega), Nat.add_comm 1 j]
    simp [tgC, hj]
theorem TagS.below {W W' : World} {v : Value} {tg : List (ByteArray × (Nat → Int))} (h : TagS W v tg) (k : Below W.heap.size W W') : TagS W' v tg := by
  obtain ⟨a, cap, rfl, hc⟩ := h
  refine ⟨a, cap, rfl, fun h0 => ?_⟩
  obtain ⟨g, rfl, hcc⟩ := hc h0
  exact ⟨g, rfl, fun i hi => ⟨bc k (hcc i hi).1, fun j hj => bc k ((hcc i hi).2 j hj)⟩⟩
/-- The index of the first tag with a name, or -1. -/
def tagI (tg : List (ByteArray × (Nat → Int))) (s : ByteArray) : Int := match tg.findIdx? (fun x => x.1 == s) with | some i => (i : Int) | none => -1

theorem tag1_any (x s : ByteArray) (v0 v1 v2 v3 v4 v5 v6 : Int) (nb : Nat) (w : World) (hc : w.cell? ⟨nb, 0, none⟩ = some (.string s)) (b : Bool) (hb : (x == s) = b) :
    Calls Tryd.prog 49 #[.agg #[.string x, .int .i64 v0, .int .i64 v1, .int .i64 v2, .int .i64 v3, .int .i64 v4, .int .i64 v5, .int .i64 v6], .pointer (some ⟨nb, 0, none⟩)] w fun e w' => e = .returned (.bool b) ∧ Below w.heap.size w w' := by
  have HB := Lib.hid hb
  have c1 := bc ((Below.refl _ _).alloc (Nat.le_refl _) (.cells #[.string x, .int .i64 v0, .int .i64 v1, .int .i64 v2, .int .i64 v3, .int .i64 v4, .int .i64 v5, .int .i64 v6] 72)) hc
  clear hb
  go_enter Tryd.func49, Tryd.ntmps49
  go_wp2_with fail
  go_ret
  exact ⟨ret_bool (by rw [← beq_toListBytes]; exact HB.out), (Below.refl _ _).alloc (Nat.le_refl _) _⟩

set_option maxRecDepth 100000 in
set_option maxHeartbeats 1600000 in
theorem index_any (v : Value) (tg : List (ByteArray × (Nat → Int))) (s : ByteArray) (nb : Nat) (w : World) (h : TagS w v tg) (hc : w.cell? ⟨nb, 0, none⟩ = some (.string s)) (hl : tg.length ≤ 64) :
    Calls Tryd.prog 48 #[v, .func (.func 49) #[] #[.pointer (some ⟨nb, 0, none⟩)]] w fun e w' => e = .returned (.int .i64 (tagI tg s)) ∧ Below w.heap.size w w' := by
  obtain ⟨a, cap, rfl, _⟩ := id h
  have H := Lib.hid h
  have HC := Lib.hid hc
  clear h hc
  go_enter Tryd.func48, Tryd.ntmps48
  go_wp2_with fail
  go_loopw [8] (fun i wr => ∃ k : Nat, k ≤ tg.length ∧ i = .int .i64 k ∧ Hid (∀ j (h : j < tg.length), j < k → ((tg[j]).1 == s) = false) ∧ Hid (Below w.heap.size w wr)) (fun i _ => tg.length - (intOf i).toNat)
  case atStart => exact ⟨0, Nat.zero_le _, rfl, Lib.hid (fun j h hj => by omega), Lib.hid (Below.refl _ _)⟩
  case round =>
    obtain ⟨k, hk, rfl, HN, BL⟩ := hrel
    by_cases hlt : k < tg.length
    · obtain ⟨a', cap', e0, hcc⟩ := H.out.below BL.out
      cases e0
      obtain ⟨g, rfl, hcell⟩ := hcc (by omega)
      obtain ⟨c0, c1⟩ := hcell k hlt
      have q0 := c1 0 (by omega)
      have q1 := c1 1 (by omega)
      have q2 := c1 2 (by omega)
      have q3 := c1 3 (by omega)
      have q4 := c1 4 (by omega)
      have q5 := c1 5 (by omega)
      have q6 := c1 6 (by omega)
      simp only [Nat.reduceAdd] at q0 q1 q2 q3 q4 q5 q6
      clear c1 hcell hcc
      have CC := Lib.hid (bc BL.out HC.out)
      obtain ⟨⟨x, vv⟩, hx⟩ : ∃ x, x = tg[k] := ⟨_, rfl⟩
      rw [← hx] at c0 q0 q1 q2 q3 q4 q5 q6
      have HXX := Lib.hid hx
      clear hx
      simp only at c0 q0 q1 q2 q3 q4 q5 q6
      generalize vv 0 = p0 at *
      generalize vv 1 = p1 at *
      generalize vv 2 = p2 at *
      generalize vv 3 = p3 at *
      generalize vv 4 = p4 at *
      generalize vv 5 = p5 at *
      generalize vv 6 = p6 at *
      cases hb : (x == s)
      all_goals have HBB := Lib.hid hb
      all_goals clear hb
      · go_wp2_with fail
        refine (tag1_any x s _ _ _ _ _ _ _ nb _ CC.out false HBB.out).mono ?_
        rintro e w2 ⟨rfl, b2⟩
        have B2 := Lib.hid (Below.up BL.out b2)
        clear b2 c0 q0 q1 q2 q3 q4 q5 q6
        go_wp2_with fail
        go_roundw
        case rel => exact ⟨k + 1, by omega, by go_num, Lib.hid (fun j h hj => by
          rcases Nat.lt_or_ge j k with h1 | h1
          · exact HN.out j h h1
          · have : j = k := by omega
            subst this
            rw [← HXX.out]; exact HBB.out), B2⟩
        case measure => simp [intOf]; omega
      · go_wp2_with fail
        refine (tag1_any x s _ _ _ _ _ _ _ nb _ CC.out true HBB.out).mono ?_
        rintro e w2 ⟨rfl, b2⟩
        have B2 := Lib.hid (Below.up BL.out b2)
        clear b2 c0 q0 q1 q2 q3 q4 q5 q6
        go_wp2_with fail
        go_ret
        refine ⟨ret_int ?_, B2.out⟩
        have : tg.findIdx? (fun x => x.1 == s) = some k := by
          rw [List.findIdx?_eq_some_iff_getElem]
          exact ⟨hlt, by rw [← HXX.out]; exact HBB.out, fun j hj => by simpa using HN.out j (by omega) hj⟩
        unfold tagI
        rw [this]
    · obtain rfl : k = tg.length := by omega
      go_wp2_with fail
      go_ret
      refine ⟨ret_int ?_, BL.out⟩
      have : tg.findIdx? (fun x => x.1 == s) = none := by
        rw [List.findIdx?_eq_none_iff]
        intro x hx
        obtain ⟨j, hj, rfl⟩ := List.mem_iff_getElem.1 hx
        exact HN.out j hj hj
      unfold tagI
      rw [this]

theorem findTag_at (bb : Nat) (tv : Value) (tg : List (ByteArray × (Nat → Int))) (s : ByteArray) (w : World) (c0 : w.cell? ⟨bb, 0, none⟩ = some (.pointer (some ⟨bb, 0, none⟩))) (c9 : w.cell? ⟨bb, 9, none⟩ = some tv) (h : TagS w tv tg) (hl : tg.length ≤ 64) :
    Calls Tryd.prog 28 #[.pointer (some ⟨bb, 0, none⟩), .string s] w fun e w' => e = .returned (.int .i64 (tagI tg s)) ∧ Below w.heap.size w w' := by
  have b1 : Below w.heap.size w (w.alloc (.cells #[.string s] 9)) := (Below.refl _ _).alloc (Nat.le_refl _) _
  have B1 := Lib.hid b1
  have d0 := bc b1 c0
  have d9 := bc b1 c9
  have H := Lib.hid (h.below b1)
  have HC : Hid ((w.alloc (.cells #[.string s] 9)).cell? ⟨w.heap.size, 0, none⟩ = some (.string s)) := Lib.hid (by simp [go_sem])
  clear b1 c0 c9 h
  go_enter Tryd.func28, Tryd.ntmps28
  go_wp2_with fail
  refine (isMade_yes bb _ d0).mono ?_
  rintro e w' ⟨rfl, rfl⟩
  go_wp2_with fail
  refine (index_any _ tg s _ _ H.out HC.out hl).mono ?_
  rintro e w2 ⟨rfl, b2⟩
  have B2 := Lib.hid (Below.up B1.out b2)
  clear b2
  go_wp2_with fail
  go_ret
  exact ⟨rfl, B2.out⟩
theorem checkTagged_0 (bb : Nat) (k : Int) (w : World) : Calls Tryd.prog 29 #[.pointer (some ⟨bb, 0, none⟩), .int .i64 k, .int .i64 0] w fun e w' => e = .returned (.int .i64 0) ∧ w = w' := by
  go_enter Tryd.func29, Tryd.ntmps29
  go_wp2_with fail
  go_ret
  exact ⟨rfl, rfl⟩
theorem checkTagged_at (bb mb clk : Nat) (es : Array MapEntry) (vs : List ((Int × Int) × Vr)) (vbs : List Nat) (k n : Int) (j vb : Nat) (w : World) (c0 : w.cell? ⟨bb, 0, none⟩ = some (.pointer (some ⟨bb, 0, none⟩))) (c1 : w.cell? ⟨bb, 1, none⟩ = some (.map (some mb)))
    (hb : w.heap[mb]? = some (.map es clk)) (hm : MapIs es vs vbs) (hj : fnd vs k n = some j) (hv : vbs[j]? = some vb) (hc : w.cell? ⟨vb, 0, none⟩ = some (.bool true)) (hn : n ≠ 0) :
    Calls Tryd.prog 29 #[.pointer (some ⟨bb, 0, none⟩), .int .i64 k, .int .i64 n] w fun e w' => e = .returned (.int .i64 0) ∧ w = w' := by
  have HF := Lib.hid (find_at bb mb clk es vs vbs k n w c0 c1 hb hm)
  rw [show verP vs vbs k n = .pointer (some ⟨vb, 0, none⟩) from by unfold verP; rw [hj]; simp [hv]] at HF
  have hn' : (n == 0) = false := by simpa using hn
  clear hb hm hj hv hn
  go_enter Tryd.func29, Tryd.ntmps29
  go_wp2_with fail
  refine HF.out.mono ?_
  rintro e w' ⟨rfl, rfl⟩
  go_wp2_with fail
  go_ret
  exact ⟨rfl, rfl⟩
end Go.Proofs.YtlegacllbohbmaaDoor
