/- Layer 3: the iterator over a chain. -/
import Derived.RangeFuncNested
import Derived.RangeFuncBound
import Derived.RangeFuncCalls
import Derived.RangeFuncLeaves
import Derived.WalkKit
import Derived.OwnWalkIn
import Derived.TacticsInMore
import Derived.LoopNIn
import Derived.LoopIn
import Derived.Sort.LoopGhostIn
import Derived.Test.YteoahbpfhfjfmaaGreatDoorDbF
set_option linter.unusedVariables false
set_option linter.unusedSimpArgs false
namespace Go.Proofs.YteoahbpfhfjfmaaGreatDoor
open Go.RowKit
attribute [local go_sem] Oper.semAt_some

/-- A chain: from a number (one more than an index, or 0) back through the indices. -/
def Walks (B : Nat → Int) (n : Nat) : Int → List Nat → Prop
  | v, [] => v = 0
  | v, j :: r => v = (j : Int) + 1 ∧ j < n ∧ Walks B n (B j) r

set_option maxRecDepth 20000 in
set_option maxHeartbeats 800000 in
theorem of1_in (F : Fence) (nf : Nat) (h6 : F.fn 102) (hro : F.round = none) (hn : 1 ≤ nf) (l bs bk n₀ x y k n κ : Nat) (L B : Nat → Int) {G : Nat → Prop} (ch : List {j : Nat // G j}) (J Jx : List {j : Nat // G j} → World → Prop)
    (hY : ∀ pre (j : {j : Nat // G j}) W, J pre W → pre.length < ch.length → YieldAt F (nf - 1) Tryz.prog l #[.int .i64 j.1] W fun e W' =>
      (e = .returned (.bool true) ∧ J (pre ++ [j]) W' ∧ Below n₀ W W') ∨ (e = .returned (.bool false) ∧ Jx (pre ++ [j]) W'))
    (W : World) (hs0 : W.cell? ⟨bs, 0, none⟩ = some (.slice (some ⟨x, 0, none⟩) k k)) (hs1 : W.cell? ⟨bs, 1, none⟩ = some (.slice (some ⟨y, 0, none⟩) n n)) (hk0 : W.cell? ⟨bk, 0, none⟩ = some (.int .i64 κ))
    (hbs : bs < n₀) (hbk : bk < n₀) (hxn : x < n₀) (hyn : y < n₀) (hκ : κ < k) (hk : k ≤ 1000000) (hn' : n ≤ 1000000) (hx : Oi W x k L) (hy : Oi W y n B) (hch : Walks B n (L κ) (ch.map (·.1))) (h0 : J [] W) :
    CallsIn F nf Tryz.prog 102 #[.func (.yield l) #[] #[], .pointer (some ⟨bs, 0, none⟩), .pointer (some ⟨bk, 0, none⟩)] W fun e W' => (∃ v, e = .returned v) ∧
      ((∃ ys, ys = ch ∧ J ys W') ∨ (∃ pre, pre <+: ch ∧ Jx pre W')) := by
  refine callsIn_of_wp Tryz.func102 rfl h6 ?_ hro
  simp only [Tryz.ntmps102, List.size_toArray, List.length_cons, List.length_nil, Nat.reduceAdd, Nat.reduceSub, Array.replicate_succ, Array.replicate_zero, List.push_toArray, List.append_toArray, List.nil_append, List.cons_append]
  have cL := hx.cell hκ
  have k0 : (κ : Int) < k := by omega
  have HY := Lib.hid hY
  have HYY := Lib.hid hy
  have HCH := Lib.hid hch
  have H0 := Lib.hid h0
  have HS1 := Lib.hid hs1
  clear hY hy hch h0 hx hs1
  generalize hLk : L κ = v0 at cL HCH
  gi_wp2
  clear cL hs0 hk0
  gi_loopg [4] ch.length (fun g p wr => ∃ (pre rest : List {j : Nat // G j}) (v : Int), g = rest.length ∧ p = .int .i64 v ∧ Hid (ch = pre ++ rest) ∧ Hid (Walks B n v (rest.map (·.1))) ∧ Hid (J pre wr) ∧ Hid (Below n₀ W wr))
  case atStart => exact ⟨[], ch, v0, rfl, rfl, Lib.hid rfl, HCH, H0, Lib.hid (Below.refl _ _)⟩
  case round =>
    obtain ⟨pre, rest, v, rfl, rfl, hc, hw, hJ, hB⟩ := hrel
    cases rest with
    | nil =>
      obtain rfl : v = 0 := hw.out
      gi_wp2
      go_end0
      exact ⟨⟨_, rfl⟩, .inl ⟨pre, by simpa using hc.out.symm, hJ.out⟩⟩
    | cons j r =>
      obtain ⟨rfl, hjn, hr⟩ := hw.out
      obtain ⟨j', hj'⟩ := j
      simp only at hjn hr
      have HR := Lib.hid hr
      have hj0 : (0 : Int) ≤ (j' : Int) := by omega
      have hjn' : (j' : Int) < n := by omega
      obtain ⟨fn, tmps, assign, body, hy, hRd⟩ := HY.out pre ⟨j', hj'⟩ wr hJ.out (by rw [hc.out]; simp)
      have HRd := Lib.hid hRd
      clear hr hRd HY
      gi_wp2
      refine HRd.out.mono ?_
      rintro e W3 (⟨rfl, hJ3, hk3⟩ | ⟨rfl, hJx3⟩)
      · have B3 := Lib.hid (hB.out.trans hk3)
        have cB : W3.cell? ⟨y, j', none⟩ = some (.int .i64 (B j')) := by
          rw [B3.out.cell (p := ⟨y, j', none⟩) hyn]; exact HYY.out.cell hjn
        have cS : W3.cell? ⟨bs, 1, none⟩ = some (.slice (some ⟨y, 0, none⟩) n n) := by
          rw [B3.out.cell (p := ⟨bs, 1, none⟩) hbs]; exact HS1.out
        have J3 := Lib.hid hJ3
        clear hJ3 hk3 HRd hy
        generalize B j' = v1 at cB HR
        gi_wp2
        gi_roundg r.length
        case measure => simp
        case rel => exact ⟨pre ++ [⟨j', hj'⟩], r, v1, rfl, rfl, Lib.hid (by simp [hc.out]), HR, J3, B3⟩
      · have J3 := Lib.hid hJx3
        clear hJx3 HRd hy
        gi_wp2
        exact bodyPost_ret (results_none rfl _ _ _) rfl ⟨⟨_, rfl⟩, .inr ⟨pre ++ [⟨j', hj'⟩], ⟨r, by simp [hc.out]⟩, J3.out⟩⟩

/-- The iterator's contract, as the law of a range over a function wants it. -/
theorem of1_stops (F : Fence) (nf : Nat) (h6 : F.fn 102) (hro : F.round = none) (hn : 1 ≤ nf) (bs bk x y k n κ : Nat) (L B : Nat → Int) {G : Nat → Prop} (ch : List {j : Nat // G j}) (w : World)
    (hs0 : w.cell? ⟨bs, 0, none⟩ = some (.slice (some ⟨x, 0, none⟩) k k)) (hs1 : w.cell? ⟨bs, 1, none⟩ = some (.slice (some ⟨y, 0, none⟩) n n)) (hk0 : w.cell? ⟨bk, 0, none⟩ = some (.int .i64 κ))
    (hκ : κ < k) (hk : k ≤ 1000000) (hn' : n ≤ 1000000) (hx : Oi w x k L) (hy : Oi w y n B) (hch : Walks B n (L κ) (ch.map (·.1))) :
    SeqStopsK F nf Tryz.prog 102 #[.pointer (some ⟨bs, 0, none⟩), .pointer (some ⟨bk, 0, none⟩)] (fun (j : {j : Nat // G j}) => #[.int .i64 j.1]) (Below w.heap.size) (fun xs => xs = ch) (fun pre => pre <+: ch) ch.length w := by
  intro l J Jx W hW hJ hJx hY h0
  have b1 := cell_lt hs0
  have b2 := cell_lt hk0
  exact of1_in F nf h6 hro hn l bs bk w.heap.size x y k n κ L B ch J Jx hY W (by rw [(bcell hW).1 _ _ b1]; exact hs0) (by rw [(bcell hW).1 _ _ b1]; exact hs1) (by rw [(bcell hW).1 _ _ b2]; exact hk0)
    b1 b2 hx.lt hy.lt hκ hk hn' (hx.below hW hx.lt) (hy.below hW hy.lt) hch h0
end Go.Proofs.YteoahbpfhfjfmaaGreatDoor
