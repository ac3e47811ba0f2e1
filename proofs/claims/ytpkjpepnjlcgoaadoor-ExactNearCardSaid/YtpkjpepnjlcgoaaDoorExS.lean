/- Ratios: terms, Lowest, Make, Over. -/
import Derived.Test.YtpkjpepnjlcgoaaDoorExR
set_option linter.unusedVariables false
set_option linter.unusedSimpArgs false
namespace Go.Proofs.YtpkjpepnjlcgoaaDoor
open Go.RowKit

/-- The terms of a ratio. -/
def tP (p q : Int) : Int := if q = 0 then 0 else if q < 0 then -p else p
def tQ (q : Int) : Int := if q = 0 then 1 else if q < 0 then -q else q
theorem tQ_pos (q : Int) : 0 < tQ q := by unfold tQ; split <;> (first | omega | (split <;> omega))
theorem Two.mono {w : World} {p q : Int} {n m n' m' : Nat} {e : Ending} {w' : World} (h : Two w p q n m e w') (hn : n ≤ n') (hm : m ≤ m') : Two w p q n' m' e w' := by
  obtain ⟨r, s, k, j, h1, h2, h3, h4, h5, h6⟩ := h
  exact ⟨r, s, k, j, h1, h2, h3, by omega, by omega, h6⟩
theorem terms_any (u : Value) (n m : Nat) (p q : Int) (w : World) (hu : AR w u n m p q) (hn : n ≤ 1000000000) (hm : m ≤ 1000000000) :
    Calls Tryd.prog 36 #[u] w (Two w (tP p q) (tQ q) n (max m 2)) := by
  by_cases h0 : q = 0
  · rw [show tP p q = 0 by simp [tP, h0], show tQ q = 1 by simp [tQ, h0]]
    exact (terms_zero u n m p q w hu hn hm h0).mono fun e w' h => h.mono (by omega) (by omega)
  by_cases h1 : q < 0
  · rw [show tP p q = -p by simp [tP, h0, h1], show tQ q = -q by simp [tQ, h0, h1]]
    exact (terms_neg u n m p q w hu hn hm h1).mono fun e w' h => h.mono (by omega) (by omega)
  · rw [show tP p q = p by simp [tP, h0, h1], show tQ q = q by simp [tQ, h0, h1]]
    exact (terms_pos u n m p q w hu hn hm (by omega)).mono fun e w' h => h.mono (by omega) (by omega)
theorem Lo.z {w : World} {p q p' q' : Int} {n m n' m' : Nat} {e : Ending} {w' : World} (h : Lo w p q n m e w') (h1 : p = p') (h2 : q = q') (hn : n ≤ n') (hm : m ≤ m') : Lo w p' q' n' m' e w' := by
  subst h1 h2
  obtain ⟨r, k, j, h1, h2, h3, h4, h5⟩ := h
  exact ⟨r, k, j, h1, h2, by omega, by omega, h5⟩
/-- A ratio and no error are returned. -/
def Lo2 (w : World) (p q : Int) (n m : Nat) (e : Ending) (w' : World) : Prop :=
  ∃ r k j, e = .returned (.tuple #[r, .int .i64 0]) ∧ RR w' w.heap.size r k j p q ∧ k ≤ n ∧ j ≤ m ∧ Below w.heap.size w w'
/-- A ratio in lowest terms. -/
def lP (p q : Int) : Int := tP p q / Int.gcd (tP p q) (tQ q)
def lQ (p q : Int) : Int := tQ q / Int.gcd (tP p q) (tQ q)

set_option maxHeartbeats 1600000 in
theorem Lowest_any {L : Nat} (hC : ComFits L) (hD : DivFits L) (u : Value) (n m : Nat) (p q : Int) (w : World) (hT : Tab w) (hu : AR w u n m p q) (hn : n ≤ L) (hm : max m 2 ≤ L) (hL : L ≤ 1000000) :
    Calls Tryd.prog 16 #[u] w (Lo w (lP p q) (lQ p q) n (max m 2)) := by
  obtain ⟨g, a, c, g', a', c', rfl⟩ := hu.form
  have HU := Lib.hid hu
  have HT := Lib.hid hT
  clear hu hT
  go_enter Tryd.func16, Tryd.ntmps16
  go_wp2_with fail
  refine (terms_any _ n m p q _ (HU.out.below (by repeat (first | exact Below.refl _ _ | exact Nat.le_refl _ | (apply Below.alloc) | (refine Below.setCell ?_ (by first | exact Nat.le_refl _ | (simp <;> omega)) _) | (simp <;> omega)))) (by omega) (by omega)).mono ?_
  rintro e w1 ⟨r, s, k, j, rfl, hr, hs, hk, hj, hB⟩
  have HR := Lib.hid hr
  have HS := Lib.hid hs
  have HB := Lib.hid hB
  clear hr hs hB
  go_wp2_with fail
  refine (lowest_any hC hD r s k j (tP p q) (tQ q) w1 (HT.out.up (Below.up (by repeat (first | exact Below.refl _ _ | exact Nat.le_refl _ | (apply Below.alloc) | (refine Below.setCell ?_ (by first | exact Nat.le_refl _ | (simp <;> omega)) _) | (simp <;> omega))) HB.out)) HR.out HS.out (by omega) (by omega) hL (tQ_pos q)).mono ?_
  rintro e w2 ⟨r2, k2, j2, rfl, hR, hk2, hj2, hB2⟩
  obtain ⟨g3, a3, c3, g4, a4, c4, rfl⟩ := hR.form
  have BT := Lib.hid (Below.up HB.out hB2)
  obtain ⟨hcc, hff⟩ := bcell BT.out
  have hz := HB.out.size
  simp at hz
  have hz2 := hB2.size
  have hd1 : w.heap.size + 1 < w2.heap.size := by omega
  have HR2 := Lib.hid hR
  clear hR hB2
  go_wp2_with fail
  obtain ⟨f1, f2⟩ := fin_RR (w := w) (t := w.heap.size + 1) HR2.out (by omega) (by omega) (by omega) (Below.up (u := w) (by repeat (first | exact Below.refl _ _ | exact Nat.le_refl _ | (apply Below.alloc) | (refine Below.setCell ?_ (by first | exact Nat.le_refl _ | (simp <;> omega)) _) | (simp <;> omega))) BT.out) (.bool g3) (.slice a3 k2 c3) (.bool g4) (.slice a4 j2 c4)
  exact bodyPost_ret (v := .agg #[.bool g3, .slice a3 k2 c3, .bool g4, .slice a4 j2 c4]) (by simp [results, Tryd.results16, go_sem, hcc]) rfl ⟨_, k2, j2, rfl, f1, by omega, by omega, f2⟩

theorem ar_two {w : World} {g : Bool} {a : Option Addr} {c : Nat} {g' : Bool} {a' : Option Addr} {c' : Nat} {n m : Nat} {p q : Int} (h : AI w (.agg #[.bool g, .slice a n c]) n p) (h' : AI w (.agg #[.bool g', .slice a' m c']) m q) : AR w (.agg #[.bool g, .slice a n c, .bool g', .slice a' m c']) n m p q := ⟨_, _, _, _, rfl, h, h'⟩

set_option maxHeartbeats 1600000 in
theorem Make_any {L : Nat} (hC : ComFits L) (hD : DivFits L) (u v : Value) (n m : Nat) (p q : Int) (w : World) (hT : Tab w) (hu : AI w u n p) (hv : AI w v m q) (hn : n ≤ L) (hm : max m 2 ≤ L) (hL : L ≤ 1000000) (hq : q ≠ 0) :
    Calls Tryd.prog 81 #[u, v] w (Lo2 w (lP p q) (lQ p q) n (max m 2)) := by
  obtain ⟨g, a, c, rfl⟩ := hu.form
  obtain ⟨g', a', c', rfl⟩ := hv.form
  have HU := Lib.hid hu
  have HV := Lib.hid hv
  have HT := Lib.hid hT
  have ho : (ord q 0 == 0) = false := by
    have : ord q 0 ≠ 0 := by unfold ord; split <;> (first | omega | (split <;> omega))
    simp [this]
  generalize ho' : ord q 0 = o at ho
  have HO := Lib.hid ho'
  clear hu hv hT hq ho'
  go_enter Tryd.func81, Tryd.ntmps81
  go_wp2_with fail
  refine (Sign_any _ m q _ (HV.out.below (by repeat (first | exact Below.refl _ _ | exact Nat.le_refl _ | (apply Below.alloc) | (refine Below.setCell ?_ (by first | exact Nat.le_refl _ | (simp <;> omega)) _) | (simp <;> omega)))) (by omega)).mono ?_
  rintro e w1 ⟨rfl, hB⟩
  rw [HO.out]
  obtain ⟨hcc, hff⟩ := bcell hB
  have HB := Lib.hid hB
  clear hB
  go_wp2_with fail
  refine (Lowest_any hC hD _ n m p q w1 (HT.out.up (Below.up (by repeat (first | exact Below.refl _ _ | exact Nat.le_refl _ | (apply Below.alloc) | (refine Below.setCell ?_ (by first | exact Nat.le_refl _ | (simp <;> omega)) _) | (simp <;> omega))) HB.out)) (ar_two (HU.out.below (Below.up (by repeat (first | exact Below.refl _ _ | exact Nat.le_refl _ | (apply Below.alloc) | (refine Below.setCell ?_ (by first | exact Nat.le_refl _ | (simp <;> omega)) _) | (simp <;> omega))) HB.out)) (HV.out.below (Below.up (by repeat (first | exact Below.refl _ _ | exact Nat.le_refl _ | (apply Below.alloc) | (refine Below.setCell ?_ (by first | exact Nat.le_refl _ | (simp <;> omega)) _) | (simp <;> omega))) HB.out))) hn hm hL).mono ?_
  rintro e w2 ⟨r2, k2, j2, rfl, hR, hk2, hj2, hB2⟩
  obtain ⟨g3, a3, c3, g4, a4, c4, rfl⟩ := hR.form
  have BT := Lib.hid (Below.up HB.out hB2)
  obtain ⟨hcc2, hff2⟩ := bcell BT.out
  have hz := HB.out.size
  simp at hz
  have hz2 := hB2.size
  have hd1 : w.heap.size + 1 + 1 < w2.heap.size := by omega
  have HR2 := Lib.hid hR
  clear hR hB2 hcc hff
  go_wp2_with fail
  obtain ⟨f1, f2⟩ := fin_RR (w := w) (t := w.heap.size + 1 + 1) HR2.out (by omega) (by omega) (by omega) (Below.up (u := w) (by repeat (first | exact Below.refl _ _ | exact Nat.le_refl _ | (apply Below.alloc) | (refine Below.setCell ?_ (by first | exact Nat.le_refl _ | (simp <;> omega)) _) | (simp <;> omega))) BT.out) (.bool g3) (.slice a3 k2 c3) (.bool g4) (.slice a4 j2 c4)
  exact bodyPost_ret (v := .tuple #[.agg #[.bool g3, .slice a3 k2 c3, .bool g4, .slice a4 j2 c4], .int .i64 0]) (by simp [results, Tryd.results81, go_sem, hcc2]) rfl ⟨_, k2, j2, rfl, f1, by omega, by omega, f2⟩

set_option maxHeartbeats 1600000 in
theorem Over_any {L : Nat} (hC : ComFits L) (hD : DivFits L) (p q : Int) (w : World) (hT : Tab w) (hp : -9223372036854775808 ≤ p ∧ p ≤ 9223372036854775807) (hq : -9223372036854775808 ≤ q ∧ q ≤ 9223372036854775807) (hL : L ≤ 1000000) (h2 : 2 ≤ L) (hq0 : q ≠ 0) :
    Calls Tryd.prog 58 #[.int .i64 p, .int .i64 q] w (Lo2 w (lP p q) (lQ p q) 2 2) := by
  have HT := Lib.hid hT
  have HP := Lib.hid hp
  have HQ := Lib.hid hq
  clear hp hq hT
  go_enter Tryd.func58, Tryd.ntmps58
  go_wp2_with fail
  refine (Of_any p HP.out _).mono ?_
  rintro e w1 ⟨r, k, rfl, hR, hk, hB⟩
  have HR := Lib.hid hR
  have HB := Lib.hid hB
  clear hR hB
  go_wp2_with fail
  refine (Of_any q HQ.out _).mono ?_
  rintro e w2 ⟨s, j, rfl, hS, hj, hB⟩
  have HS := Lib.hid hS
  have HB1 := Lib.hid (Below.up HB.out hB)
  have HR1 := Lib.hid (HR.out.below hB)
  clear hS hB
  go_wp2_with fail
  refine (Make_any hC hD r s k j p q w2 (HT.out.up (Below.up (by repeat (first | exact Below.refl _ _ | exact Nat.le_refl _ | (apply Below.alloc) | (refine Below.setCell ?_ (by first | exact Nat.le_refl _ | (simp <;> omega)) _) | (simp <;> omega))) HB1.out)) HR1.out.ai HS.out.ai (by omega) (by omega) hL hq0).mono ?_
  rintro e w3 ⟨r2, k2, j2, rfl, hR, hk2, hj2, hB2⟩
  obtain ⟨g3, a3, c3, g4, a4, c4, rfl⟩ := hR.form
  have BT := Lib.hid (Below.up HB1.out hB2)
  obtain ⟨hcc2, hff2⟩ := bcell BT.out
  have hz := HB1.out.size
  simp at hz
  have hz2 := hB2.size
  have hd1 : w.heap.size < w3.heap.size := by omega
  have HR2 := Lib.hid hR
  clear hR hB2
  go_wp2_with fail
  obtain ⟨f1, f2⟩ := fin_RR (w := w) (t := w.heap.size) HR2.out (by omega) (by omega) (by omega) (Below.up (u := w) (by repeat (first | exact Below.refl _ _ | exact Nat.le_refl _ | (apply Below.alloc) | (refine Below.setCell ?_ (by first | exact Nat.le_refl _ | (simp <;> omega)) _) | (simp <;> omega))) BT.out) (.bool g3) (.slice a3 k2 c3) (.bool g4) (.slice a4 j2 c4)
  exact bodyPost_ret (v := .tuple #[.agg #[.bool g3, .slice a3 k2 c3, .bool g4, .slice a4 j2 c4], .int .i64 0]) (by simp [results, Tryd.results58, go_sem, hcc2]) rfl ⟨_, k2, j2, rfl, f1, by omega, by omega, f2⟩

set_option maxHeartbeats 1600000 in
theorem over_any {L : Nat} (hC : ComFits L) (hD : DivFits L) (p q : Int) (w : World) (hT : Tab w) (hp : -9223372036854775808 ≤ p ∧ p ≤ 9223372036854775807) (hq : -9223372036854775808 ≤ q ∧ q ≤ 9223372036854775807) (hL : L ≤ 1000000) (h2 : 2 ≤ L) (hq0 : q ≠ 0) :
    Calls Tryd.prog 31 #[.int .i64 p, .int .i64 q] w (Lo w (lP p q) (lQ p q) 2 2) := by
  have HT := Lib.hid hT
  have HP := Lib.hid hp
  have HQ := Lib.hid hq
  clear hp hq hT
  go_enter Tryd.func31, Tryd.ntmps31
  go_wp2_with fail
  refine (Over_any hC hD p q _ (HT.out.up (by repeat (first | exact Below.refl _ _ | exact Nat.le_refl _ | (apply Below.alloc) | (refine Below.setCell ?_ (by first | exact Nat.le_refl _ | (simp <;> omega)) _) | (simp <;> omega)))) HP.out HQ.out hL h2 hq0).mono ?_
  rintro e w3 ⟨r2, k2, j2, rfl, hR, hk2, hj2, hB2⟩
  obtain ⟨g3, a3, c3, g4, a4, c4, rfl⟩ := hR.form
  have BT := Lib.hid hB2
  obtain ⟨hcc2, hff2⟩ := bcell BT.out
  have hz := hB2.size
  simp at hz
  have hd1 : w.heap.size < w3.heap.size := by omega
  have HR2 := Lib.hid hR
  clear hR hB2
  go_wp2_with fail
  obtain ⟨f1, f2⟩ := fin_RR (w := w) (t := w.heap.size) HR2.out (by simp) (by omega) (by simp) (Below.up (u := w) (by repeat (first | exact Below.refl _ _ | exact Nat.le_refl _ | (apply Below.alloc) | (refine Below.setCell ?_ (by first | exact Nat.le_refl _ | (simp <;> omega)) _) | (simp <;> omega))) BT.out) (.bool g3) (.slice a3 k2 c3) (.bool g4) (.slice a4 j2 c4)
  exact bodyPost_ret (v := .agg #[.bool g3, .slice a3 k2 c3, .bool g4, .slice a4 j2 c4]) (by simp [results, Tryd.results31, go_sem, hcc2, hd1, Nat.ne_of_lt hd1, Nat.ne_of_gt hd1]) rfl ⟨_, k2, j2, rfl, f1.below ((Below.refl _ _).alloc (Nat.le_refl _) _), by omega, by omega, Below.up f2 ((Below.refl _ _).alloc (Nat.le_refl _) _)⟩
end Go.Proofs.YtpkjpepnjlcgoaaDoor
