/- shows, Div, Plus of short numbers. -/
import Derived.Test.YtpkjpepnjlcgoaaDoorExT
set_option linter.unusedVariables false
set_option linter.unusedSimpArgs false
namespace Go.Proofs.YtpkjpepnjlcgoaaDoor
open Go.RowKit

set_option maxHeartbeats 800000 in
theorem shows_true (u : Value) (n m : Nat) (p q : Int) (S : ByteArray) (w : World) (hu : AR w u n m p q)
    (hS : ∀ w', Below w.heap.size w w' → Calls Tryd.prog 15 #[u] w' fun e w'' => e = .returned (.string S) ∧ Below w'.heap.size w' w'') :
    Calls Tryd.prog 32 #[u, .string S] w fun e w' => e = .returned (.bool true) ∧ Below w.heap.size w w' := by
  obtain ⟨g, a, c, g', a', c', rfl⟩ := hu.form
  have HS := Lib.hid hS
  clear hS hu
  go_enter Tryd.func32, Tryd.ntmps32
  go_wp2_with fail
  refine (HS.out _ (by repeat (first | exact Below.refl _ _ | exact Nat.le_refl _ | (apply Below.alloc) | (refine Below.setCell ?_ (by first | exact Nat.le_refl _ | (simp <;> omega)) _) | (simp <;> omega)))).mono ?_
  rintro e w1 ⟨rfl, hB⟩
  have HB := Lib.hid (Below.up (u := w) (by repeat (first | exact Below.refl _ _ | exact Nat.le_refl _ | (apply Below.alloc) | (refine Below.setCell ?_ (by first | exact Nat.le_refl _ | (simp <;> omega)) _) | (simp <;> omega))) hB)
  clear hB
  go_wp2_with fail
  go_ret
  exact ⟨by simp, HB.out⟩

theorem Nt.form {w : World} {base : Nat} {v : Value} {n : Nat} {z : Int} (h : Nt w base v n z) : ∃ a cap, v = .slice a n cap := by
  obtain ⟨x, ⟨a, cap, rfl, _⟩, _⟩ := h
  exact ⟨a, cap, rfl⟩
/-- Two integers and no error are returned. -/
def Dv (w : World) (p q : Int) (e : Ending) (w' : World) : Prop :=
  ∃ r s k j, e = .returned (.tuple #[r, s, .int .i64 0]) ∧ RI w' w.heap.size r k p ∧ RI w' w.heap.size s j q ∧ k ≤ 3 ∧ j ≤ 3 ∧ Below w.heap.size w w'

set_option maxHeartbeats 1600000 in
theorem Div_pn (u v : Value) (n m : Nat) (p q : Int) (w : World) (hu : AI w u n p) (hv : AI w v m q) (hn : n ≤ 2) (hm : m ≤ 2) (hp : 0 < p) (hq : q < 0) (hr : p % (-q) ≠ 0) :
    Calls Tryd.prog 30 #[u, v] w (Dv w (-(p / (-q) + 1)) (-(-q - p % (-q)))) := by
  obtain ⟨ng, a, cap, rfl⟩ := hu.form
  obtain ⟨ng2, a2, cap2, rfl⟩ := hv.form
  obtain ⟨k, b, hk, hb, hN, hS⟩ := split_ai hu (by omega)
  obtain ⟨k2, b2, hk2, hb2, hN2, hS2⟩ := split_ai hv (by omega)
  have := sg_is_false hb hp
  subst this
  have := sg_is_true hb2 hq
  subst this
  rw [show (p.natAbs : Int) = p by omega] at hN
  rw [show (q.natAbs : Int) = -q by omega] at hN2
  have hk0 : ¬ (k2 = 0) := fun h => by have := hN2.zero.1 h; omega
  have hle : p % (-q) ≤ -q := by have := Int.emod_lt_of_pos p (show 0 < -q by omega); omega
  have S1 := Lib.hid hS
  have S2 := Lib.hid hS2
  have N1 := Lib.hid hN
  have N2 := Lib.hid hN2
  have HQ := Lib.hid (show 0 < -q by omega)
  have HR := Lib.hid hr
  have HL := Lib.hid hle
  clear hu hv hS hS2 hN hN2 hb hb2 hp hq hr hle
  go_enter Tryd.func30, Tryd.ntmps30
  go_wp2_with fail
  refine (S1.out _ (by repeat (first | exact Below.refl _ _ | exact Nat.le_refl _ | (apply Below.alloc) | (refine Below.setCell ?_ (by first | exact Nat.le_refl _ | (simp <;> omega)) _) | (simp <;> omega)))).mono ?_
  rintro e w1 ⟨rfl, rfl⟩
  go_wp2_with fail
  refine (S2.out _ (by repeat (first | exact Below.refl _ _ | exact Nat.le_refl _ | (apply Below.alloc) | (refine Below.setCell ?_ (by first | exact Nat.le_refl _ | (simp <;> omega)) _) | (simp <;> omega)))).mono ?_
  rintro e w1 ⟨rfl, rfl⟩
  go_wp2_with fail
  refine (divide_short _ _ _ _ _ _ _ (N1.out.below (by repeat (first | exact Below.refl _ _ | exact Nat.le_refl _ | (apply Below.alloc) | (refine Below.setCell ?_ (by first | exact Nat.le_refl _ | (simp <;> omega)) _) | (simp <;> omega)))) (N2.out.below (by repeat (first | exact Below.refl _ _ | exact Nat.le_refl _ | (apply Below.alloc) | (refine Below.setCell ?_ (by first | exact Nat.le_refl _ | (simp <;> omega)) _) | (simp <;> omega)))) HQ.out (by omega) (by omega)).mono ?_
  rintro e w3 ⟨r1, s1, k3, j3, rfl, hR1, hS1, hk3, hj3, hB⟩
  obtain ⟨a3, cap3, rfl⟩ := hR1.form
  obtain ⟨a4, cap4, rfl⟩ := hS1.form
  have hj0 : ¬ (j3 = 0) := fun h => HR.out (hS1.nr.zero.1 h)
  have hj1 : 0 < j3 := by omega
  have hj2 : (0 : Int) < (j3 : Int) := by omega
  have R1 := Lib.hid hR1
  have S3 := Lib.hid hS1
  have B0 := Lib.hid hB
  have BT := Lib.hid (Below.up (u := w) (by repeat (first | exact Below.refl _ _ | exact Nat.le_refl _ | (apply Below.alloc) | (refine Below.setCell ?_ (by first | exact Nat.le_refl _ | (simp <;> omega)) _) | (simp <;> omega))) hB)
  clear hR1 hS1 hB
  go_wp2_with fail
  refine (ofWord_any 1 (by omega) _).mono ?_
  rintro e w4 ⟨v1, n1, rfl, hO, hn1, hB⟩
  have O1 := Lib.hid hO
  have B1 := Lib.hid hB
  clear hO hB
  go_wp2_with fail
  refine (sum_nr (R1.out.nr.below B1.out) O1.out.nr (by omega) (by omega)).mono ?_
  rintro e w5 ⟨v2, n2, rfl, hO, hn2, hB⟩
  have O2 := Lib.hid hO
  have B2 := Lib.hid hB
  clear hO hB
  go_wp2_with fail
  refine (difference_nr (N2.out.below (Below.up BT.out (Below.up B1.out B2.out))) (S3.out.nr.below (Below.up B1.out B2.out)) (by omega) HL.out).mono ?_
  rintro e w6 ⟨v3, n3, rfl, hO, hn3, hB⟩
  have O3 := Lib.hid hO
  have B3 := Lib.hid hB
  clear hO hB
  go_wp2_with fail
  refine (signed_nr true (O2.out.below B3.out) (by omega)).mono ?_
  rintro e w7 ⟨v4, rfl, hO, hB⟩
  have O4 := Lib.hid hO
  have B4 := Lib.hid hB
  clear hO hB
  go_wp2_with fail
  refine (signed_nr true (O3.out.below B4.out) (by omega)).mono ?_
  rintro e w8 ⟨v5, rfl, hO, hB⟩
  have HZ0 := Lib.hid B0.out.size
  have HZ1 := Lib.hid B1.out.size
  have HZ2 := Lib.hid B2.out.size
  have HR1 := Lib.hid ((O4.out.below hB).mono (B1.out.size))
  have HR2 := Lib.hid (hO.mono (Nat.le_trans B1.out.size B2.out.size))
  have BT2 := Lib.hid (Below.up B0.out (Below.up B1.out (Below.up B2.out (Below.up B3.out (Below.up B4.out hB)))))
  clear hO hB
  obtain ⟨ng5, a5, cap5, rfl⟩ := HR1.out.form
  obtain ⟨ng6, a6, cap6, rfl⟩ := HR2.out.form
  obtain ⟨hcc, hff⟩ := bcell BT2.out
  have hz := HZ0.out
  simp at hz
  have hd1 : w.heap.size + 1 + 1 < w3.heap.size := by omega
  have hd2 : w.heap.size + 1 + 1 + 1 < w3.heap.size := by omega
  have HD1 := Lib.hid hd1
  have HD2 := Lib.hid hd2
  clear hz
  go_wp2_with fail
  have hb3 : w.heap.size ≤ w3.heap.size := by omega
  exact bodyPost_ret (v := .tuple #[.agg #[.bool ng5, .slice a5 n2 cap5], .agg #[.bool ng6, .slice a6 n3 cap6], .int .i64 0]) (by simp [results, Tryd.results30, go_sem, hcc]) rfl
    ⟨_, _, n2, n3, rfl, (((((HR1.out).setOther (a := ⟨w.heap.size + 1 + 1, 0, none⟩) HD1.out _).setOther (a := ⟨w.heap.size + 1 + 1, 1, none⟩) HD1.out _).setOther (a := ⟨w.heap.size + 1 + 1 + 1, 0, none⟩) HD2.out _).setOther (a := ⟨w.heap.size + 1 + 1 + 1, 1, none⟩) HD2.out _).mono hb3, (((((HR2.out).setOther (a := ⟨w.heap.size + 1 + 1, 0, none⟩) HD1.out _).setOther (a := ⟨w.heap.size + 1 + 1, 1, none⟩) HD1.out _).setOther (a := ⟨w.heap.size + 1 + 1 + 1, 0, none⟩) HD2.out _).setOther (a := ⟨w.heap.size + 1 + 1 + 1, 1, none⟩) HD2.out _).mono hb3, by omega, by omega, (((((Below.up (u := w) (by repeat (first | exact Below.refl _ _ | exact Nat.le_refl _ | (apply Below.alloc) | (refine Below.setCell ?_ (by first | exact Nat.le_refl _ | (simp <;> omega)) _) | (simp <;> omega))) BT2.out).setCell (p := ⟨w.heap.size + 1 + 1, 0, none⟩) (by show w.heap.size ≤ w.heap.size + 1 + 1; omega) _).setCell (p := ⟨w.heap.size + 1 + 1, 1, none⟩) (by show w.heap.size ≤ w.heap.size + 1 + 1; omega) _).setCell (p := ⟨w.heap.size + 1 + 1 + 1, 0, none⟩) (by show w.heap.size ≤ w.heap.size + 1 + 1 + 1; omega) _).setCell (p := ⟨w.heap.size + 1 + 1 + 1, 1, none⟩) (by show w.heap.size ≤ w.heap.size + 1 + 1 + 1; omega) _)⟩
end Go.Proofs.YtpkjpepnjlcgoaaDoor
