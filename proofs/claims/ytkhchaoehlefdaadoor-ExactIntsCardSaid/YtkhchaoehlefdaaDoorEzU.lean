/- Contract: Gcd. -/
import Derived.Test.YtkhchaoehlefdaaDoorEzG
import Derived.Test.YtkhchaoehlefdaaDoorEzIv
set_option linter.unusedVariables false
set_option linter.unusedSimpArgs false
namespace Go.Proofs.YtkhchaoehlefdaaDoor
open Go.RowKit

set_option maxRecDepth 100000 in
set_option maxHeartbeats 1600000 in
theorem Gcd_any (u v : Value) (n m : Nat) (p q : Int) (w : World) (hT : Tab w) (hu : AI w u n p) (hv : AI w v m q) (hn : n ≤ 100000) (hm : m ≤ 100000) :
    Calls Tryd.prog 12 #[u, v] w fun e w' => ∃ r k, e = .returned r ∧ RI w' w.heap.size r k (Int.gcd p q : Int) ∧ k ≤ max n m ∧ Below w.heap.size w w' := by
  obtain ⟨ng, a, cap, rfl⟩ := hu.form
  obtain ⟨ng2, a2, cap2, rfl⟩ := hv.form
  obtain ⟨k, b1, hk, hb, hN, hS⟩ := split_ai hu (by omega)
  obtain ⟨k2, b2, hk2, hb2, hN2, hS2⟩ := split_ai hv (by omega)
  have S1 := Lib.hid hS
  have S2 := Lib.hid hS2
  have N1 := Lib.hid hN
  have N2 := Lib.hid hN2
  have HT := Lib.hid hT
  have HG := Lib.hid (show Int.gcd (p.natAbs : Int) (q.natAbs : Int) = Int.gcd p q by simp [Int.gcd])
  clear hu hv hS hS2 hN hN2 hb hb2 hT
  go_enter Tryd.func12, Tryd.ntmps12
  go_wp2_with fail
  refine (S1.out _ (by repeat (first | exact Below.refl _ _ | exact Nat.le_refl _ | (apply Below.alloc) | (refine Below.setCell ?_ (by first | exact Nat.le_refl _ | (simp <;> omega)) _) | (simp <;> omega)))).mono ?_
  rintro e w1 ⟨rfl, rfl⟩
  go_wp2_with fail
  refine (S2.out _ (by repeat (first | exact Below.refl _ _ | exact Nat.le_refl _ | (apply Below.alloc) | (refine Below.setCell ?_ (by first | exact Nat.le_refl _ | (simp <;> omega)) _) | (simp <;> omega)))).mono ?_
  rintro e w1 ⟨rfl, rfl⟩
  go_wp2_with fail
  refine (common_any 100000 (by omega) _ _ _ _ _ _ _ (HT.out.up (by repeat (first | exact Below.refl _ _ | exact Nat.le_refl _ | (apply Below.alloc) | (refine Below.setCell ?_ (by first | exact Nat.le_refl _ | (simp <;> omega)) _) | (simp <;> omega)))) (N1.out.below (by repeat (first | exact Below.refl _ _ | exact Nat.le_refl _ | (apply Below.alloc) | (refine Below.setCell ?_ (by first | exact Nat.le_refl _ | (simp <;> omega)) _) | (simp <;> omega)))) (N2.out.below (by repeat (first | exact Below.refl _ _ | exact Nat.le_refl _ | (apply Below.alloc) | (refine Below.setCell ?_ (by first | exact Nat.le_refl _ | (simp <;> omega)) _) | (simp <;> omega)))) (by omega) (by omega)).mono ?_
  rintro e w3 ⟨r1, k3, rfl, hR1, hk3, hB⟩
  rw [HG.out] at hR1
  have R1 := Lib.hid hR1
  have B0 := Lib.hid hB
  clear hR1 hB
  go_wp2_with fail
  refine (signed_nr false R1.out (by omega)).mono ?_
  rintro e w7 ⟨v4, rfl, hO, hB⟩
  have HZ0 := Lib.hid B0.out.size
  have HR1 := Lib.hid hO
  have BT2 := Lib.hid (Below.up B0.out hB)
  clear hO hB
  obtain ⟨ng5, a5, cap5, rfl⟩ := HR1.out.form
  obtain ⟨hcc, hff⟩ := bcell BT2.out
  simp only [World.size_alloc] at HR1
  have HD1 := Lib.hid (show w.heap.size + 1 + 1 < w.heap.size + 1 + 1 + 1 + 1 + 1 by omega)
  have hb3 : w.heap.size ≤ w.heap.size + 1 + 1 + 1 + 1 + 1 := by omega
  go_wp2_with fail
  exact bodyPost_ret (v := .agg #[.bool ng5, .slice a5 k3 cap5]) (by simp [results, Tryd.results12, go_sem, hcc]) rfl
    ⟨_, k3, rfl, ((((HR1.out).setOther (a := ⟨w.heap.size + 1 + 1, 0, none⟩) HD1.out _).setOther (a := ⟨w.heap.size + 1 + 1, 1, none⟩) HD1.out _).mono hb3), by omega, (((Below.up (u := w) (by repeat (first | exact Below.refl _ _ | exact Nat.le_refl _ | (apply Below.alloc) | (refine Below.setCell ?_ (by first | exact Nat.le_refl _ | (simp <;> omega)) _) | (simp <;> omega))) BT2.out).setCell (p := ⟨w.heap.size + 1 + 1, 0, none⟩) (by show w.heap.size ≤ w.heap.size + 1 + 1; omega) _).setCell (p := ⟨w.heap.size + 1 + 1, 1, none⟩) (by show w.heap.size ≤ w.heap.size + 1 + 1; omega) _)⟩
theorem gcd_gi (u v : Value) (n m : Nat) (p q : Int) (w : World) (hT : Tab w) (hu : AI w u n p) (hv : AI w v m q) (hn : n ≤ 1000) (hm : m ≤ 1000) :
    Calls Tryd.prog 12 #[u, v] w fun e w' => ∃ g a c k, e = .returned (.agg #[.bool g, .slice a k c]) ∧ AI w' (.agg #[.bool g, .slice a k c]) k (Int.gcd p q : Int) ∧ k ≤ max n m ∧ Below w.heap.size w w' := by
  refine (Gcd_any u v n m p q w hT hu hv (by omega) (by omega)).mono ?_
  rintro e w' ⟨r, k, rfl, h1, h2, h3⟩
  obtain ⟨g, a, c, rfl⟩ := h1.form
  exact ⟨g, a, c, k, rfl, h1.ai, h2, h3⟩
end Go.Proofs.YtkhchaoehlefdaaDoor
