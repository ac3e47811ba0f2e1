/- Contracts: floor, double. Contracts: nearest. Contract: Floor. The digits of 0. Texts of any integers. Show, of any ratio. Contracts: powerOf, powerOfTen (of short results). Contract: powerOfTen (of at most 38 places). Plain facts: quotients and lowest terms depend on the value alone. Contract: Decimal (over what strings.Repeat does). Contract: strings.Repeat of "0", laid by hand at the seat's program; so Decimal without a hypothesis. Contract: own, an integer in memory of its own with room behind its words. Plain facts for the law of forms: one value in two forms. -/
import Derived.Test.YtpkjpepnjlcgoaaDoorEzI
import Derived.Test.YtpkjpepnjlcgoaaDoorEzM
import Derived.Test.YtpkjpepnjlcgoaaDoorExN
import Derived.Test.YtpkjpepnjlcgoaaDoorExT
import Derived.Test.YtpkjpepnjlcgoaaDoorEzG
import Derived.Shelf.Strings.Repeat
import Derived.Lib.JoinLaws
import Derived.Lib.EndianMore
import Derived.Deep.Upon
import Derived.Test.YtpkjpepnjlcgoaaDoorEzQ

section
set_option linter.unusedVariables false
set_option linter.unusedSimpArgs false
namespace Go.Proofs.YtpkjpepnjlcgoaaDoor
open Go.RowKit

theorem Below.allocs (w : World) (o o2 : Obj) : Below w.heap.size w ((w.alloc o).alloc o2) := Below.alloc' (Below.alloc' (Below.refl _ _) o) o2
/-- The floor of a quotient is returned. -/
def FlP (w : World) (p q : Int) (n : Nat) (e : Ending) (w' : World) : Prop := ∃ r k Q R, e = .returned r ∧ RI w' w.heap.size r k Q ∧ DvS p q Q R ∧ k ≤ n + 2 ∧ Below w.heap.size w w'

set_option maxRecDepth 100000 in
set_option maxHeartbeats 1600000 in
theorem floor_any (u v : Value) (n m : Nat) (p q : Int) (w : World) (hu : AI w u n p) (hv : AI w v m q) (hn : n ≤ 100000) (hm : m ≤ 100000) (hq : q ≠ 0) :
    Calls Tryd.prog 43 #[u, v] w (FlP w p q n) := by
  obtain ⟨ng, a, cap, rfl⟩ := hu.form
  obtain ⟨ng2, a2, cap2, rfl⟩ := hv.form
  have HU := Lib.hid hu
  have HV := Lib.hid hv
  have HQ := Lib.hid hq
  have XB := Lib.hid (show Box2 (((w.alloc (.cells #[.bool ng, .slice a n cap] 24)).alloc (.cells #[.bool ng2, .slice a2 m cap2] 24)).alloc (.cells #[.bool false, .slice none 0 0] 24)) (w.heap.size + 1 + 1) from by
    have h := Box2.new1 (w.alloc (.cells #[.bool ng, .slice a n cap] 24)) (.cells #[.bool ng2, .slice a2 m cap2] 24) false none 0 0
    rwa [World.size_alloc] at h)
  clear hu hv hq
  go_enter Tryd.func43, Tryd.ntmps43
  go_wp2_with fail
  refine (Div_any _ _ n m p q _ (HU.out.below (by repeat (first | exact Below.refl _ _ | exact Nat.le_refl _ | (apply Below.alloc) | (refine Below.setCell ?_ (by first | exact Nat.le_refl _ | (simp <;> omega)) _) | (simp <;> omega)))) (HV.out.below (by repeat (first | exact Below.refl _ _ | exact Nat.le_refl _ | (apply Below.alloc) | (refine Below.setCell ?_ (by first | exact Nat.le_refl _ | (simp <;> omega)) _) | (simp <;> omega)))) hn hm HQ.out).mono ?_
  rintro e w1 ⟨r, s, k, j, Q, R, rfl, hR, hS, hD, hk, hj, hB⟩
  obtain ⟨g, x, c, rfl⟩ := hR.form
  obtain ⟨g2, x2, c2, rfl⟩ := hS.form
  have hx := (XB.out.below hB).lt
  have BX := Lib.hid (((XB.out.below hB).alloc (.cells #[.bool g, .slice x k c] 24)).alloc (.cells #[.bool g2, .slice x2 j c2] 24))
  obtain ⟨z0, z1, u0, u1, f0, f1⟩ := BX.out.open
  have HR := Lib.hid ((hR.below (Below.alloc' (Below.refl _ _) (.cells #[.bool g, .slice x k c] 24))).below (Below.alloc' (Below.refl _ _) (.cells #[.bool g2, .slice x2 j c2] 24)))
  have HD := Lib.hid hD
  have BW := Lib.hid (Below.up (Below.up (u := w) (by repeat (first | exact Below.refl _ _ | exact Nat.le_refl _ | (apply Below.alloc) | (refine Below.setCell ?_ (by first | exact Nat.le_refl _ | (simp <;> omega)) _) | (simp <;> omega))) hB) (Below.allocs w1 (.cells #[.bool g, .slice x k c] 24) (.cells #[.bool g2, .slice x2 j c2] 24)))
  clear hR hS hD hB
  go_wp2_with fail
  obtain ⟨e1, e2⟩ := fin_RI (w := w) (t := w.heap.size + 1 + 1) HR.out (by simp) (by omega) BW.out (.bool g) (.slice x k c)
  exact bodyPost_ret (v := .agg #[.bool g, .slice x k c]) (by simp [results, Tryd.results43, go_sem, u0, u1]) rfl ⟨_, k, Q, R, rfl, e1, HD.out, hk, e2⟩

/-- An integer is doubled some times. -/
def DbP (w : World) (p : Int) (n by' : Nat) (e : Ending) (w' : World) : Prop := ∃ r k, e = .returned r ∧ RI w' w.heap.size r k (p * 2 ^ by') ∧ k ≤ n + by' / 32 + 1 ∧ Below w.heap.size w w'
theorem sg_scale (b : Bool) (p s : Int) : sg b (s * p) = sg b p * s := by
  cases b
  · rw [sg_false, sg_false, Int.mul_comm]
  · rw [sg_true, sg_true, Int.neg_mul, Int.mul_comm]

set_option maxRecDepth 100000 in
set_option maxHeartbeats 1600000 in
theorem double_any (u : Value) (n by' : Nat) (p : Int) (w : World) (hu : AI w u n p) (hn : n ≤ 100000) (hby : by' ≤ 100000) :
    Calls Tryd.prog 45 #[u, .int .i64 by'] w (DbP w p n by') := by
  obtain ⟨ng, a, cap, rfl⟩ := hu.form
  obtain ⟨k, b, hk, hb, hN, hS⟩ := split_ai hu (by omega)
  have S1 := Lib.hid hS
  have N1 := Lib.hid hN
  have HBq := Lib.hid hb
  clear hu hS hN hb
  go_enter Tryd.func45, Tryd.ntmps45
  go_wp2_with fail
  refine (S1.out _ (by repeat (first | exact Below.refl _ _ | exact Nat.le_refl _ | (apply Below.alloc) | (refine Below.setCell ?_ (by first | exact Nat.le_refl _ | (simp <;> omega)) _) | (simp <;> omega)))).mono ?_
  rintro e w1 ⟨rfl, rfl⟩
  go_wp2_with fail
  refine (shiftLeft_nr by' (N1.out.below (by repeat (first | exact Below.refl _ _ | exact Nat.le_refl _ | (apply Below.alloc) | (refine Below.setCell ?_ (by first | exact Nat.le_refl _ | (simp <;> omega)) _) | (simp <;> omega)))) (by omega) (by omega)).mono ?_
  rintro e w3 ⟨v, j, rfl, hR, hj, hB⟩
  obtain ⟨a3, cap3, rfl⟩ := hR.form
  have R1 := Lib.hid hR
  have B0 := Lib.hid hB
  clear hR hB
  go_wp2_with fail
  refine (signed_nr b R1.out (by omega)).mono ?_
  rintro e w4 ⟨v4, rfl, hO, hB⟩
  have HZ0 := Lib.hid B0.out.size
  have HO := Lib.hid (hO.z (show sg b (2 ^ by' * (p.natAbs : Int)) = p * 2 ^ by' by rw [sg_scale, HBq.out]))
  have BT := Lib.hid (Below.up B0.out hB)
  clear hO hB
  obtain ⟨ng5, a5, cap5, rfl⟩ := HO.out.form
  obtain ⟨hcc, hff⟩ := bcell BT.out
  simp only [World.size_alloc] at HO
  have hd := HZ0.out
  simp at hd
  go_wp2_with fail
  obtain ⟨e1, e2⟩ := fin_RI (w := w) (t := w.heap.size + 1) HO.out (by omega) (by omega) (Below.up (u := w) (by repeat (first | exact Below.refl _ _ | exact Nat.le_refl _ | (apply Below.alloc) | (refine Below.setCell ?_ (by first | exact Nat.le_refl _ | (simp <;> omega)) _) | (simp <;> omega))) BT.out) (.bool ng5) (.slice a5 j cap5)
  exact bodyPost_ret (v := .agg #[.bool ng5, .slice a5 j cap5]) (by simp [results, Tryd.results45, go_sem, hcc]) rfl ⟨_, j, rfl, e1, by omega, e2⟩
end Go.Proofs.YtpkjpepnjlcgoaaDoor
end

section
set_option linter.unusedVariables false
set_option linter.unusedSimpArgs false
namespace Go.Proofs.YtpkjpepnjlcgoaaDoor
open Go.RowKit

theorem double1_gf (u : Value) (n : Nat) (p : Int) (w : World) (hu : AI w u n p) (hn : n ≤ 1000) :
    Calls Tryd.prog 45 #[u, .int .i64 1] w (Gf w (p * 2) (n + 1)) := by
  refine (double_any u n 1 p w hu (by omega) (by omega)).mono ?_
  rintro e w' ⟨r, k, rfl, h1, h2, h3⟩
  exact Gi.gf ⟨r, k, rfl, h1.ai, by omega, h3⟩
theorem floor_gi (u v : Value) (n m : Nat) (p q : Int) (w : World) (hu : AI w u n p) (hv : AI w v m q) (hn : n ≤ 1000) (hm : m ≤ 1000) (hq : q ≠ 0) :
    Calls Tryd.prog 43 #[u, v] w fun e w' => ∃ g a c k Q R, e = .returned (.agg #[.bool g, .slice a k c]) ∧ RI w' w.heap.size (.agg #[.bool g, .slice a k c]) k Q ∧ DvS p q Q R ∧ k ≤ n + 2 ∧ Below w.heap.size w w' := by
  refine (floor_any u v n m p q w hu hv (by omega) (by omega) hq).mono ?_
  rintro e w' ⟨r, k, Q, R, rfl, h1, h2, h3, h4⟩
  obtain ⟨g, a, c, rfl⟩ := h1.form
  exact ⟨g, a, c, k, Q, R, rfl, h1, h2, h3, h4⟩

set_option maxRecDepth 100000 in
set_option maxHeartbeats 3200000 in
theorem nearest_any (u v : Value) (n m : Nat) (p q : Int) (w : World) (hu : AI w u n p) (hv : AI w v m q) (hn : n ≤ 900) (hm : m ≤ 900) (hq : q ≠ 0) :
    Calls Tryd.prog 37 #[u, v] w (FlP w (p * 2 + q) (q * 2) (max n m + 4)) := by
  obtain ⟨ga, aa, ca, rfl⟩ := hu.form
  obtain ⟨gb, ab, cb, rfl⟩ := hv.form
  have HU := Lib.hid hu
  have HV := Lib.hid hv
  have HQ := Lib.hid (show q * 2 ≠ 0 by omega)
  have HW := Lib.hid (show Below w.heap.size w (((w.alloc (.cells #[.bool ga, .slice aa n ca] 24)).alloc (.cells #[.bool gb, .slice ab m cb] 24)).alloc (.cells #[.bool false, .slice none 0 0] 24)) from (by repeat (first | exact Below.refl _ _ | exact Nat.le_refl _ | (apply Below.alloc) | (refine Below.setCell ?_ (by first | exact Nat.le_refl _ | (simp <;> omega)) _) | (simp <;> omega))))
  have Va := Lib.hid (show IV (((w.alloc (.cells #[.bool ga, .slice aa n ca] 24)).alloc (.cells #[.bool gb, .slice ab m cb] 24)).alloc (.cells #[.bool false, .slice none 0 0] 24)) w.heap.size ga aa n ca p from ((IV.new hu).below (Below.alloc' (Below.refl _ _) _)).below (Below.alloc' (Below.refl _ _) _))
  have Vb := Lib.hid (show IV (((w.alloc (.cells #[.bool ga, .slice aa n ca] 24)).alloc (.cells #[.bool gb, .slice ab m cb] 24)).alloc (.cells #[.bool false, .slice none 0 0] 24)) (w.heap.size + 1) gb ab m cb q from (IV.new' (hv.below (w' := w.alloc (.cells #[.bool ga, .slice aa n ca] 24)) (Below.alloc' (Below.refl _ _) _)) (by simp)).below (Below.alloc' (Below.refl _ _) _))
  have XB := Lib.hid (show Box2 (((w.alloc (.cells #[.bool ga, .slice aa n ca] 24)).alloc (.cells #[.bool gb, .slice ab m cb] 24)).alloc (.cells #[.bool false, .slice none 0 0] 24)) (w.heap.size + 1 + 1) from by
    have h := Box2.new1 (w.alloc (.cells #[.bool ga, .slice aa n ca] 24)) (.cells #[.bool gb, .slice ab m cb] 24) false none 0 0
    rwa [World.size_alloc] at h)
  clear hu hv hq
  go_enter Tryd.func37, Tryd.ntmps37
  go_wp2_with fail
  refine wp_at (fun W => Below w.heap.size w W ∧ IV W w.heap.size ga aa n ca p ∧ IV W (w.heap.size + 1) gb ab m cb q ∧ Box2 W (w.heap.size + 1 + 1)) ⟨HW.out, Va.out, Vb.out, XB.out⟩ ?_
  rintro w1 ⟨hB, h1, h2, h3⟩
  clear HW Va Vb XB
  have HW1 := Lib.hid hB
  have Va_1 := Lib.hid h1
  have Vb_1 := Lib.hid h2
  have XB1 := Lib.hid h3
  have hx := h3.lt
  clear hB h1 h2 h3 HU HV
  have M := Lib.hid (show ∀ w', Below w1.heap.size w1 w' → w'.cell? ⟨w.heap.size, 0, none⟩ = some (.bool ga) ∧ w'.cell? ⟨w.heap.size, 1, none⟩ = some (.slice aa n ca) ∧ w'.cell? ⟨w.heap.size + 1, 0, none⟩ = some (.bool gb) ∧ w'.cell? ⟨w.heap.size + 1, 1, none⟩ = some (.slice ab m cb) from fun w' h => ⟨(Va_1.out.below h).1, (Va_1.out.below h).2.1, (Vb_1.out.below h).1, (Vb_1.out.below h).2.1⟩)
  have MS := Lib.hid (show ∀ (w' : World) (i : Nat) (u : Value), (w'.cell? ⟨w.heap.size, 0, none⟩ = some (.bool ga) ∧ w'.cell? ⟨w.heap.size, 1, none⟩ = some (.slice aa n ca) ∧ w'.cell? ⟨w.heap.size + 1, 0, none⟩ = some (.bool gb) ∧ w'.cell? ⟨w.heap.size + 1, 1, none⟩ = some (.slice ab m cb)) → (fun w' => w'.cell? ⟨w.heap.size, 0, none⟩ = some (.bool ga) ∧ w'.cell? ⟨w.heap.size, 1, none⟩ = some (.slice aa n ca) ∧ w'.cell? ⟨w.heap.size + 1, 0, none⟩ = some (.bool gb) ∧ w'.cell? ⟨w.heap.size + 1, 1, none⟩ = some (.slice ab m cb)) (w'.setCell ⟨w.heap.size + 1 + 1, i, none⟩ u) from fun w' i u h => by
    have K : ∀ b o, b < w.heap.size + 1 + 1 → (w'.setCell ⟨w.heap.size + 1 + 1, i, none⟩ u).cell? ⟨b, o, none⟩ = w'.cell? ⟨b, o, none⟩ := fun b o hb => World.cell?_of_block (Below.heap_setCell _ _ _ _ (by show b ≠ w.heap.size + 1 + 1; omega))
    obtain ⟨q0, q1, q2, q3⟩ := h
    exact ⟨(K _ _ (by omega)).trans q0, (K _ _ (by omega)).trans q1, (K _ _ (by omega)).trans q2, (K _ _ (by omega)).trans q3⟩)
  obtain ⟨oa0, oa1, oa2, _⟩ := Va_1.out
  obtain ⟨ob0, ob1, ob2, _⟩ := Vb_1.out
  have D := Lib.hid (Below.drew' (Below.refl w1.heap.size w1))
  go_region_held3 (fun w' => w'.cell? ⟨w.heap.size, 0, none⟩ = some (.bool ga) ∧ w'.cell? ⟨w.heap.size, 1, none⟩ = some (.slice aa n ca) ∧ w'.cell? ⟨w.heap.size + 1, 0, none⟩ = some (.bool gb) ∧ w'.cell? ⟨w.heap.size + 1, 1, none⟩ = some (.slice ab m cb))
    (((repeat (refine MS.out _ _ _ ?_)); refine M.out _ ?_; (first | (with_reducible exact D.out) | (with_reducible exact T0.out) | (with_reducible exact T1.out) | (with_reducible exact T2.out) | (with_reducible exact T3.out))))
    (first
    | (go_at_call 45; have s0 : n ≤ 1000 := (by omega); ((with_reducible refine (double1_gf (.agg #[.bool ga, .slice aa n ca]) n p _ (Va_1.out.up D.out) s0).mono ?_); rintro e w2 ⟨g2, x2, y2, k2, rfl, hR, hk2, hB⟩; have R0 := Lib.hid hR; have HB0 := Lib.hid hB; have T0 := Lib.hid (Below.up D.out hB); clear hR hB s0))
    | (go_at_call 49; have s0 : k2 ≤ 1000 := (by omega); have s1 : m ≤ 1000 := (by omega); ((with_reducible refine (add_gf _ (.agg #[.bool gb, .slice ab m cb]) k2 m (p * 2) q _ R0.out (Vb_1.out.up T0.out) s0 s1).mono ?_); rintro e w3 ⟨g3, x3, y3, k3, rfl, hR, hk3, hB⟩; have R1 := Lib.hid hR; have HB1 := Lib.hid hB; have T1 := Lib.hid (Below.up T0.out hB); clear hR hB s0 s1))
    | (go_at_call 45; have s0 : m ≤ 1000 := (by omega); ((with_reducible refine (double1_gf (.agg #[.bool gb, .slice ab m cb]) m q _ (Vb_1.out.up T1.out) s0).mono ?_); rintro e w4 ⟨g4, x4, y4, k4, rfl, hR, hk4, hB⟩; have R2 := Lib.hid hR; have HB2 := Lib.hid hB; have T2 := Lib.hid (Below.up T1.out hB); clear hR hB s0))
    | (go_at_call 43; have s0 : k3 ≤ 1000 := (by omega); have s1 : k4 ≤ 1000 := (by omega); ((with_reducible refine (floor_gi _ _ k3 k4 (p * 2 + q) (q * 2) _ (R1.out.below HB2.out) R2.out s0 s1 HQ.out).mono ?_); rintro e w5 ⟨g5, x5, y5, k5, Q, R, rfl, hR, hD, hk5, hB⟩; have R3 := Lib.hid hR; have HD := Lib.hid hD; have HB3 := Lib.hid hB; have T3 := Lib.hid (Below.up T2.out hB); clear hR hD hB s0 s1; obtain ⟨z0, z1, u0, u1, f0, f1⟩ := (XB1.out.below T3.out).open)))
  all_goals
    go_wp2_with fail
    have hb1 : w1.heap.size ≤ w4.heap.size := T2.out.size
    have hb2 := HW1.out.size
    obtain ⟨e1, e2⟩ := fin_RI (w := w) (t := w.heap.size + 1 + 1) R3.out (by omega) (by omega) (Below.up HW1.out T3.out) (.bool g5) (.slice x5 k5 y5)
    exact bodyPost_ret (v := .agg #[.bool g5, .slice x5 k5 y5]) (by simp [results, Tryd.results37, go_sem, u0, u1]) rfl ⟨_, k5, Q, R, rfl, e1, HD.out, by omega, e2⟩
end Go.Proofs.YtpkjpepnjlcgoaaDoor
end

section
set_option linter.unusedVariables false
set_option linter.unusedSimpArgs false
namespace Go.Proofs.YtpkjpepnjlcgoaaDoor
open Go.RowKit

set_option maxRecDepth 100000 in
set_option maxHeartbeats 1600000 in
theorem Floor_any (u : Value) (n m : Nat) (p q : Int) (w : World) (hu : AR w u n m p q) (hn : n ≤ 900) (hm : m ≤ 900) :
    Calls Tryd.prog 17 #[u] w (FlP w (tP p q) (tQ q) n) := by
  obtain ⟨g, a, c, g', a', c', rfl⟩ := hu.form
  have HU := Lib.hid hu
  have HQ := Lib.hid (show tQ q ≠ 0 by have := tQ_pos q; omega)
  have XB := Lib.hid (Box2.new (w.alloc (.cells #[.bool g, .slice a n c, .bool g', .slice a' m c'] 26)) false none 0 0)
  rw [World.size_alloc] at XB
  clear hu
  go_enter Tryd.func17, Tryd.ntmps17
  go_wp2_with fail
  refine (terms_gi _ n m p q _ (HU.out.below (by repeat (first | exact Below.refl _ _ | exact Nat.le_refl _ | (apply Below.alloc) | (refine Below.setCell ?_ (by first | exact Nat.le_refl _ | (simp <;> omega)) _) | (simp <;> omega)))) (by omega) (by omega)).mono ?_
  rintro e w1 ⟨g1, x1, y1, g2, x2, y2, k, j, rfl, hP, hQ, hk, hj, hB⟩
  have X1 := Lib.hid (XB.out.below hB)
  have BW := Lib.hid (Below.up (u := w) (by repeat (first | exact Below.refl _ _ | exact Nat.le_refl _ | (apply Below.alloc) | (refine Below.setCell ?_ (by first | exact Nat.le_refl _ | (simp <;> omega)) _) | (simp <;> omega))) hB)
  have NP := Lib.hid hP
  have NQ := Lib.hid hQ
  clear hP hQ hB
  go_wp2_with fail
  refine (floor_gi _ _ k j (tP p q) (tQ q) _ NP.out NQ.out (by omega) (by omega) HQ.out).mono ?_
  rintro e w2 ⟨g3, x3, y3, k3, Q, R, rfl, hR, hD, hk3, hB⟩
  obtain ⟨z0, z1, u0, u1, f0, f1⟩ := (X1.out.below hB).open
  have hx := X1.out.lt
  have HR := Lib.hid hR
  have HD := Lib.hid hD
  have HB := Lib.hid hB
  clear hR hD hB
  go_wp2_with fail
  have hb := BW.out.size
  obtain ⟨e1, e2⟩ := fin_RI (w := w) (t := w.heap.size + 1) HR.out hx (by omega) (Below.up BW.out HB.out) (.bool g3) (.slice x3 k3 y3)
  exact bodyPost_ret (v := .agg #[.bool g3, .slice x3 k3 y3]) (by simp [results, Tryd.results17, go_sem, u0, u1]) rfl ⟨_, k3, Q, R, rfl, e1, HD.out, by omega, e2⟩
end Go.Proofs.YtpkjpepnjlcgoaaDoor
end

section
set_option linter.unusedVariables false
set_option linter.unusedSimpArgs false
namespace Go.Proofs.YtpkjpepnjlcgoaaDoor
open Go.RowKit
attribute [local go_sem] Oper.semAt_some

theorem divideWords_none (a : Option Addr) (cap : Nat) (u : Int) (w : World) (hu : 0 < u ∧ u ≤ 4294967295) :
    Calls Tryd.prog 79 #[.slice a 0 cap, .int .u32 u] w fun e w' => e = .returned (.int .u32 0) ∧ w = w' := by
  obtain ⟨u0, u1⟩ := hu
  go_enter Tryd.func79, Tryd.ntmps79
  go_wp2_with fail
  go_loopw [5, 6] (fun c i wr => i = .int .i64 (-1) ∧ c = .int .u64 0 ∧ wr = w) (fun _ i _ => (intOf i + 1).toNat)
  case atStart => exact ⟨by go_num, rfl, rfl⟩
  case round =>
    obtain ⟨rfl, rfl, rfl⟩ := hrel
    go_wp2_with fail
    go_ret
    exact ⟨ret_int (by omega), rfl⟩

set_option maxHeartbeats 800000 in
theorem groups_in0 (l pb cap : Nat) (a : Option Addr) (w : World) (hp : w.cell? ⟨pb, 0, none⟩ = some (.slice a 0 cap)) (hz : Nr w (.slice a 0 cap) 0 0)
    (J : World → Prop) (Jx : World → Prop) (hJ : ∀ w1 w2, J w1 → Below w.heap.size w1 w2 → J w2)
    (hY : ∀ w1 s, J w1 → w.heap.size ≤ w1.heap.size → Nr w1 s 0 0 →
      YieldAt Fence.wide 3 Tryd.prog l #[.int .u32 0, s] w1 fun e w' => e = .returned (.bool false) ∧ Jx w')
    (h0 : J w) :
    CallsIn Fence.wide 4 Tryd.prog 86 #[.func (.yield l) #[] #[], .pointer (some ⟨pb, 0, none⟩)] w fun e w' => e = .returned (.tuple #[]) ∧ Jx w' := by
  refine callsIn_of_wp Tryd.func86 rfl trivial ?_ rfl
  simp only [Tryd.ntmps86, List.size_toArray, List.length_cons, List.length_nil, Nat.reduceAdd, Nat.reduceSub, Array.replicate_succ, Array.replicate_zero, List.push_toArray, List.append_toArray, List.nil_append, List.cons_append]
  have HY := Lib.hid hY
  have HJ := Lib.hid hJ
  have H0 := Lib.hid h0
  have HZ := Lib.hid hz
  clear hY hJ h0 hz
  gi_wp2_with fail
  refine ⟨trivial, callsIn_wide.2 ((fresh_nr HZ.out (by omega)).mono ?_)⟩
  rintro e w1 ⟨v, rfl, hN, hB⟩
  have R0 : Hid (∃ a' cap', v = .slice a' 0 cap') := by
    obtain ⟨x, ⟨a', cap', rfl, _⟩, _⟩ := hN
    exact ⟨a', cap', rfl⟩
  have J0 : Hid (J w1) := HJ.out w w1 H0.out hB
  have S0 : w.heap.size ≤ w1.heap.size := hB.size
  clear hN hB H0
  gi_wp2_with fail
  gi_loopg [3] 0 (fun g v wr => ∃ a' cap', v = .slice a' 0 cap' ∧ J wr ∧ w.heap.size ≤ wr.heap.size)
  case atStart =>
    obtain ⟨a', cap', rfl⟩ := R0.out
    exact ⟨a', cap', rfl, J0.out, S0⟩
  case round =>
    clear R0 J0 S0
    obtain ⟨a', cap', rfl, hJi, hsz⟩ := hrel
    have HJi := Lib.hid hJi
    clear hJi
    gi_wp2_with fail
    refine ⟨trivial, callsIn_wide.2 ((divideWords_none a' cap' 1000000000 wr (by omega)).mono ?_)⟩
    rintro e w2 ⟨rfl, rfl⟩
    gi_wp2_with fail
    refine ⟨trivial, callsIn_wide.2 ((trim_any a' 0 cap' (fun _ => 0) wr (by omega) (by omega) (fun h => absurd h (by omega))).mono ?_)⟩
    rintro e w3 ⟨rfl, rfl⟩
    rw [tl_zero]
    obtain ⟨fn, tmps, assign, body, hy, hR⟩ := HY.out wr (.slice a' 0 cap') HJi.out hsz ⟨a', cap', fun _ => 0, rfl, by omega, Dg_zero, fun h => absurd h (by omega), fun h => absurd h (by omega), rfl⟩
    have HRd := Lib.hid hR
    clear hR HY
    gi_wp2_with fail
    refine HRd.out.mono ?_
    rintro e w4 ⟨rfl, hJx'⟩
    have J4 := Lib.hid hJx'
    clear hJx' HRd hy
    gi_wp2_with fail
    exact bodyPost_ret (results_none rfl _ _ _) rfl ⟨rfl, J4.out⟩

/-- How the one round over the groups of 0 is left. -/
def gPost0 (B : Nat) (Ix : Code → World → Prop) (w : World) : Exit → Act → World → Prop
  | .exit id, _, w' => Kept B w w' ∧ Ix (.exit id) w'
  | _, _, _ => False

/-- A range over the groups of a number, whose body writes what lay ahead of the loop alone. -/
theorem range_groups0 {g : Operand} {ps : Array Tmp} {assign body : Code} {Q : Exit → Act → World → Prop} {act : Act} {w : World} (m pb cap : Nat) (a : Option Addr)
    (hg : act.eval g = .func (.func 86) #[] #[.pointer (some ⟨pb, 0, none⟩)]) (hps : ps.size = 2)
    (hp : w.cell? ⟨pb, 0, none⟩ = some (.slice a 0 cap)) (hz : Nr w (.slice a 0 cap) 0 0)
    (I : World → Prop) (Ix : Code → World → Prop) (hI : ∀ w1 w2, I w1 → Below w.heap.size w1 w2 → I w2) (hIx : ∀ c w1 w2, Ix c w1 → Below w.heap.size w1 w2 → Ix c w2) (h0 : I w)
    (a₁ : Int → Value → Act)
    (hassign : ∀ (l : Nat) (x : Int) (s : Value) (W : World) (K : Act → World → Prop), K (a₁ x s) W →
      assign.wpIn (Fence.wide.inRound l) 3 Tryd.prog (Exit.then K (fun _ _ _ => False)) { tmps := (ps.zip #[.int .u32 x, s]).foldl (fun t (p, v) => t.setIfInBounds p v) act.tmps, defers := [] } W)
    (hbody : ∀ (l : Nat) (s : Value) (W : World), I W → w.heap.size ≤ W.heap.size → Nr W s 0 0 →
      body.wpIn (Fence.wide.inRound l) 3 Tryd.prog (gPost0 w.heap.size Ix W) (a₁ 0 s) W)
    (hstop : ∀ (c : Code) (W : World), Ix c W → W.heap[w.heap.size]? = some (.deferred (some [])) → w.heap.size + 2 ≤ W.heap.size →
      c.wpIn Fence.wide (m + 5) Tryd.prog Q { act with defers := { target := .collected w.heap.size, args := #[] } :: act.defers } W) :
    (Code.rangeFunc g ps assign body).wpIn Fence.wide (m + 5) Tryd.prog Q act w := by
  refine wpIn_rangeFunc ?_
  intro fn hfn
  obtain ⟨rec, hrec⟩ : ∃ rec : LoopState → Option Code → Loop, rec = fun st pe => { state := st, pending := pe, fn, tmps := act.tmps, params := ps, assign, body, defers := w.heap.size } := ⟨_, rfl⟩
  obtain ⟨W1, hW1⟩ : ∃ W1, (w.alloc (.deferred (some []))).alloc (.loop (rec .ready none)) = W1 := ⟨_, rfl⟩
  have hs1 : W1.heap.size = w.heap.size + 2 := by rw [← hW1]; simp
  have hL1 : W1.heap[w.heap.size + 1]? = some (.loop (rec .ready none)) := by
    rw [← hW1]; have := World.alloc_heap_new (w.alloc (.deferred (some []))) (.loop (rec .ready none)); rwa [World.size_alloc] at this
  have hK1 : W1.heap[w.heap.size]? = some (.deferred (some [])) := by
    rw [← hW1]; exact (Below.heap_alloc _ _ _ (by simp)).trans (World.alloc_heap_new w _)
  have hB1 : Below w.heap.size w W1 := by rw [← hW1]; exact ((Below.refl _ w).alloc (Nat.le_refl _) _).alloc (by simp) _
  have hp1 : W1.cell? ⟨pb, 0, none⟩ = some (.slice a 0 cap) := by
    have : pb < w.heap.size := by
      unfold World.cell? at hp
      split at hp
      · rename_i hb; exact (Array.getElem?_eq_some_iff.1 hb).1
      · simp at hp
    rw [← hp]; exact hB1.cell (p := ⟨pb, 0, none⟩) this
  refine ⟨w.heap.size + 1, [{ target := .collected w.heap.size, args := #[] }], W1, { target := .fn (.func 86) #[.pointer (some ⟨pb, 0, none⟩)], args := #[.func (.yield (w.heap.size + 1)) #[] #[]] }, W1, 86,
    #[.func (.yield (w.heap.size + 1)) #[] #[]] ++ #[.pointer (some ⟨pb, 0, none⟩)], W1, ?_, ?_, ?_, ?_, fun h => (by simp [Fence.wide] at h), ?_⟩
  · rw [← hW1, hrec]; exact run_enterLoop_outer _ _ _ _ _
  · simp only [resolve, hg]
    simp [go_sem]
  · intro f' _; trivial
  · simp [invoke, go_sem]
  · refine (callsIn_wide (n := m + 4)).2 (callsIn_wide.1 (groups_in0 (w.heap.size + 1) pb cap a W1 hp1 (hz.below hB1)
      (fun W => I W ∧ W.heap[w.heap.size + 1]? = some (.loop (rec .ready none)) ∧ W.heap[w.heap.size]? = some (.deferred (some [])) ∧ w.heap.size + 2 ≤ W.heap.size)
      (fun W => ∃ c, Ix c W ∧ W.heap[w.heap.size + 1]? = some (.loop (rec .done (some c))) ∧ W.heap[w.heap.size]? = some (.deferred (some [])) ∧ w.heap.size + 2 ≤ W.heap.size)
      ?_ ?_ ⟨hI w W1 h0 hB1, hL1, hK1, by omega⟩) |>.mono ?_)
    · rintro A B ⟨h1, h2, h3, h4⟩ hb
      exact ⟨hI A B h1 (hb.mono (by omega)), (hb.block _ (by omega)).trans h2, (hb.block _ (by omega)).trans h3, Nat.le_trans h4 hb.size⟩
    · rintro W s ⟨hi, hl, hk, hsz⟩ hW hN
      have hy := run_yield (P := Tryd.prog) (args := #[.int .u32 0, s]) hl (by rw [hrec]; exact hps.symm)
      rw [hrec] at hy
      refine ⟨fn, _, assign, body, hy, roundIn_of_wpIn hfn (hassign _ _ s W _ ⟨_, run_beginRound hl (by rw [hrec]), ?_⟩)⟩
      have hl2 : (W.putObj (w.heap.size + 1) (.loop { rec .ready none with state := .busy })).heap[w.heap.size + 1]? = some (.loop { rec .ready none with state := .busy }) := World.putObj_heap_same (by omega)
      have hk2 : (W.putObj (w.heap.size + 1) (.loop { rec .ready none with state := .busy })).heap[w.heap.size]? = some (.deferred (some [])) := (World.putObj_heap_other (by omega)).trans hk
      have hbp : Below w.heap.size W (W.putObj (w.heap.size + 1) (.loop { rec .ready none with state := .busy })) := below_put _ _ _ _ (by omega)
      have hs2 : (W.putObj (w.heap.size + 1) (.loop { rec .ready none with state := .busy })).heap.size = W.heap.size := by simp
      have hx2 : ∀ k, k ≠ w.heap.size + 1 → (W.putObj (w.heap.size + 1) (.loop { rec .ready none with state := .busy })).heap[k]? = W.heap[k]? := fun k hk => World.putObj_heap_other hk
      have hN2 : Nr (W.putObj (w.heap.size + 1) (.loop { rec .ready none with state := .busy })) s 0 0 := by
        obtain ⟨sa, sc, sx, e1, e2, e3, e4, e5⟩ := hN
        refine ⟨sa, sc, sx, e1, e2, e3, fun hn0 => ?_, e5⟩
        obtain ⟨b, off, eb, hr⟩ := e4 hn0
        refine ⟨b, off, eb, hr.same fun _ => hx2 b ?_⟩
        rintro rfl
        have := hr 0 hn0
        unfold World.cell? at this
        rw [show W.heap[(⟨w.heap.size + 1, off + 0, none⟩ : Addr).block]? = some (.loop (rec .ready none)) from hl] at this
        simp at this
      have hi2 := hI _ _ hi hbp
      generalize W.putObj (w.heap.size + 1) (.loop { rec .ready none with state := .busy }) = W2 at *
      refine wpIn_mono (hbody _ s W2 hi2 (by omega) hN2) ?_
      have fin : ∀ (jump : Option Code) (W3 : World), Kept w.heap.size W2 W3 →
          (Instr.endRound (w.heap.size + 1) jump).run Tryd.prog W3 = .ok (.bool jump.isNone) (W3.putObj (w.heap.size + 1) (.loop (rec (if jump.isNone then .ready else .done) jump))) ∧
          (W3.putObj (w.heap.size + 1) (.loop (rec (if jump.isNone then .ready else .done) jump))).heap[w.heap.size + 1]? = some (.loop (rec (if jump.isNone then .ready else .done) jump)) ∧
          (W3.putObj (w.heap.size + 1) (.loop (rec (if jump.isNone then .ready else .done) jump))).heap[w.heap.size]? = some (.deferred (some [])) ∧ w.heap.size + 2 ≤ W3.heap.size := fun jump W3 hk3 => by
        have hl3 : W3.heap[w.heap.size + 1]? = some (.loop { rec .ready none with state := .busy }) := (hk3.2 _ (by omega) (by omega)).trans hl2
        have hk4 : W3.heap[w.heap.size]? = some (.deferred (some [])) := (hk3.2 _ (by omega) (by omega)).trans hk2
        have h5 := hk3.1
        have := run_endRound (P := Tryd.prog) jump hl3
        rw [hrec] at this ⊢
        exact ⟨this, World.putObj_heap_same (by omega), (World.putObj_heap_other (by omega)).trans hk4, by omega⟩
      rintro e a3 W3 hpost
      cases e with
      | normal => exact hpost.elim
      | exit id =>
        obtain ⟨hk3, hi3⟩ := hpost
        obtain ⟨f1, f2, f3, f4⟩ := fin (some (.exit id)) W3 hk3
        exact ⟨_, _, f1, ⟨rfl, _, hIx _ _ _ hi3 (below_put _ _ _ _ (by omega)), f2, f3, by simp; omega⟩⟩
      | ret => exact hpost.elim
      | goto t => exact hpost.elim
      | panic ch => exact hpost.elim
      | outgrown => exact hpost.elim
    · rintro e W2 ⟨rfl, c, hi, hl, hk, hsz⟩
      exact ⟨some c, _, by have := run_endLoop (P := Tryd.prog) hl (by rw [hrec]; simp); rw [hrec] at this; exact this, hstop c _ (hIx c _ _ hi (below_put _ _ _ _ (by omega))) ((World.putObj_heap_other (by omega)).trans hk) (by simp; omega)⟩

set_option maxHeartbeats 1600000 in
set_option maxRecDepth 100000 in
theorem digitsOf_zero (a : Option Addr) (cap : Nat) (w : World) (hz : Nr w (.slice a 0 cap) 0 0) :
    Calls Tryd.prog 39 #[.slice a 0 cap] w fun e w' => e = .returned (.string (strOfNums (dig 0 0))) ∧ Below w.heap.size w w' := by
  refine (callsIn_wide (n := 5)).1 (callsIn_of_wp_marks Tryd.func39 rfl trivial (wpIn_wide.2 ?_) rfl)
  simp only [Tryd.ntmps39, List.size_toArray, List.length_cons, List.length_nil, Nat.reduceAdd, Nat.reduceSub, Array.replicate_succ, Array.replicate_zero, List.push_toArray, List.append_toArray, List.nil_append, List.cons_append]
  have HZ := Lib.hid hz
  clear hz
  go_wp2_with fail
  go_step3
  go_wp2_with (at_make; refine make8 rfl _ _ _ rfl (by kernel_rfl) 1 _ _ rfl rfl (by omega) (by omega) (by omega) ?_; intro w1 hO hB)
  go_step3
  go_wp2_with fail
  refine (groups_any a 0 cap _).mono ?_
  rintro e w2 ⟨rfl, rfl⟩
  go_wp2_with fail
  refine (wpIn_wide (n := 5)).1 (range_groups0 0 (w1.heap.size + 1 + 1) cap a rfl rfl ?hp ?hz
    (fun W => DigS w w.heap.size w1.heap.size (w1.heap.size + 1) 1 0 0 W) (fun c W => c = .exit 0 ∧ DigS w w.heap.size w1.heap.size (w1.heap.size + 1) 1 0 1 W) ?hI ?hIx ?h0 (fun x s => { tmps := #[.slice a 0 cap, undef, .string { data := #[] }, .pointer (some ⟨w1.heap.size, 0, none⟩), .pointer (some ⟨w1.heap.size + 1, 0, none⟩), .int .u32 x, s, .slice a 0 cap, .int .i64 0, .int .i64 0, .int .i64 1, .slice (some ⟨w.heap.size, 0, none⟩) 1 1, .slice (some ⟨w.heap.size, 0, none⟩) 1 1, .int .i64 1, .slice a 0 cap, .func (.func 86) #[] #[.pointer (some ⟨w1.heap.size + 1 + 1, 0, none⟩)], .int .u32 x, s, undef, undef, undef, undef, undef, undef, undef, undef, undef, undef, undef, undef, undef, undef, undef, undef, undef, undef, undef, undef, undef, undef, undef, undef, undef], defers := [] }) ?assign ?body ?stop)
  case assign =>
    intro l x s W K hK
    gi_wp2
    exact hK
  case hp => simp [go_sem]
  case hz => exact HZ.out.below (((hB.alloc hB.size _).alloc (by have := hB.size; simp; omega) _).alloc (by have := hB.size; simp; omega) _)
  case hI =>
    intro A B h hb
    have := hB.size
    have := hO.lt
    exact digS_below h hb (by simp; omega) (by simp; omega) (by simp) (by simp; omega)
  case hIx =>
    rintro c A B ⟨h1, h2⟩ hb
    have := hB.size
    have := hO.lt
    exact ⟨h1, digS_below h2 hb (by simp; omega) (by simp; omega) (by simp) (by simp; omega)⟩
  case h0 =>
    have := hB.size
    refine ⟨_, ((hO.same (Below.heap_alloc _ _ _ hO.lt)).same (Below.heap_alloc _ _ _ (by have := hO.lt; simp; omega))).same (Below.heap_alloc _ _ _ (by have := hO.lt; simp; omega)), fun j hj => by omega, ?_, ?_, ?_, ((hB.alloc hB.size _).alloc (by simp; omega) _).alloc (by simp; omega) _⟩
    · simp [go_sem]
    · simp [go_sem]
    · simp [go_sem]
  case body =>
    rintro l s W hi hsz hN
    obtain ⟨sa, sc, sx, rfl, _, _, _, _, _⟩ := id hN
    have hbt := hO.lt
    have hw1 := hB.size
    obtain ⟨x, hO', hx, hs, ha, hf, hB'⟩ := id hi
    have S := digS_step hi (Nat.le_refl _) hbt (by omega) (show 0 < 1 by omega)
    have c1 := hO'.cell (j := 0) (by omega)
    have c2 := hO'.free 0
    have ha' : W.cell? ⟨w1.heap.size + 1, 0, none⟩ = some (.int .i64 1) := ha
    generalize x 0 = xq at c1
    have d1 : (W.setCell ⟨w1.heap.size + 1, 0, none⟩ (.int .i64 0)).cell? ⟨w1.heap.size, 0, none⟩ = some (.slice (some ⟨w.heap.size, 0, none⟩) 1 1) := (cell_setOther _ (by simp) _).trans hs
    have d2 : (W.setCell ⟨w1.heap.size + 1, 0, none⟩ (.int .i64 0)).cell? ⟨w1.heap.size + 1, 0, none⟩ = some (.int .i64 0) := World.cell?_setCell_same' _ _ _ (by rw [ha']; rfl)
    have d3 : (W.setCell ⟨w1.heap.size + 1, 0, none⟩ (.int .i64 0)).cell? ⟨w.heap.size, 0, none⟩ = some (.int .u8 xq) := (cell_setOther _ (by simp; omega) _).trans c1
    have d4 : (W.setCell ⟨w1.heap.size + 1, 0, none⟩ (.int .i64 0)).frozen? ⟨w.heap.size, 0, none⟩ = false := by rw [World.frozen?_setCell]; exact c2
    have SH : Hid (DigS w w.heap.size w1.heap.size (w1.heap.size + 1) 1 0 1 ((W.setCell ⟨w1.heap.size + 1, 0, none⟩ (.int .i64 0)).setCell ⟨w.heap.size, 0, none⟩ (.int .u8 48))) := S
    have S0 : Hid (Kept (w1.heap.size + 3) W W) := ⟨Nat.le_refl _, fun _ _ _ => rfl⟩
    have HK2 : Hid (Kept (w1.heap.size + 3) W ((W.setCell ⟨w1.heap.size + 1, 0, none⟩ (.int .i64 0)).setCell ⟨w.heap.size, 0, none⟩ (.int .u8 48))) :=
      kept_set (kept_set S0.out (a := ⟨w1.heap.size + 1, 0, none⟩) (by simp) _) (a := ⟨w.heap.size, 0, none⟩) (by simp; omega) _
    clear S hi hN hO hB hsz hO' hx hs ha hB' c1 c2 S0
    gi_wp2_with fail
    gi_loopw [5, 18] (fun g j wr => j = .int .i64 0 ∧ g = .int .u32 0 ∧ wr = W) (fun _ j _ => 9 - (intOf j).toNat)
    case atStart => exact ⟨rfl, rfl, rfl⟩
    case round =>
      obtain ⟨rfl, rfl, rfl⟩ := hrel
      gi_wp2_with fail
      exact ⟨by simpa [World.size_alloc] using HK2.out, rfl, SH.out⟩
  case stop =>
    rintro c W ⟨rfl, hD⟩ hdef hsz
    obtain ⟨x, hO', hx, hs, ha, hf, hB'⟩ := hD
    have ha' : W.cell? ⟨w1.heap.size + 1, 0, none⟩ = some (.int .i64 0) := ha
    have hcv : ∀ dst, Tryd.prog.underlying dst = some .string → (convert 85 dst (.slice (some ⟨w.heap.size, 0, none⟩) 1 1)).run Tryd.prog W = .ok (.string (strOfNums (dig 0 0))) W := by
      refine run_convert_bytes_arg W 85 5 (by kernel_rfl) (by kernel_rfl) w.heap.size 0 1 1 (dig 0 0) (by simp [dig]) fun j hj => ?_
      obtain rfl : j = 0 := by omega
      rw [hO'.cell (j := 0 + 0) (by omega)]
      have := hx 0 (by omega)
      simp [dig, List.getD] at this ⊢
      exact this
    have hcv2 := hcv 9 (by kernel_rfl)
    have HD := Lib.hid hdef
    have HS := Lib.hid hsz
    have HB := Lib.hid hB'
    have W0 := Lib.hid hB.size
    clear hcv hdef hsz hO' hx hB hO hB' ha
    dsimp only
    gi_wp2_with fail
    go_wp2_with fail
    rw [Exit.noGoto_ret]
    refine ⟨by simp, .inl ⟨_, _, rfl, run_takeDeferred HD.out, ?_⟩⟩
    refine ⟨_, results_tmp rfl _ _ _, rfl, HB.out.trans (below_put _ _ _ _ (by have := W0.out; simp; omega))⟩
end Go.Proofs.YtpkjpepnjlcgoaaDoor
end

section
set_option linter.unusedVariables false
set_option linter.unusedSimpArgs false
namespace Go.Proofs.YtpkjpepnjlcgoaaDoor
open Go.RowKit

theorem T10_mono {m k : Nat} (h : m ≤ k) : T10 m ≤ T10 k := by
  obtain ⟨d, rfl⟩ := Nat.exists_eq_add_of_le h
  rw [T10_add]
  have h1 := T10_pos d
  have h2 := Int.mul_le_mul_of_nonneg_left (show 1 ≤ T10 d by omega) (Int.le_of_lt (T10_pos m))
  omega
/-- How many digits a number has, but for one. -/
def DLen (z : Int) (m : Nat) : Prop := z / T10 (m + 1) = 0 ∧ 0 < z / T10 m
theorem DLen.le {z : Int} {m k : Nat} (h : DLen z m) (g : DLen z k) : m ≤ k := by
  rcases Nat.lt_or_ge k m with l | l
  · exfalso
    have h1 := (Int.le_ediv_iff_mul_le (T10_pos m)).1 (show 1 ≤ z / T10 m by have := h.2; omega)
    have h2 := T10_mono (show k + 1 ≤ m by omega)
    have h3 := (Int.le_ediv_iff_mul_le (T10_pos (k + 1))).2 (show 1 * T10 (k + 1) ≤ z by omega)
    have := g.1
    omega
  · exact l
open Classical in
/-- The decimal digits of a natural number. -/
noncomputable def dgt (z : Int) : ByteArray := if h : ∃ m, DLen z m then strOfNums (dig (Classical.choose h) z) else strOfNums (dig 0 0)
theorem dgt_of {z : Int} {m : Nat} (h : DLen z m) : dgt z = strOfNums (dig m z) := by
  unfold dgt
  rw [dif_pos ⟨m, h⟩]
  have g := Classical.choose_spec (⟨m, h⟩ : ∃ m, DLen z m)
  rw [Nat.le_antisymm (g.le h) (h.le g)]
theorem dgt_zero : dgt 0 = strOfNums (dig 0 0) := by
  unfold dgt
  rw [dif_neg]
  rintro ⟨m, h⟩
  have := h.2
  rw [Int.zero_ediv] at this
  omega
theorem dgt_size {z : Int} {n : Nat} (h0 : 0 ≤ z) (h : z < P n) : (dgt z).size ≤ 10 * n + 1 := by
  unfold dgt
  split
  · rename_i hx
    have g := Classical.choose_spec hx
    have := digits_room h g.2
    rw [strOfNums_size]
    simp [dig]
    omega
  · rw [strOfNums_size]
    simp [dig]
theorem digitsOf_any (u : Value) (n : Nat) (z : Int) (w : World) (hz : Nr w u n z) (hn : n ≤ 100000000) :
    Calls Tryd.prog 39 #[u] w fun e w' => e = .returned (.string (dgt z)) ∧ Below w.heap.size w w' := by
  have hz' := hz
  have h0 := hz.zero
  have hg := hz.nonneg
  obtain ⟨a, cap, x, rfl, _⟩ := hz
  by_cases h : z = 0
  · have hn0 := h0.2 h
    subst h
    subst hn0
    rw [dgt_zero]
    exact digitsOf_zero a cap w hz'
  · refine (digitsOf_pos a n cap z w hz' hn (by omega)).mono ?_
    rintro e w' ⟨m, rfl, h1, h2, hB⟩
    rw [dgt_of ⟨h1, h2⟩]
    exact ⟨rfl, hB⟩
/-- The text of an integer. -/
noncomputable def ttx (z : Int) : ByteArray := if z < 0 then (⟨#[45]⟩ : ByteArray) ++ dgt (-z) else dgt z

theorem split_sg {w : World} {ng : Bool} {a : Option Addr} {n cap : Nat} {p : Int} (h : AI w (.agg #[.bool ng, .slice a n cap]) n p) (hn : n ≤ 1000000000) :
    ∃ k b, k ≤ n ∧ (b = true → p < 0) ∧ sg b (p.natAbs : Int) = p ∧ Nr w (.slice a k cap) k p.natAbs ∧ ∀ W, Below w.heap.size w W →
      Calls Tryd.prog 33 #[.agg #[.bool ng, .slice a n cap]] W fun e w' => e = .returned (.tuple #[.bool b, .slice a k cap]) ∧ w' = W.alloc (.cells #[.bool ng, .slice a n cap] 24) := by
  obtain ⟨ng', a', cap', x, e, hc, hd, hs, hp⟩ := h
  simp only [Value.agg.injEq, Array.mk.injEq, List.cons.injEq, and_true, Value.bool.injEq, Value.slice.injEq] at e
  obtain ⟨rfl, rfl, _, rfl⟩ := e
  have hz : (p.natAbs : Int) = V x n := by rw [hp, sg_abs ng (V_nonneg hd n)]
  have hN : Nr w (.slice a (tl x n) cap) (tl x n) p.natAbs := by rw [hz]; exact nr_split hc hd hs
  have hg : sg (nb ng x n) (p.natAbs : Int) = p := by rw [hz, sg_split, hp]
  refine ⟨tl x n, nb ng x n, tl_le x n, fun hb => ?_, hg, hN, fun W hW => split_any ng a n cap x W hn hc (hs.below hW)⟩
  rw [hb, sg_true] at hg
  have h0 : 0 < tl x n := by
    unfold nb at hb
    simp at hb
    exact hb.2
  have := hN.zero
  omega

set_option maxHeartbeats 800000 in
theorem Text_any (u : Value) (n : Nat) (z : Int) (w : World) (hu : AI w u n z) (hn : n ≤ 100000000) :
    Calls Tryd.prog 12 #[u] w fun e w' => e = .returned (.string (ttx z)) ∧ Below w.heap.size w w' := by
  obtain ⟨g, a, cap, rfl⟩ := hu.form
  obtain ⟨k, b, hk, hbn, hb, hN, hS⟩ := split_sg hu (by omega)
  have S1 := Lib.hid hS
  have N1 := Lib.hid hN
  have HBq := Lib.hid hb
  have hsz := dgt_size hN.nonneg hN.lt
  cases b
  · have HT := Lib.hid (show ttx z = dgt (z.natAbs : Int) by
      have h := HBq.out
      rw [sg_false] at h
      unfold ttx
      rw [if_neg (by omega), h])
    clear hS hN hb hu
    go_enter Tryd.func12, Tryd.ntmps12
    go_wp2_with fail
    refine (S1.out _ (by repeat (first | exact Below.refl _ _ | exact Nat.le_refl _ | (apply Below.alloc) | (refine Below.setCell ?_ (by first | exact Nat.le_refl _ | (simp <;> omega)) _) | (simp <;> omega)))).mono ?_
    rintro e w1 ⟨rfl, rfl⟩
    go_wp2_with fail
    refine (digitsOf_any _ k _ _ (N1.out.below (by repeat (first | exact Below.refl _ _ | exact Nat.le_refl _ | (apply Below.alloc) | (refine Below.setCell ?_ (by first | exact Nat.le_refl _ | (simp <;> omega)) _) | (simp <;> omega)))) (by omega)).mono ?_
    rintro e w2 ⟨rfl, hB⟩
    have HB := Lib.hid (Below.up (u := w) (by repeat (first | exact Below.refl _ _ | exact Nat.le_refl _ | (apply Below.alloc) | (refine Below.setCell ?_ (by first | exact Nat.le_refl _ | (simp <;> omega)) _) | (simp <;> omega))) hB)
    clear hB
    go_wp2_with fail
    go_ret
    exact ⟨by rw [HT.out]; rfl, HB.out⟩
  · have hz := hbn rfl
    have HT := Lib.hid (show ttx z = (⟨#[45]⟩ : ByteArray) ++ dgt (z.natAbs : Int) by
      unfold ttx
      rw [if_pos hz]
      congr 2
      omega)
    clear hS hN hb hu hbn hz
    go_enter Tryd.func12, Tryd.ntmps12
    go_wp2_with fail
    refine (S1.out _ (by repeat (first | exact Below.refl _ _ | exact Nat.le_refl _ | (apply Below.alloc) | (refine Below.setCell ?_ (by first | exact Nat.le_refl _ | (simp <;> omega)) _) | (simp <;> omega)))).mono ?_
    rintro e w1 ⟨rfl, rfl⟩
    go_wp2_with fail
    refine (digitsOf_any _ k _ _ (N1.out.below (by repeat (first | exact Below.refl _ _ | exact Nat.le_refl _ | (apply Below.alloc) | (refine Below.setCell ?_ (by first | exact Nat.le_refl _ | (simp <;> omega)) _) | (simp <;> omega)))) (by omega)).mono ?_
    rintro e w2 ⟨rfl, hB⟩
    have HB := Lib.hid (Below.up (u := w) (by repeat (first | exact Below.refl _ _ | exact Nat.le_refl _ | (apply Below.alloc) | (refine Below.setCell ?_ (by first | exact Nat.le_refl _ | (simp <;> omega)) _) | (simp <;> omega))) hB)
    have hnl : ¬ (9223372036854775807 < 1 + (dgt (z.natAbs : Int)).size) := by omega
    clear hB
    go_wp2_with fail
    go_ret
    exact ⟨by rw [HT.out]; rfl, HB.out⟩
end Go.Proofs.YtpkjpepnjlcgoaaDoor
end

section
set_option linter.unusedVariables false
set_option linter.unusedSimpArgs false
namespace Go.Proofs.YtpkjpepnjlcgoaaDoor
open Go.RowKit

theorem ttx_size {z : Int} {n : Nat} (h : - P n < z ∧ z < P n) : (ttx z).size ≤ 10 * n + 2 := by
  unfold ttx
  split
  · have := dgt_size (z := -z) (n := n) (by omega) (by omega)
    rw [ByteArray.size_append]
    have e : (⟨#[45]⟩ : ByteArray).size = 1 := rfl
    omega
  · have := dgt_size (z := z) (n := n) (by omega) (by omega)
    omega
theorem lQ_pos (p q : Int) : 0 < lQ p q := by
  unfold lQ
  have hq := tQ_pos q
  have hg : 0 < (Int.gcd (tP p q) (tQ q) : Int) := by have := Int.gcd_pos_of_ne_zero_right (tP p q) (show tQ q ≠ 0 by omega); omega
  obtain ⟨t, ht⟩ := Int.gcd_dvd_right (a := tP p q) (b := tQ q)
  generalize (Int.gcd (tP p q) (tQ q) : Int) = G at *
  rw [ht, Int.mul_ediv_cancel_left t (by omega)]
  rw [ht] at hq
  exact Int.pos_of_mul_pos_right hq (by omega)

set_option maxHeartbeats 1600000 in
theorem Show_one (u : Value) (n m : Nat) (p q : Int) (w : World) (hT : Tab w) (hu : AR w u n m p q) (hn : n ≤ 900) (hm : m ≤ 900) (hy : lQ p q = 1) :
    Calls Tryd.prog 15 #[u] w fun e w' => e = .returned (.string (ttx (lP p q))) ∧ Below w.heap.size w w' := by
  obtain ⟨g, a, cp, g', a', cp', rfl⟩ := hu.form
  have HU := Lib.hid hu
  have HT := Lib.hid hT
  clear hu hT
  go_enter Tryd.func15, Tryd.ntmps15
  go_wp2_with fail
  refine (Lowest_any (common_any 1000 (by omega)) (divide_any 1000 (by omega)) _ n m p q _ (HT.out.up (by repeat (first | exact Below.refl _ _ | exact Nat.le_refl _ | (apply Below.alloc) | (refine Below.setCell ?_ (by first | exact Nat.le_refl _ | (simp <;> omega)) _) | (simp <;> omega)))) (HU.out.below (by repeat (first | exact Below.refl _ _ | exact Nat.le_refl _ | (apply Below.alloc) | (refine Below.setCell ?_ (by first | exact Nat.le_refl _ | (simp <;> omega)) _) | (simp <;> omega)))) (by omega) (by omega) (by omega)).mono ?_
  rintro e w1 ⟨r, k, j, rfl, hR, hk, hj, hB⟩
  obtain ⟨g3, a3, c3, g4, a4, c4, rfl⟩ := hR.form
  obtain ⟨hcc, hff⟩ := bcell hB
  have hz := hB.size
  simp at hz
  have hd1 : w.heap.size < w1.heap.size := by omega
  have HZ1 := Lib.hid hz
  have HR := Lib.hid hR
  have HB := Lib.hid hB
  clear hR hB hz
  go_wp2_with fail
  obtain ⟨f1, f2⟩ := fin_RR (w := w) (t := w.heap.size) HR.out (by simp) (by omega) (by simp) (Below.up (u := w) (by repeat (first | exact Below.refl _ _ | exact Nat.le_refl _ | (apply Below.alloc) | (refine Below.setCell ?_ (by first | exact Nat.le_refl _ | (simp <;> omega)) _) | (simp <;> omega))) HB.out) (.bool g3) (.slice a3 k c3) (.bool g4) (.slice a4 j c4)
  obtain ⟨P1, P2, P3⟩ := f1.parts
  have HN := Lib.hid P1
  have HD := Lib.hid P2
  have HB2 := Lib.hid f2
  rw [show ((lQ p q).natAbs : Int) = 1 by omega] at P3
  have C := isOne_nr P3 (by omega)
  rw [show decide ((1 : Int) = 1) = true from rfl] at C
  have HO := Lib.hid C
  clear f1 f2 P1 P2 P3 C
  refine HO.out.mono ?_
  rintro e w2 ⟨rfl, rfl⟩
  go_wp2_with fail
  refine (Text_any _ k (lP p q) _ HN.out (by omega)).mono ?_
  rintro e w2 ⟨rfl, hB3⟩
  have HB3 := Lib.hid (Below.up HB2.out hB3)
  clear hB3
  go_wp2_with fail
  go_ret
  exact ⟨rfl, HB3.out⟩

set_option maxHeartbeats 1600000 in
theorem Show_two (u : Value) (n m : Nat) (p q : Int) (w : World) (hT : Tab w) (hu : AR w u n m p q) (hn : n ≤ 900) (hm : m ≤ 900) (hy : lQ p q ≠ 1) :
    Calls Tryd.prog 15 #[u] w fun e w' => e = .returned (.string (ttx (lP p q) ++ (⟨#[47]⟩ : ByteArray) ++ ttx (lQ p q))) ∧ Below w.heap.size w w' := by
  obtain ⟨g, a, cp, g', a', cp', rfl⟩ := hu.form
  have HU := Lib.hid hu
  have HT := Lib.hid hT
  clear hu hT
  go_enter Tryd.func15, Tryd.ntmps15
  go_wp2_with fail
  refine (Lowest_any (common_any 1000 (by omega)) (divide_any 1000 (by omega)) _ n m p q _ (HT.out.up (by repeat (first | exact Below.refl _ _ | exact Nat.le_refl _ | (apply Below.alloc) | (refine Below.setCell ?_ (by first | exact Nat.le_refl _ | (simp <;> omega)) _) | (simp <;> omega)))) (HU.out.below (by repeat (first | exact Below.refl _ _ | exact Nat.le_refl _ | (apply Below.alloc) | (refine Below.setCell ?_ (by first | exact Nat.le_refl _ | (simp <;> omega)) _) | (simp <;> omega)))) (by omega) (by omega) (by omega)).mono ?_
  rintro e w1 ⟨r, k, j, rfl, hR, hk, hj, hB⟩
  obtain ⟨g3, a3, c3, g4, a4, c4, rfl⟩ := hR.form
  obtain ⟨hcc, hff⟩ := bcell hB
  have hz := hB.size
  simp at hz
  have hd1 : w.heap.size < w1.heap.size := by omega
  have HZ1 := Lib.hid hz
  have HR := Lib.hid hR
  have HB := Lib.hid hB
  clear hR hB hz
  go_wp2_with fail
  obtain ⟨f1, f2⟩ := fin_RR (w := w) (t := w.heap.size) HR.out (by simp) (by omega) (by simp) (Below.up (u := w) (by repeat (first | exact Below.refl _ _ | exact Nat.le_refl _ | (apply Below.alloc) | (refine Below.setCell ?_ (by first | exact Nat.le_refl _ | (simp <;> omega)) _) | (simp <;> omega))) HB.out) (.bool g3) (.slice a3 k c3) (.bool g4) (.slice a4 j c4)
  obtain ⟨P1, P2, P3⟩ := f1.parts
  have HN := Lib.hid P1
  have HD := Lib.hid P2
  have HB2 := Lib.hid f2
  have C := isOne_nr P3 (by omega)
  rw [show decide (((lQ p q).natAbs : Int) = 1) = false from decide_eq_false (by have := lQ_pos p q; omega)] at C
  have HO := Lib.hid C
  clear f1 f2 P1 P2 P3 C
  refine HO.out.mono ?_
  rintro e w2 ⟨rfl, rfl⟩
  go_wp2_with fail
  have hsP := ttx_size HN.out.lt
  have hsQ := ttx_size HD.out.lt
  have hl1 : ¬ (9223372036854775807 < (ttx (lP p q)).size + 1) := by omega
  have hl2 : ¬ (9223372036854775807 < (ttx (lP p q)).size + 1 + (ttx (lQ p q)).size) := by omega
  have hl3 : ¬ (9223372036854775807 < 1 + (ttx (lQ p q)).size) := by omega
  have hn8 : k ≤ 100000000 := by omega
  have hm8 : j ≤ 100000000 := by omega
  have cw0 : ((((w1.setCell ⟨w.heap.size, 0, none⟩ (.bool g3)).setCell ⟨w.heap.size, 1, none⟩ (.slice a3 k c3)).setCell ⟨w.heap.size, 2, none⟩ (.bool g4)).setCell ⟨w.heap.size, 3, none⟩ (.slice a4 j c4)).cell? ⟨w.heap.size, 0, none⟩ = some (.bool g3) := by simp [go_sem, hcc]
  have cw1 : ((((w1.setCell ⟨w.heap.size, 0, none⟩ (.bool g3)).setCell ⟨w.heap.size, 1, none⟩ (.slice a3 k c3)).setCell ⟨w.heap.size, 2, none⟩ (.bool g4)).setCell ⟨w.heap.size, 3, none⟩ (.slice a4 j c4)).cell? ⟨w.heap.size, 1, none⟩ = some (.slice a3 k c3) := by simp [go_sem, hcc]
  have cw2 : ((((w1.setCell ⟨w.heap.size, 0, none⟩ (.bool g3)).setCell ⟨w.heap.size, 1, none⟩ (.slice a3 k c3)).setCell ⟨w.heap.size, 2, none⟩ (.bool g4)).setCell ⟨w.heap.size, 3, none⟩ (.slice a4 j c4)).cell? ⟨w.heap.size, 2, none⟩ = some (.bool g4) := by simp [go_sem, hcc]
  have cw3 : ((((w1.setCell ⟨w.heap.size, 0, none⟩ (.bool g3)).setCell ⟨w.heap.size, 1, none⟩ (.slice a3 k c3)).setCell ⟨w.heap.size, 2, none⟩ (.bool g4)).setCell ⟨w.heap.size, 3, none⟩ (.slice a4 j c4)).cell? ⟨w.heap.size, 3, none⟩ = some (.slice a4 j c4) := by simp [go_sem, hcc]
  have hs1 : w.heap.size < ((((w1.setCell ⟨w.heap.size, 0, none⟩ (.bool g3)).setCell ⟨w.heap.size, 1, none⟩ (.slice a3 k c3)).setCell ⟨w.heap.size, 2, none⟩ (.bool g4)).setCell ⟨w.heap.size, 3, none⟩ (.slice a4 j c4)).heap.size := by simpa using hd1
  clear hcc hff
  generalize ((((w1.setCell ⟨w.heap.size, 0, none⟩ (.bool g3)).setCell ⟨w.heap.size, 1, none⟩ (.slice a3 k c3)).setCell ⟨w.heap.size, 2, none⟩ (.bool g4)).setCell ⟨w.heap.size, 3, none⟩ (.slice a4 j c4)) = W at *
  have A1 := Lib.hid (fun w1 (h : AI w1 (.agg #[.bool g3, .slice a3 k c3]) k (lP p q)) => Text_any (.agg #[.bool g3, .slice a3 k c3]) k (lP p q) w1 h hn8)
  have A2 := Lib.hid (fun w1 (h : AI w1 (.agg #[.bool g4, .slice a4 j c4]) j (lQ p q)) => Text_any (.agg #[.bool g4, .slice a4 j c4]) j (lQ p q) w1 h hm8)
  have HNd := Lib.hid (HN.out.below (Below.drew (Below.refl W.heap.size W)))
  clear HO
  go_region_with (first
    | (go_at_call 12; ((with_reducible refine (A1.out _ HNd.out).mono ?_); rintro e w2 ⟨rfl, hB1⟩; obtain ⟨hc1, hf1⟩ := bcell hB1; have g0' := (hc1 _ _ hs1).trans cw0; have g1' := (hc1 _ _ hs1).trans cw1; have g2' := (hc1 _ _ hs1).trans cw2; have g3' := (hc1 _ _ hs1).trans cw3; have HB1 := Lib.hid hB1; have HDd := Lib.hid (HD.out.below (Below.up (Below.drew (Below.refl _ _)) hB1)); clear hc1 hf1 hB1))
    | (go_at_call 12; ((with_reducible refine (A2.out _ HDd.out).mono ?_); rintro e w3 ⟨rfl, hB2⟩; have HB4 := Lib.hid hB2; clear hB2)))
  all_goals
    go_wp2_with fail
    go_ret
    exact ⟨rfl, Below.up HB2.out (Below.up (Below.drew (Below.refl W.heap.size W)) (Below.up HB1.out HB4.out))⟩
/-- The text of a ratio. -/
noncomputable def shs (P Q : Int) : ByteArray := if Q = 1 then ttx P else ttx P ++ (⟨#[47]⟩ : ByteArray) ++ ttx Q
theorem Show_any (u : Value) (n m : Nat) (p q : Int) (w : World) (hT : Tab w) (hu : AR w u n m p q) (hn : n ≤ 900) (hm : m ≤ 900) :
    Calls Tryd.prog 15 #[u] w fun e w' => e = .returned (.string (shs (lP p q) (lQ p q))) ∧ Below w.heap.size w w' := by
  unfold shs
  by_cases h : lQ p q = 1
  · rw [if_pos h]
    exact Show_one u n m p q w hT hu hn hm h
  · rw [if_neg h]
    exact Show_two u n m p q w hT hu hn hm h
end Go.Proofs.YtpkjpepnjlcgoaaDoor
end

section
set_option linter.unusedVariables false
set_option linter.unusedSimpArgs false
namespace Go.Proofs.YtpkjpepnjlcgoaaDoor
open Go.RowKit

theorem pow_fits {p : Int} {k : Nat} (h0 : 0 ≤ p) (h : p < P k) (n : Nat) : p ^ n < P (k * n + 1) ∧ 0 ≤ p ^ n := by
  have hn : 0 ≤ p ^ n := Int.pow_nonneg h0
  refine ⟨?_, hn⟩
  have h1 : p ^ n ≤ P (k * n) := by
    clear hn
    induction n with
    | zero => rw [Int.pow_zero, Nat.mul_zero, P_zero]; omega
    | succ n ih =>
      have hp : 0 ≤ p ^ n := Int.pow_nonneg h0
      rw [Int.pow_succ, Nat.mul_succ, P_add]
      exact Int.mul_le_mul ih (Int.le_of_lt h) h0 (Int.le_of_lt (P_pos _))
  have h2 : P (k * n + 1) = 4294967296 * P (k * n) := P_succ _
  have h3 := P_pos (k * n)
  omega
/-- A power is returned. -/
def PwP (w : World) (p : Int) (k n : Nat) (e : Ending) (w' : World) : Prop := ∃ r j, e = .returned r ∧ Nt w' w.heap.size r j (p ^ n) ∧ j ≤ k * n + 1 ∧ Below w.heap.size w w'

set_option maxHeartbeats 1600000 in
theorem powerOf_nr : ∀ (f : Nat) (u : Value) (k n : Nat) (p : Int) (w : World), n < f → Nr w u k p → k * n ≤ 38 → n ≤ 1000000 → k ≤ 1000 →
    Calls Tryd.prog 63 #[u, .int .i64 n] w (PwP w p k n) := by
  intro f
  induction f with
  | zero => intro u k n p w h; omega
  | succ f ih =>
    intro u k n p w hf hu hkn hn hk
    have HU := Lib.hid hu
    have HF := Lib.hid (pow_fits hu.nonneg hu.lt)
    have IH := Lib.hid ih
    obtain ⟨a, cap, x, rfl, _⟩ := hu
    clear ih
    by_cases h0 : n = 0
    · subst h0
      go_enter Tryd.func63, Tryd.ntmps63
      go_wp2_with fail
      refine (ofWord_any 1 (by omega) _).mono ?_
      rintro e w1 ⟨r, j, rfl, hN, hj, hB⟩
      have HN := Lib.hid hN
      have HB := Lib.hid hB
      have hl := hN.nr.len (k := 1) (by decide)
      clear hN hB
      go_wp2_with fail
      go_ret
      exact ⟨r, j, rfl, by rw [Int.pow_zero]; exact HN.out, by omega, HB.out⟩
    · have hz : ((n : Int) == 0) = false := by simp; omega
      have e1 : ((n : Int)).tdiv 2 = ((n / 2 : Nat) : Int) := by rw [Int.tdiv_eq_ediv_of_nonneg (by omega)]; omega
      have e2 : ((n : Int)).tmod 2 = ((n % 2 : Nat) : Int) := by rw [Int.tmod_eq_emod_of_nonneg (by omega)]; omega
      have hh : k * (n / 2) + 1 ≤ 39 := by
        have : k * (n / 2) ≤ k * n := Nat.mul_le_mul_left k (by omega)
        omega
      have hs : k * (2 * (n / 2)) ≤ 38 := by
        have : k * (2 * (n / 2)) ≤ k * n := Nat.mul_le_mul_left k (by omega)
        omega
      go_enter Tryd.func63, Tryd.ntmps63
      go_wp2_with fail
      refine (IH.out _ k (n / 2) p _ (by omega) HU.out (by omega) (by omega) hk).mono ?_
      rintro e w1 ⟨r, j, rfl, hN, hj, hB⟩
      have HN := Lib.hid hN
      have HB := Lib.hid hB
      obtain ⟨a1, cap1, rfl⟩ := hN.form
      clear hN hB
      go_wp2_with fail
      refine (product_nr HN.out.nr HN.out.nr (by omega) (by omega) (by omega)).mono ?_
      rintro e w2 ⟨r2, j2, rfl, hN2, hj2, hB2⟩
      have hsq : p ^ (n / 2) * p ^ (n / 2) = p ^ (2 * (n / 2)) := by rw [← Int.pow_add]; congr 1; omega
      rw [hsq] at hN2
      have HN2 := Lib.hid hN2
      have HB2 := Lib.hid hB2
      have hl2 : j2 ≤ k * (2 * (n / 2)) + 1 := hN2.nr.len (HF.out _).1
      obtain ⟨a2, cap2, rfl⟩ := hN2.form
      have hsz := HB.out.size
      clear hN2 hB2 hsq
      by_cases hodd : n % 2 = 1
      · have hq : (((n % 2 : Nat) : Int) == 1) = true := by simp; omega
        go_wp2_with fail
        refine (product_nr HN2.out.nr (HU.out.below (Below.up HB.out HB2.out)) (by omega) (by omega) (by omega)).mono ?_
        rintro e w3 ⟨r3, j3, rfl, hN3, hj3, hB3⟩
        have hp3 : p ^ (2 * (n / 2)) * p = p ^ n := by rw [← Int.pow_succ]; congr 1; omega
        rw [hp3] at hN3
        have hl3 : j3 ≤ k * n + 1 := hN3.nr.len (HF.out _).1
        have HN3 := Lib.hid hN3
        have HB3 := Lib.hid hB3
        have hsz2 := HB2.out.size
        clear hN3 hB3 hp3
        go_wp2_with fail
        go_ret
        exact ⟨r3, j3, rfl, HN3.out.mono (by omega), hl3, Below.up (Below.up HB.out HB2.out) HB3.out⟩
      · have hq : (((n % 2 : Nat) : Int) == 1) = false := by simp; omega
        have hev : 2 * (n / 2) = n := by omega
        have HE := Lib.hid hev
        clear hev
        go_wp2_with fail
        go_ret
        refine ⟨_, j2, rfl, ?_, ?_, Below.up HB.out HB2.out⟩
        · have h := HN2.out
          rw [HE.out] at h
          exact h.mono hsz
        · rw [HE.out] at hl2; exact hl2
end Go.Proofs.YtpkjpepnjlcgoaaDoor
end

section
set_option linter.unusedVariables false
set_option linter.unusedSimpArgs false
namespace Go.Proofs.YtpkjpepnjlcgoaaDoor
open Go.RowKit

/-- A power of ten is returned. -/
def TenP (w : World) (n : Nat) (e : Ending) (w' : World) : Prop := ∃ r j, e = .returned r ∧ RI w' w.heap.size r j (10 ^ n) ∧ j ≤ n + 1 ∧ Below w.heap.size w w'

set_option maxHeartbeats 1600000 in
theorem powerOfTen_any (n : Nat) (w : World) (hn : n ≤ 38) :
    Calls Tryd.prog 38 #[.int .i64 n] w (TenP w n) := by
  go_enter Tryd.func38, Tryd.ntmps38
  go_wp2_with fail
  refine (ofWord_any 10 (by omega) _).mono ?_
  rintro e w1 ⟨r, k, rfl, hN, hk, hB⟩
  have hk1 : k ≤ 1 := hN.nr.len (by decide)
  have X1 := Lib.hid ((Box2.new w false none 0 0).below hB)
  have BW := Lib.hid (Below.up (u := w) (by repeat (first | exact Below.refl _ _ | exact Nat.le_refl _ | (apply Below.alloc) | (refine Below.setCell ?_ (by first | exact Nat.le_refl _ | (simp <;> omega)) _) | (simp <;> omega))) hB)
  have HN := Lib.hid hN
  clear hN hB
  go_wp2_with fail
  have hkn : k * n ≤ 38 := by
    have := Nat.mul_le_mul_right n hk1
    omega
  refine (powerOf_nr (n + 1) _ k n 10 _ (by omega) HN.out.nr hkn (by omega) (by omega)).mono ?_
  rintro e w2 ⟨r2, j, rfl, hN2, hj, hB2⟩
  have HN2 := Lib.hid hN2
  have HB2 := Lib.hid hB2
  obtain ⟨a2, cap2, rfl⟩ := hN2.form
  clear hN2 hB2
  go_wp2_with fail
  refine (signed_nr false HN2.out (by omega)).mono ?_
  rintro e w3 ⟨v, rfl, hO, hB3⟩
  have BT := Lib.hid (Below.up HB2.out hB3)
  obtain ⟨z0, z1, u0, u1, f0, f1⟩ := (X1.out.below BT.out).open
  have hx := X1.out.lt
  have HO := Lib.hid (hO.z (sg_false _))
  obtain ⟨g, a3, c3, rfl⟩ := hO.form
  clear hO hB3
  have hb := BW.out.size
  go_wp2_with fail
  obtain ⟨e1, e2⟩ := fin_RI (w := w) (t := w.heap.size) HO.out hx (by omega) (Below.up BW.out BT.out) (.bool g) (.slice a3 j c3)
  have hl : j ≤ n + 1 := by
    have := Nat.mul_le_mul_right n hk1
    omega
  exact bodyPost_ret (v := .agg #[.bool g, .slice a3 j c3]) (by simp [results, Tryd.results38, go_sem, u0, u1]) rfl ⟨_, j, rfl, e1, hl, e2⟩
end Go.Proofs.YtpkjpepnjlcgoaaDoor
end

section
set_option linter.unusedVariables false
set_option linter.unusedSimpArgs false
namespace Go.Proofs.YtpkjpepnjlcgoaaDoor

theorem dvs_le {p q p' q' Q R Q' R' : Int} (h : DvS p q Q R) (h' : DvS p' q' Q' R') (hq : 0 < q) (hq' : 0 < q') (e : p * q' = p' * q) : Q ≤ Q' := by
  obtain ⟨a1, a2, _⟩ := h
  obtain ⟨b1, b2, _⟩ := h'
  obtain ⟨a3, a4⟩ := a2 hq
  obtain ⟨b3, b4⟩ := b2 hq'
  have h1 : Q * q * q' ≤ p * q' := Int.mul_le_mul_of_nonneg_right (by omega) (by omega)
  have h2 : p' * q < (Q' + 1) * q' * q := Int.mul_lt_mul_of_pos_right (by rw [Int.add_mul]; omega) hq
  have h3 : Q * (q * q') < (Q' + 1) * (q * q') := by
    have e1 : Q * (q * q') = Q * q * q' := by grind
    have e2 : (Q' + 1) * (q * q') = (Q' + 1) * q' * q := by grind
    rw [e1, e2]
    omega
  have := Int.lt_of_mul_lt_mul_right h3 (Int.le_of_lt (Int.mul_pos hq hq'))
  omega
theorem dvs_same {p q p' q' Q R Q' R' : Int} (h : DvS p q Q R) (h' : DvS p' q' Q' R') (hq : 0 < q) (hq' : 0 < q') (e : p * q' = p' * q) : Q = Q' :=
  Int.le_antisymm (dvs_le h h' hq hq' e) (dvs_le h' h hq' hq e.symm)

/-- Lowest terms of one value. -/
theorem lowest_same {p q p' q' : Int} (e : tP p q * tQ q' = tP p' q' * tQ q) : lP p q = lP p' q' ∧ lQ p q = lQ p' q' := by
  unfold lP lQ
  have hy := tQ_pos q
  have hy' := tQ_pos q'
  generalize tP p q = X at *
  generalize tQ q = Y at *
  generalize tP p' q' = X' at *
  generalize tQ q' = Y' at *
  have g1 : (Int.gcd X Y : Int) * Y' = (Int.gcd X' Y' : Int) * Y := by
    have a := Int.gcd_mul_right X Y' Y
    have b := Int.gcd_mul_right X' Y Y'
    rw [e, Int.mul_comm Y Y', b] at a
    have c : ((Int.gcd X' Y' * Y.natAbs : Nat) : Int) = ((Int.gcd X Y * Y'.natAbs : Nat) : Int) := by rw [a]
    rw [Int.natCast_mul, Int.natCast_mul] at c
    rw [show (Y.natAbs : Int) = Y by omega, show (Y'.natAbs : Int) = Y' by omega] at c
    exact c.symm
  have h1 : 0 < (Int.gcd X Y : Int) := by have := Int.gcd_pos_of_ne_zero_right X (show Y ≠ 0 by omega); omega
  have h2 : 0 < (Int.gcd X' Y' : Int) := by have := Int.gcd_pos_of_ne_zero_right X' (show Y' ≠ 0 by omega); omega
  obtain ⟨x, hx⟩ := Int.gcd_dvd_left (a := X) (b := Y)
  obtain ⟨y, hyy⟩ := Int.gcd_dvd_right (a := X) (b := Y)
  obtain ⟨x', hx'⟩ := Int.gcd_dvd_left (a := X') (b := Y')
  obtain ⟨y', hyy'⟩ := Int.gcd_dvd_right (a := X') (b := Y')
  generalize (Int.gcd X Y : Int) = g at *
  generalize (Int.gcd X' Y' : Int) = g' at *
  subst hx hyy hx' hyy'
  rw [Int.mul_ediv_cancel_left x (by omega), Int.mul_ediv_cancel_left y (by omega), Int.mul_ediv_cancel_left x' (by omega), Int.mul_ediv_cancel_left y' (by omega)]
  have hgg : 0 < g * g' := Int.mul_pos h1 h2
  have e1 : y' = y := by
    apply Int.eq_of_mul_eq_mul_left (show g * g' ≠ 0 by omega)
    grind
  subst e1
  have hy0 : 0 < y' := Int.pos_of_mul_pos_right hy (by omega)
  refine ⟨?_, rfl⟩
  apply Int.eq_of_mul_eq_mul_right (show g * g' * y' ≠ 0 by have := Int.mul_pos hgg hy0; omega)
  grind
end Go.Proofs.YtpkjpepnjlcgoaaDoor
end

section
set_option linter.unusedVariables false
set_option linter.unusedSimpArgs false
namespace Go.Proofs.YtpkjpepnjlcgoaaDoor
open Go.RowKit

/-- Zeros. -/
def rp (c : Nat) : ByteArray := ⟨Array.replicate c 48⟩
theorem rp_size (c : Nat) : (rp c).size = c := by simp [rp, ByteArray.size]
/-- What strings.Repeat does with "0". -/
def RepFits : Prop := ∀ (c : Nat) (w : World), c ≤ 1000 → Calls Tryd.prog 40 #[.string ⟨#[48]⟩, .int .i64 c] w fun e w' => e = .returned (.string (rp c)) ∧ Below w.heap.size w w'
/-- The digits, with zeros ahead where they are too few. -/
noncomputable def dc1 (n : Nat) (Z : Int) : ByteArray := if (dgt (Z.natAbs : Int)).size < n + 1 then rp (n + 1 - (dgt (Z.natAbs : Int)).size) ++ dgt (Z.natAbs : Int) else dgt (Z.natAbs : Int)

/-- With the point. -/
def dpt (d : Nat) (S : ByteArray) : ByteArray := S.extract 0 (S.size - d) ++ (⟨#[46]⟩ : ByteArray) ++ S.extract (S.size - d) S.size
/-- The decimals of a number of 10^d-ths. -/
noncomputable def dcs (d : Nat) (Z : Int) : ByteArray := if Z < 0 then (⟨#[45]⟩ : ByteArray) ++ dpt d (dc1 d Z) else dpt d (dc1 d Z)
theorem dcs_pos {d : Nat} {Z : Int} {S : ByteArray} (h : dc1 d Z = S) (h0 : sg false (Z.natAbs : Int) = Z) : dcs d Z = dpt d S := by
  rw [sg_false] at h0
  unfold dcs
  rw [if_neg (by omega), h]
theorem dcs_neg {d : Nat} {Z : Int} {S : ByteArray} (h : dc1 d Z = S) (h0 : Z < 0) : dcs d Z = (⟨#[45]⟩ : ByteArray) ++ dpt d S := by
  unfold dcs
  rw [if_pos h0, h]

theorem ten_gf (n : Nat) (w : World) (hn : n ≤ 38) : Calls Tryd.prog 38 #[.int .i64 n] w (Gf w (10 ^ n) (n + 1)) :=
  (powerOfTen_any n w hn).mono fun _ _ ⟨r, k, h1, h2, h3, h4⟩ => Gi.gf ⟨r, k, h1, h2.ai, h3, h4⟩
theorem near_gi (u v : Value) (n m : Nat) (p q : Int) (w : World) (hu : AI w u n p) (hv : AI w v m q) (hn : n ≤ 900) (hm : m ≤ 900) (hq : q ≠ 0) :
    Calls Tryd.prog 37 #[u, v] w fun e w' => ∃ g a c k Q R, e = .returned (.agg #[.bool g, .slice a k c]) ∧ AI w' (.agg #[.bool g, .slice a k c]) k Q ∧ DvS (p * 2 + q) (q * 2) Q R ∧ k ≤ max n m + 6 ∧ Below w.heap.size w w' := by
  refine (nearest_any u v n m p q w hu hv hn hm hq).mono ?_
  rintro e w' ⟨r, k, Q, R, rfl, h1, h2, h3, h4⟩
  obtain ⟨g, a, c, rfl⟩ := h1.form
  exact ⟨g, a, c, k, Q, R, rfl, h1.ai, h2, h3, h4⟩

/-- What Decimal gives. -/
def DecP (w : World) (x y : Int) (d : Nat) (e : Ending) (w' : World) : Prop := ∃ Z R, DvS x y Z R ∧ e = .returned (.tuple #[.string (dcs d Z), .int .i64 0]) ∧ Below w.heap.size w w'

set_option maxRecDepth 100000 in
set_option maxHeartbeats 6400000 in
theorem Decimal_any (hRep : RepFits) (u : Value) (n m d : Nat) (p q : Int) (w : World) (hu : AR w u n m p q) (hn : n ≤ 39) (hm : m ≤ 300) (hd : 0 < d ∧ d ≤ 38) :
    Calls Tryd.prog 11 #[u, .int .i64 d] w (DecP w (tP p q * 10 ^ d * 2 + tQ q) (tQ q * 2) d) := by
  obtain ⟨g, a, c, g', a', c', rfl⟩ := hu.form
  have HU := Lib.hid hu
  have HR := Lib.hid hRep
  have HQ := Lib.hid (show tQ q ≠ 0 by have := tQ_pos q; omega)
  have BW := Lib.hid (show Below w.heap.size w (w.alloc (.cells #[.bool g, .slice a n c, .bool g', .slice a' m c'] 26)) from Below.alloc' (Below.refl _ _) _)
  have dd1 : decide ((d : Int) < 0) = false := decide_eq_false (by omega)
  have dd2 : decide ((100 : Int) < (d : Int)) = false := decide_eq_false (by omega)
  have dd3 : decide ((0 : Int) < (d : Int)) = true := decide_eq_true (by omega)
  clear hu hRep
  go_enter Tryd.func11, Tryd.ntmps11
  go_wp2_with fail
  refine (terms_gi _ n m p q _ (HU.out.below BW.out) (by omega) (by omega)).mono ?_
  rintro e w1 ⟨g1, x1, y1, g2, x2, y2, k1, k2, rfl, hP, hQ, hk1, hk2, hB⟩
  have HW1 := Lib.hid (Below.up BW.out hB)
  have NP := Lib.hid hP
  have NQ := Lib.hid hQ
  clear hP hQ hB
  go_wp2_with fail
  refine wp_at (fun W => Below w.heap.size w W ∧ IV W w1.heap.size g1 x1 k1 y1 (tP p q) ∧ IV W (w1.heap.size + 1) g2 x2 k2 y2 (tQ q))
    ⟨Below.up HW1.out (by repeat (first | exact Below.refl _ _ | exact Nat.le_refl _ | (apply Below.alloc) | (refine Below.setCell ?_ (by first | exact Nat.le_refl _ | (simp <;> omega)) _) | (simp <;> omega))), (IV.new NP.out).below (by repeat (first | exact Below.refl _ _ | exact Nat.le_refl _ | (apply Below.alloc) | (refine Below.setCell ?_ (by first | exact Nat.le_refl _ | (simp <;> omega)) _) | (simp <;> omega))), IV.new' (NQ.out.below ((Below.refl _ _).alloc (Nat.le_refl _) _)) (by simp)⟩ ?_
  rintro w2 ⟨hB, h1, h2⟩
  have HW2 := Lib.hid hB
  have Vi := Lib.hid h1
  have Vj := Lib.hid h2
  clear hB h1 h2 HW1 NP NQ BW
  have M := Lib.hid (show ∀ w', Below w2.heap.size w2 w' → w'.cell? ⟨w1.heap.size, 0, none⟩ = some (.bool g1) ∧ w'.cell? ⟨w1.heap.size, 1, none⟩ = some (.slice x1 k1 y1) ∧ w'.cell? ⟨w1.heap.size + 1, 0, none⟩ = some (.bool g2) ∧ w'.cell? ⟨w1.heap.size + 1, 1, none⟩ = some (.slice x2 k2 y2) from fun w' h => ⟨(Vi.out.below h).1, (Vi.out.below h).2.1, (Vj.out.below h).1, (Vj.out.below h).2.1⟩)
  obtain ⟨oa0, oa1, oa2, _⟩ := Vi.out
  obtain ⟨ob0, ob1, ob2, _⟩ := Vj.out
  have D := Lib.hid (Below.drew' (Below.refl w2.heap.size w2))
  have hs38 : d ≤ 38 := hd.2
  go_region_held3 (fun w' => w'.cell? ⟨w1.heap.size, 0, none⟩ = some (.bool g1) ∧ w'.cell? ⟨w1.heap.size, 1, none⟩ = some (.slice x1 k1 y1) ∧ w'.cell? ⟨w1.heap.size + 1, 0, none⟩ = some (.bool g2) ∧ w'.cell? ⟨w1.heap.size + 1, 1, none⟩ = some (.slice x2 k2 y2))
    (first | (with_reducible exact M.out _ D.out) | (with_reducible exact M.out _ T0.out) | (with_reducible exact M.out _ T1.out) | (with_reducible exact M.out _ T2.out) | (with_reducible exact M.out _ T3.out))
    (first
    | (go_at_call 38; ((with_reducible refine (ten_gf d _ hs38).mono ?_); rintro e w3 ⟨g3, x3, y3, k3, rfl, hR, hk3, hB⟩; have R0 := Lib.hid hR; have HB0 := Lib.hid hB; have T0 := Lib.hid (Below.up D.out hB); clear hR hB))
    | (go_at_call 10; have s0 : k1 ≤ 1000 := (by omega); have s1 : k3 ≤ 1000 := (by omega); have s2 : k1 < 40 ∨ k3 < 40 := (by omega); ((with_reducible refine (mul_gf (.agg #[.bool g1, .slice x1 k1 y1]) _ k1 k3 (tP p q) (10 ^ d) _ (Vi.out.up T0.out) R0.out s0 s1 s2).mono ?_); rintro e w4 ⟨g4, x4, y4, k4, rfl, hR, hk4, hB⟩; have R1 := Lib.hid hR; have HB1 := Lib.hid hB; have T1 := Lib.hid (Below.up T0.out hB); clear hR hB s0 s1 s2))
    | (go_at_call 37; have s0 : k4 ≤ 900 := (by omega); have s1 : k2 ≤ 900 := (by omega); ((with_reducible refine (near_gi _ (.agg #[.bool g2, .slice x2 k2 y2]) k4 k2 (tP p q * 10 ^ d) (tQ q) _ R1.out (Vj.out.up T1.out) s0 s1 HQ.out).mono ?_); rintro e w5 ⟨g5, x5, y5, k5, Z, R, rfl, hR, hD, hk5, hB⟩; have HD := Lib.hid hD; have HB2 := Lib.hid hB; have T2 := Lib.hid (Below.up T1.out hB); have s2 : k5 ≤ 1000000000 := (by omega); obtain ⟨kz, bz, hkz, hbn, hsg, hNr, hSp⟩ := split_sg hR s2; have NZ := Lib.hid hNr; have SP := Lib.hid hSp; have HSG := Lib.hid (And.intro hbn hsg); clear hR hD hB s0 s1 s2 hNr hSp hsg hbn))
    | (go_at_call 33; ((with_reducible refine (SP.out _ (Below.refl _ _)).mono ?_); rintro e w6 ⟨rfl, rfl⟩; have T3 := Lib.hid (Below.alloc' T2.out (.cells #[.bool g5, .slice x5 k5 y5] 24)))))
  go_wp2_with fail
  refine (digitsOf_any _ kz _ _ (NZ.out.below (Below.alloc' (Below.refl _ _) _)) (by omega)).mono ?_
  rintro e w7 ⟨rfl, hB⟩
  have HW7 := Lib.hid (Below.up (Below.up HW2.out T3.out) hB)
  have hsz := dgt_size NZ.out.nonneg NZ.out.lt
  clear hB M D T0 T1 T2 T3 R0 R1 HB0 HB1 HB2 SP Vi Vj oa0 oa1 oa2 ob0 ob1 ob2
  generalize hD1 : dgt (Z.natAbs : Int) = D1 at *
  have HD1 := Lib.hid hD1
  clear hD1
  by_cases hl : D1.size < d + 1
  · obtain ⟨cc, hcc⟩ : ∃ cc : Nat, d + 1 = D1.size + cc := ⟨d + 1 - D1.size, by omega⟩
    have ec : (d : Int) + 1 - (D1.size : Int) = (cc : Int) := by omega
    have dl : decide ((0 : Int) < (cc : Int)) = true := decide_eq_true (by omega)
    go_wp2_with fail
    refine (HR.out cc _ (by omega)).mono ?_
    rintro e w8 ⟨rfl, hB⟩
    have HW8 := Lib.hid (Below.up HW7.out hB)
    have hrs := rp_size cc
    have hnl : ¬ (9223372036854775807 < (rp cc).size + D1.size) := by omega
    clear hB
    have hone : (cc : Int) + (D1.size : Int) - (d : Int) = 1 := by omega
    have hS : (rp cc ++ D1).size = d + 1 := by rw [ByteArray.size_append]; omega
    have HC := Lib.hid (show dc1 d Z = rp cc ++ D1 by
      unfold dc1
      rw [HD1.out, if_pos hl, show d + 1 - D1.size = cc by omega])
    have HS := Lib.hid hS
    clear hS
    go_wp2_with fail
    have hS := HS.out
    generalize rp cc ++ D1 = S at *
    have hs1 : (1 : Int) ≤ (S.size : Int) := by omega
    have hs2 : S.size - d = 1 := by omega
    have HP := Lib.hid (show dpt d S = S.extract 0 1 ++ (⟨#[46]⟩ : ByteArray) ++ S.extract 1 (d + 1) by unfold dpt; rw [hs2, hS])
    have hsx : (S.extract 0 1 ++ (⟨#[46]⟩ : ByteArray) ++ S.extract 1 (d + 1)).size = d + 2 := by
      rw [ByteArray.size_append, ByteArray.size_append, ByteArray.size_extract, ByteArray.size_extract]
      have : (⟨#[46]⟩ : ByteArray).size = 1 := rfl
      omega
    have HX := Lib.hid hsx
    clear hsx hcc hone hs2
    go_quiet (fail)
    have hsx := HX.out
    generalize S.extract 0 1 ++ (⟨#[46]⟩ : ByteArray) ++ S.extract 1 (d + 1) = D2 at *
    cases bz
    · go_wp2_with fail
      go_ret2
      exact ⟨Z, R, HD.out, by rw [dcs_pos HC.out HSG.out.2, HP.out] <;> rfl, below_drewN HW8.out nq⟩
    · have hn2 : ¬ (9223372036854775807 < 1 + D2.size) := by omega
      go_wp2_with fail
      go_ret2
      exact ⟨Z, R, HD.out, by rw [dcs_neg HC.out (HSG.out.1 (by first | rfl | trivial)), HP.out] <;> rfl, below_drewN HW8.out nq⟩
  · have dl : decide ((0 : Int) < (d : Int) + 1 - (D1.size : Int)) = false := decide_eq_false (by omega)
    have hp0 : (0 : Int) ≤ (D1.size : Int) - (d : Int) := by omega
    have hp1 : (D1.size : Int) - (d : Int) ≤ (D1.size : Int) := by omega
    have hp2 : ((D1.size : Int) - (d : Int)).toNat = D1.size - d := by omega
    have HC := Lib.hid (show dc1 d Z = D1 by
      unfold dc1
      rw [HD1.out, if_neg hl])
    have HX := Lib.hid (show (dpt d D1).size = D1.size + 1 by
      unfold dpt
      rw [ByteArray.size_append, ByteArray.size_append, ByteArray.size_extract, ByteArray.size_extract]
      have : (⟨#[46]⟩ : ByteArray).size = 1 := rfl
      omega)
    have HP := Lib.hid (show dpt d D1 = D1.extract 0 (D1.size - d) ++ (⟨#[46]⟩ : ByteArray) ++ D1.extract (D1.size - d) D1.size from rfl)
    go_wp2_with fail
    go_quiet (fail)
    have hsx := HX.out
    rw [HP.out] at hsx
    generalize D1.extract 0 (D1.size - d) ++ (⟨#[46]⟩ : ByteArray) ++ D1.extract (D1.size - d) D1.size = D2 at *
    cases bz
    · go_wp2_with fail
      go_ret2
      exact ⟨Z, R, HD.out, by rw [dcs_pos HC.out HSG.out.2, HP.out] <;> rfl, below_drewN HW7.out nq⟩
    · have hn2 : ¬ (9223372036854775807 < 1 + D2.size) := by omega
      go_wp2_with fail
      go_ret2
      exact ⟨Z, R, HD.out, by rw [dcs_neg HC.out (HSG.out.1 (by first | rfl | trivial)), HP.out] <;> rfl, below_drewN HW7.out nq⟩
end Go.Proofs.YtpkjpepnjlcgoaaDoor
end

section
set_option linter.unusedVariables false
set_option linter.unusedSimpArgs false
set_option maxRecDepth 100000
namespace Go.Proofs.YtpkjpepnjlcgoaaDoor
open Go.RowKit Go.Shelf

def laysRep_ren : Go.Shelf.Ren := ⟨fun | 105 => 40 | 212 => 65 | 99 => 66 | 165 => 67 | 166 => 68 | 170 => 69 | 169 => 70 | 263 => 87 | 264 => 88 | 206 => 89 | 240 => 90 | 241 => 91 | 276 => 103 | 277 => 104 | n => n, fun | 9 => 9 | 3 => 3 | 4 => 4 | 20 => 20 | 0 => 0 | 46 => 89 | 109 => 90 | 5 => 5 | 72 => 95 | 76 => 99 | 51 => 27 | 146 => 111 | 53 => 74 | 148 => 115 | 70 => 93 | 37 => 85 | 75 => 98 | 127 => 117 | 164 => 126 | 80 => 102 | n => n, fun | n => n⟩
theorem laysRep : Go.Proofs.Lays.n105 Tryd.prog laysRep_ren where
  mixed := by kernel_rfl
  f99 := Tryd.func66.trans (congrArg some (by kernel_rfl))
  f105 := Tryd.func40.trans (congrArg some (by kernel_rfl))
  f165 := Tryd.func67.trans (congrArg some (by kernel_rfl))
  f166 := Tryd.func68.trans (congrArg some (by kernel_rfl))
  f169 := Tryd.func70.trans (congrArg some (by kernel_rfl))
  f170 := Tryd.func69.trans (congrArg some (by kernel_rfl))
  f206 := Tryd.func89.trans (congrArg some (by kernel_rfl))
  f212 := Tryd.func65.trans (congrArg some (by kernel_rfl))
  f240 := Tryd.func90.trans (congrArg some (by kernel_rfl))
  f241 := Tryd.func91.trans (congrArg some (by kernel_rfl))
  f263 := Tryd.func87.trans (congrArg some (by kernel_rfl))
  f264 := Tryd.func88.trans (congrArg some (by kernel_rfl))
  f276 := Tryd.func103.trans (congrArg some (by kernel_rfl))
  f277 := Tryd.func104.trans (congrArg some (by kernel_rfl))
  t0 := Tryd.underlying0
  a0 := Tryd.isAgg0
  z0 := Tryd.sizeOf0
  v0 := Tryd.zeroValue0
  t3 := Tryd.underlying3
  a3 := Tryd.isAgg3
  z3 := Tryd.sizeOf3
  v3 := Tryd.zeroValue3
  t4 := Tryd.underlying4
  a4 := Tryd.isAgg4
  z4 := Tryd.sizeOf4
  v4 := Tryd.zeroValue4
  t5 := Tryd.underlying5
  a5 := Tryd.isAgg5
  z5 := Tryd.sizeOf5
  v5 := Tryd.zeroValue5
  t9 := Tryd.underlying9
  a9 := Tryd.isAgg9
  z9 := Tryd.sizeOf9
  v9 := Tryd.zeroValue9
  t20 := Tryd.underlying20
  a20 := Tryd.isAgg20
  z20 := Tryd.sizeOf20
  v20 := Tryd.zeroValue20
  t37 := Tryd.underlying85
  a37 := Tryd.isAgg85
  z37 := Tryd.sizeOf85
  v37 := Tryd.zeroValue85
  t46 := Tryd.underlying89
  a46 := Tryd.isAgg89
  z46 := Tryd.sizeOf89
  v46 := Tryd.zeroValue89
  t51 := Tryd.underlying27
  a51 := Tryd.isAgg27
  z51 := Tryd.sizeOf27
  v51 := Tryd.zeroValue27
  t53 := Tryd.underlying74
  a53 := Tryd.isAgg74
  z53 := Tryd.sizeOf74
  v53 := Tryd.zeroValue74
  t70 := Tryd.underlying93
  a70 := Tryd.isAgg93
  z70 := Tryd.sizeOf93
  v70 := Tryd.zeroValue93
  t72 := Tryd.underlying95
  a72 := Tryd.isAgg95
  z72 := Tryd.sizeOf95
  v72 := Tryd.zeroValue95
  t75 := Tryd.underlying98
  a75 := Tryd.isAgg98
  z75 := Tryd.sizeOf98
  v75 := Tryd.zeroValue98
  t76 := Tryd.underlying99
  a76 := Tryd.isAgg99
  z76 := Tryd.sizeOf99
  v76 := Tryd.zeroValue99
  t109 := Tryd.underlying90
  a109 := Tryd.isAgg90
  z109 := Tryd.sizeOf90
  v109 := Tryd.zeroValue90
  t127 := Tryd.underlying117
  a127 := Tryd.isAgg117
  z127 := Tryd.sizeOf117
  v127 := Tryd.zeroValue117
  t146 := Tryd.underlying111
  a146 := Tryd.isAgg111
  z146 := Tryd.sizeOf111
  v146 := Tryd.zeroValue111
  t148 := Tryd.underlying115
  a148 := Tryd.isAgg115
  z148 := Tryd.sizeOf115
  v148 := Tryd.zeroValue115
  t164 := Tryd.underlying126
  a164 := Tryd.isAgg126
  z164 := Tryd.sizeOf126
  v164 := Tryd.zeroValue126
theorem laysRep_extra : Builder.Extra Tryd.prog laysRep_ren where
  sizeBuilder := by kernel_rfl
  liesBuilder := by kernel_rfl
  t5 := laysRep.t5
  a5 := laysRep.a5
  z5 := laysRep.z5
  v5 := laysRep.v5
  infoByte := by kernel_rfl
  cellsByte := by kernel_rfl
  sizeByte := by kernel_rfl
  neB5 := by decide

theorem laysRep_f : laysRep_ren.f 105 = 40 := by kernel_rfl

/-- strings.Repeat, as Decimal needs it. -/
theorem rep_fits : RepFits := by
  intro c w hc
  have h := Any.strings_Repeat laysRep laysRep_extra ⟨#[48]⟩ c w (by omega) (by show 1 * c ≤ _; omega)
  rw [laysRep_f] at h
  refine h.mono fun e w' ⟨he, hw⟩ => ⟨?_, hw⟩
  rw [he]
  have e := Lib.repeatL_replicate 48 1 c
  have e2 : Lib.repeatL (ByteArray.mk #[48]).data.toList c = List.replicate c 48 := by simpa using e
  rw [e2]
  simp [rp]

theorem Decimal_said (u : Value) (n m d : Nat) (p q : Int) (w : World) (hu : AR w u n m p q) (hn : n ≤ 39) (hm : m ≤ 300) (hd : 0 < d ∧ d ≤ 38) :
    Calls Tryd.prog 11 #[u, .int .i64 d] w (DecP w (tP p q * 10 ^ d * 2 + tQ q) (tQ q * 2) d) :=
  Decimal_any rep_fits u n m d p q w hu hn hm hd

end Go.Proofs.YtpkjpepnjlcgoaaDoor
end

section
set_option linter.unusedVariables false
set_option linter.unusedSimpArgs false
namespace Go.Proofs.YtpkjpepnjlcgoaaDoor
open Go.RowKit

/-- A block of N words whose contents are not told. -/
def Rm (w : World) (b N : Nat) : Prop := ∃ C : Array Value, w.heap[b]? = some (.cells C 27 (0, 0)) ∧ C.size = N
theorem Rm.cell {w : World} {b N j : Nat} (h : Rm w b N) (hj : j < N) : (w.cell? ⟨b, j, none⟩).isSome = true := by
  obtain ⟨C, h1, h2⟩ := h
  simp [World.cell?, h1, h2, hj]
theorem Rm.frozen {w : World} {b N j : Nat} (h : Rm w b N) : w.frozen? ⟨b, j, none⟩ = false := by
  obtain ⟨C, h1, h2⟩ := h
  simp [World.frozen?, h1]

theorem Rm.set {w : World} {b N j : Nat} (h : Rm w b N) (v : Value) : Rm (w.setCell ⟨b, j, none⟩ v) b N := by
  obtain ⟨C, h1, h2⟩ := h
  refine ⟨C.setIfInBounds j v, ?_, by simpa using h2⟩
  simp [World.setCell, Array.getElem?_modify, h1]
theorem Rm.sets {b N : Nat} : ∀ (vs : List Value) (o : Nat) (w : World), Rm w b N → Rm (w.setCells b o vs) b N
  | [], _, _, h => h
  | v :: r, o, w, h => Rm.sets r (o + 1) (w.setCell ⟨b, o, none⟩ v) (h.set v)
theorem Rm.setOther {w : World} {b N : Nat} (h : Rm w b N) {a : Addr} (ha : a.block ≠ b) (v : Value) : Rm (w.setCell a v) b N := by
  obtain ⟨C, h1, h2⟩ := h
  exact ⟨C, (Below.heap_setCell _ _ _ _ (Ne.symm ha)).trans h1, h2⟩

/-- 'make' of no words, with room for n. -/
theorem makeRoom32 {ops : Array Oper} {rest : List Oper} {o : Oper} {a : Act} {Q : Exit → Act → World → Prop} {w : World}
    (hg : o.guard = none) (l c : Operand) (t : TypeId) (hop : o.op = Op.makeSlice t l c) (h1 : Tryd.prog.underlying t = some (.slice 27))
    (n : Nat) (C : Int) (hl : a.eval l = .int .i64 0) (hc : a.eval c = .int .i64 C) (hC : C = (n : Int)) (hn : n ≤ 1000000000)
    (hK : ∀ w', Rm w' w.heap.size n → Below w.heap.size w w' → wpList Tryd.prog ops Q rest (a.put o.dst (.slice (some ⟨w.heap.size, 0, none⟩) 0 n)) w') :
    wpList Tryd.prog ops Q (o :: rest) a w := by
  obtain ⟨i, hi, hz0, hz1, hz2⟩ := info_parts u32_info
  refine wpList_make_own w hg l c t hop w.heap.size 27 i _ 1 h1 hi hz0 hz1 .i64 .i64 C n hl hc hC (by rw [hz2]; omega) (by unfold maxLen; omega) (Nat.le_refl _) ?_
  intro w' hown hgrow
  refine hK w' ?_ ⟨hgrow.os, hgrow.tape, hgrow.output, hgrow.size, fun k hk => hgrow.block k hk (by simp)⟩
  obtain ⟨h1, h2 | ⟨g, cap, cur, hv, hg, hh, hle, hm, hsz, htk⟩⟩ := hown
  · exact absurd h2.1 (by simp)
  · simp only [Value.slice.injEq, Option.some.injEq, Addr.mk.injEq, and_true] at hv
    obtain ⟨hv1, _, hv2⟩ := hv
    subst hv1
    subst hv2
    exact ⟨cur, hh, by omega⟩

/-- For a walk's arms: this is a call of append. -/
theorem is_append {P : Program} {ops : Array Oper} {rest : List Oper} {a : Act} {Q : Exit → Act → World → Prop} {w : World} {dst : Option Tmp} {x : Array Operand} {y : Array TypeId} {ty : TypeId} {pos : String} {after : Array Edge} {g : Option (Nat × Bool)}
    (h : wpList P ops Q (⟨dst, .call { callee := .builtin .append, args := x, argTypes := y }, ty, pos, after, g⟩ :: rest) a w) : wpList P ops Q (⟨dst, .call { callee := .builtin .append, args := x, argTypes := y }, ty, pos, after, g⟩ :: rest) a w := h

/-- The words of a row, in a list. -/
def wl (n : Nat) (x : Nat → Int) : List Value := (List.range n).map fun j => .int .u32 (x j)
theorem wl_length (n : Nat) (x : Nat → Int) : (wl n x).length = n := by simp [wl]
theorem wl_get {n j : Nat} {x : Nat → Int} {u : Value} (h : (wl n x)[j]? = some u) : j < n ∧ u = .int .u32 (x j) := by
  simp only [wl, List.getElem?_map, Option.map_eq_some_iff] at h
  obtain ⟨k, h1, h2⟩ := h
  obtain ⟨h3, h4⟩ := List.getElem?_eq_some_iff.1 h1
  simp only [List.length_range] at h3
  simp only [List.getElem_range] at h4
  subst h4
  exact ⟨h3, h2.symm⟩

theorem src_words {w : World} {tx : TypeId} (hk : Tryd.prog.underlying tx = some (.slice 27)) {a : Option Addr} {n c : Nat} {x : Nat → Int} (h : Sl w a n x) : Src Tryd.prog 1 tx (.slice a n c) n (wl n x) w := by
  cases a with
  | none =>
    have h0 : n = 0 := by
      by_cases h0 : 0 < n
      · obtain ⟨b, off, h1, _⟩ := h h0; cases h1
      · omega
    subst h0
    exact Src.ofNil w hk c
  | some ad =>
    refine Src.ofSlice w hk ad n c _ (by rw [wl_length, Nat.mul_one]) ?_ ?_
    · intro j u hj
      obtain ⟨h1, rfl⟩ := wl_get hj
      obtain ⟨b, off, h2, h3⟩ := h (by omega)
      have h4 := Option.some.inj h2
      subst h4
      have h5 := h3 j h1
      rw [show Addr.add ⟨b, off, none⟩ j = ⟨b, off + j, none⟩ from by simp [Addr.add]]
      exact h5
    · intro u hu
      obtain ⟨j, _, rfl⟩ := List.mem_map.1 hu
      rfl

/-- 'append' of a row of words within room. -/
theorem append32 {ops : Array Oper} {rest : List Oper} {o : Oper} {a : Act} {Q : Exit → Act → World → Prop} {w : World}
    (hg : o.guard = none) (s y : Operand) (t : TypeId) (hop : o.op = Op.call { callee := Callee.builtin Builtin.append, args := #[s, y], argTypes := #[t, t] })
    (ht : Tryd.prog.underlying t = some (.slice 27)) (b N n c : Nat) (ad : Option Addr) (x : Nat → Int) (hs : a.eval s = .slice (some ⟨b, 0, none⟩) 0 N) (hy : a.eval y = .slice ad n c)
    (hx : Sl w ad n x) (hN : Rm w b N) (hn : n ≤ N) (B : Nat) (hB : B ≤ b)
    (hK : ∀ w', Row w' b 0 n x → Below B w w' → (∀ k, k < w.heap.size → k ≠ b → w'.heap[k]? = w.heap[k]?) → Rm w' b N → wpList Tryd.prog ops Q rest (a.put o.dst (.slice (some ⟨b, 0, none⟩) n N)) w') :
    wpList Tryd.prog ops Q (o :: rest) a w := by
  refine wpList_append_room1 w hg s y t t hop 27 (.int .u32 0) 4 ht u32_info b 0 0 N hs _ hy n (wl n x) (src_words ht hx) (by omega) ?_ ?_ ?_
  · intro j hj
    rw [wl_length] at hj
    simpa using hN.cell (by omega : j < N)
  · intro j hj
    exact hN.frozen
  · simp only [Nat.zero_add]
    refine hK _ ?_ (Lib.below_setCells_w hB _ _ _) (fun k h1 h2 => World.heap_setCells_other w b 0 _ h1 h2) (hN.sets _ _ _)
    intro j hj
    have hl : j < (wl n x).length := by rw [wl_length]; exact hj
    have h1 := World.cell?_setCells_in b (wl n x) 0 w (fun k hk => by rw [wl_length] at hk; simpa using hN.cell (by omega : k < N)) j hl
    rw [h1]
    obtain ⟨_, h2⟩ := wl_get (List.getElem?_eq_getElem hl)
    rw [h2]

/-- The same behind l words that are there. -/
theorem append32_at {ops : Array Oper} {rest : List Oper} {o : Oper} {a : Act} {Q : Exit → Act → World → Prop} {w : World}
    (hg : o.guard = none) (s y : Operand) (t : TypeId) (hop : o.op = Op.call { callee := Callee.builtin Builtin.append, args := #[s, y], argTypes := #[t, t] })
    (ht : Tryd.prog.underlying t = some (.slice 27)) (b l N n c : Nat) (ad : Option Addr) (x : Nat → Int) (hs : a.eval s = .slice (some ⟨b, 0, none⟩) l N) (hy : a.eval y = .slice ad n c)
    (hx : Sl w ad n x) (hN : Rm w b N) (hn : l + n ≤ N) (B : Nat) (hB : B ≤ b)
    (hK : ∀ w', Row w' b l n x → (∀ j, j < l → w'.cell? ⟨b, j, none⟩ = w.cell? ⟨b, j, none⟩) → Below B w w' → (∀ k, k < w.heap.size → k ≠ b → w'.heap[k]? = w.heap[k]?) → Rm w' b N →
      wpList Tryd.prog ops Q rest (a.put o.dst (.slice (some ⟨b, 0, none⟩) (l + n) N)) w') :
    wpList Tryd.prog ops Q (o :: rest) a w := by
  refine wpList_append_room1 w hg s y t t hop 27 (.int .u32 0) 4 ht u32_info b 0 l N hs _ hy n (wl n x) (src_words ht hx) hn ?_ ?_ ?_
  · intro j hj
    rw [wl_length] at hj
    simpa using hN.cell (by omega : l + j < N)
  · intro j hj
    exact hN.frozen
  · simp only [Nat.zero_add]
    refine hK _ ?_ ?_ (Lib.below_setCells_w hB _ _ _) (fun k h1 h2 => World.heap_setCells_other w b l _ h1 h2) (hN.sets _ _ _)
    · intro j hj
      have hl : j < (wl n x).length := by rw [wl_length]; exact hj
      have h1 := World.cell?_setCells_in b (wl n x) l w (fun k hk => by rw [wl_length] at hk; exact hN.cell (by omega : l + k < N)) j hl
      rw [h1]
      obtain ⟨_, h2⟩ := wl_get (List.getElem?_eq_getElem hl)
      rw [h2]
    · intro j hj
      exact World.cell?_setCells_out b (wl n x) l w ⟨b, j, none⟩ (fun _ _ => .inl hj)

/-- The cells of a new block of n + 3 words. -/
def zs (n : Nat) : Array Value := madeCells #[.int .u32 0] (n + 3)
theorem zs_size (n : Nat) : (zs n).size = n + 3 := by simp [zs, madeCells]
theorem make_eq (n : Nat) (hn : n ≤ 1000000) (W : World) : (Instr.makeSlice 22 (.int .i64 0) (.int .i64 (IntKind.i64.wrap ((n : Int) + 3)))).run Tryd.prog W = .ok (.slice (some ⟨W.heap.size, 0, none⟩) 0 (n + 3)) (W.alloc (.cells (zs n) 27)) := by
  obtain ⟨i, hi, hz0, hz1, hz2⟩ := info_parts u32_info
  have hw : IntKind.i64.wrap ((n : Int) + 3) = ((n + 3 : Nat) : Int) := by rw [IntWalk.i64_in _ (by omega)]; omega
  rw [hw]
  have hr := run_make (P := Tryd.prog) W 22 27 i _ (by kernel_rfl) hi hz0 .i64 .i64 0 ((n + 3 : Nat) : Int) (Int.le_refl _) (by omega) (by rw [hz2]; omega) (by omega)
  simp only [Int.toNat_zero, Int.toNat_natCast, hz1, Nat.mul_one] at hr
  exact hr

theorem own_block {w : World} (X : Obj) : (w.alloc X).heap[w.heap.size]? = some X := World.alloc_heap_new w X
/-- What own has made before its words are there. -/
def OwnMid (w W0 : World) (g : Bool) (n bo b : Nat) (W : World) : Prop :=
  w.heap.size + 2 ≤ bo ∧ w.heap.size + 2 ≤ b ∧ b ≠ bo ∧ bo < W.heap.size ∧ b < W.heap.size ∧ Below W0.heap.size W0 W ∧ W.heap[bo]? = some (.cells #[.bool g, .slice (some ⟨b, 0, none⟩) 0 (n + 3)] 24 (0, 0)) ∧ Rm W b (n + 3)
theorem own_l1 {w W0 : World} (h : W0.heap.size = w.heap.size + 2) (g : Bool) (n : Nat) :
    OwnMid w W0 g n (w.heap.size + 2 + 1) (w.heap.size + 2) ((W0.alloc (.cells (zs n) 27)).alloc (.cells #[.bool g, .slice (some ⟨w.heap.size + 2, 0, none⟩) 0 (n + 3)] 24)).drew := by
  have k1 := (Below.refl W0.heap.size W0).alloc (Nat.le_refl _) (.cells (zs n) 27)
  have s1 : (W0.alloc (.cells (zs n) 27)).heap.size = w.heap.size + 2 + 1 := by simp [h]
  have k2 := (Below.refl (W0.alloc (.cells (zs n) 27)).heap.size (W0.alloc (.cells (zs n) 27))).alloc (Nat.le_refl _) (.cells #[.bool g, .slice (some ⟨w.heap.size + 2, 0, none⟩) 0 (n + 3)] 24)
  have e1 := own_block (w := W0) (.cells (zs n) 27)
  have e2 := own_block (w := W0.alloc (.cells (zs n) 27)) (.cells #[.bool g, .slice (some ⟨w.heap.size + 2, 0, none⟩) 0 (n + 3)] 24)
  have e3 := k2.block W0.heap.size (by omega)
  have s2 : ((W0.alloc (.cells (zs n) 27)).alloc (.cells #[.bool g, .slice (some ⟨w.heap.size + 2, 0, none⟩) 0 (n + 3)] 24)).heap.size = w.heap.size + 2 + 1 + 1 := by rw [← s1]; simp
  rw [s1] at e2
  rw [e1, h] at e3
  exact ⟨by omega, by omega, by omega, by show _ < Array.size (World.heap (World.alloc _ _)); rw [s2]; omega, by show _ < Array.size (World.heap (World.alloc _ _)); rw [s2]; omega, Below.drew (Below.up k1 k2), e2, zs n, e3, zs_size n⟩
theorem own_l2 {w W0 : World} (h : W0.heap.size = w.heap.size + 2) (g : Bool) (n : Nat) :
    OwnMid w W0 g n (w.heap.size + 2) (w.heap.size + 2 + 1) ((W0.alloc (.cells #[.bool g, .slice (some ⟨w.heap.size + 2 + 1, 0, none⟩) 0 (n + 3)] 24)).alloc (.cells (zs n) 27)).drew := by
  have k1 := (Below.refl W0.heap.size W0).alloc (Nat.le_refl _) (.cells #[.bool g, .slice (some ⟨w.heap.size + 2 + 1, 0, none⟩) 0 (n + 3)] 24)
  have s1 : (W0.alloc (.cells #[.bool g, .slice (some ⟨w.heap.size + 2 + 1, 0, none⟩) 0 (n + 3)] 24)).heap.size = w.heap.size + 2 + 1 := by simp [h]
  have k2 := (Below.refl (W0.alloc (.cells #[.bool g, .slice (some ⟨w.heap.size + 2 + 1, 0, none⟩) 0 (n + 3)] 24)).heap.size (W0.alloc (.cells #[.bool g, .slice (some ⟨w.heap.size + 2 + 1, 0, none⟩) 0 (n + 3)] 24))).alloc (Nat.le_refl _) (.cells (zs n) 27)
  have e1 := own_block (w := W0) (.cells #[.bool g, .slice (some ⟨w.heap.size + 2 + 1, 0, none⟩) 0 (n + 3)] 24)
  have e2 := own_block (w := W0.alloc (.cells #[.bool g, .slice (some ⟨w.heap.size + 2 + 1, 0, none⟩) 0 (n + 3)] 24)) (.cells (zs n) 27)
  have e3 := k2.block W0.heap.size (by omega)
  have s2 : ((W0.alloc (.cells #[.bool g, .slice (some ⟨w.heap.size + 2 + 1, 0, none⟩) 0 (n + 3)] 24)).alloc (.cells (zs n) 27)).heap.size = w.heap.size + 2 + 1 + 1 := by rw [← s1]; simp
  rw [s1] at e2
  rw [e1, h] at e3
  exact ⟨by omega, by omega, by omega, by show _ < Array.size (World.heap (World.alloc _ _)); rw [s2]; omega, by show _ < Array.size (World.heap (World.alloc _ _)); rw [s2]; omega, Below.drew (Below.up k1 k2), e3, zs n, e2, zs_size n⟩

set_option maxRecDepth 100000 in
theorem own_any (u : Value) (n : Nat) (z : Int) (w : World) (hu : AI w u n z) (hn : n ≤ 1000000) :
    Calls Tryd.prog 8 #[u] w fun e w' => ∃ g b, e = .returned (.agg #[.bool g, .slice (some ⟨b, 0, none⟩) n (n + 3)]) ∧ w.heap.size ≤ b ∧ AI w' (.agg #[.bool g, .slice (some ⟨b, 0, none⟩) n (n + 3)]) n z ∧ Below w.heap.size w w' ∧ Rm w' b (n + 3) := by
  have hu0 := hu
  obtain ⟨g, a, c, x, rfl, hc, hd, hs, hz⟩ := hu
  have HU := Lib.hid hu0
  clear hu0
  have HZ := Lib.hid hz
  clear hz
  have HS := Lib.hid hs
  clear hs
  go_enter Tryd.func8, Tryd.ntmps8
  go_wp2_with fail
  have HV := Lib.hid ((IV.new HU.out).below ((Below.refl _ _).alloc (Nat.le_refl _) (Obj.cells #[Value.bool false, Value.slice none 0 0] 24)))
  have hS0 : ((w.alloc (Obj.cells #[Value.bool g, Value.slice a n c] 24)).alloc (Obj.cells #[Value.bool false, Value.slice none 0 0] 24)).heap.size = w.heap.size + 2 := by simp
  have HB := Lib.hid (((Below.refl w.heap.size w).alloc (Nat.le_refl _) (Obj.cells #[Value.bool g, Value.slice a n c] 24)).alloc (by simp) (Obj.cells #[Value.bool false, Value.slice none 0 0] 24))
  have hRes0 := Lib.hid (own_block (w := w.alloc (Obj.cells #[Value.bool g, Value.slice a n c] 24)) (Obj.cells #[Value.bool false, Value.slice none 0 0] 24))
  rw [show (w.alloc (Obj.cells #[Value.bool g, Value.slice a n c] 24)).heap.size = w.heap.size + 1 from by simp] at hRes0
  generalize hW0 : ((w.alloc (Obj.cells #[Value.bool g, Value.slice a n c] 24)).alloc (Obj.cells #[Value.bool false, Value.slice none 0 0] 24)) = W0 at *
  clear hW0
  have M := Lib.hid (show ∀ w', Below W0.heap.size W0 w' → w'.cell? ⟨w.heap.size, 0, none⟩ = some (.bool g) ∧ w'.cell? ⟨w.heap.size, 1, none⟩ = some (.slice a n c) from fun w' h => ⟨(HV.out.below h).1, (HV.out.below h).2.1⟩)
  have hmk := make_eq n hn
  have hA := HV.out.1
  have hA1 := HV.out.2.1
  go_cut [3] from 4 (fun s0 W => ∃ (bo b : Nat), s0 = .pointer (some ⟨bo, 0, none⟩) ∧ Hid (OwnMid w W0 g n bo b W))
  case first =>
    rename_i hJ hK
    have B_ := Lib.hid (Below.refl W0.heap.size W0)
    have D_ := Lib.hid (Below.drew B_.out)
    go_region_held3 (fun w' => w'.cell? ⟨w.heap.size, 0, none⟩ = some (.bool g) ∧ w'.cell? ⟨w.heap.size, 1, none⟩ = some (.slice a n c))
      (exact M.out _ (by ((repeat (first | (with_reducible exact B_.out) | (with_reducible exact D_.out) | (with_reducible refine Below.alloc' ?_ _) | (with_reducible refine Below.drew' ?_))))))
      (fail)
    all_goals
      refine hK _ _ (Met.intro (hJ _ _ ?_))
      (repeat apply Exists.intro)
      refine ⟨?_, rfl⟩
    · exact ⟨_, _, rfl, Lib.hid (own_l1 hS0 g n)⟩
    · exact ⟨_, _, rfl, Lib.hid (own_l2 hS0 g n)⟩
  case rest =>
    obtain ⟨bo, b, rfl, hF⟩ := hcut
    generalize wc = w2 at *
    obtain ⟨b1, b2, b3, b4, b5, hB, hO, hR⟩ := hF.out
    clear hF
    obtain ⟨ca, ca1, _, _⟩ := HV.out.below hB
    have HR2 := Lib.hid hR
    clear hR
    have hS2 : Sl w2 a n x := sl_below HS.out (HB.out.trans (hB.mono (by omega)))
    have HS2 := Lib.hid hS2
    clear hS2
    have HB2 := Lib.hid (HB.out.trans (hB.mono (by omega)))
    have hRes := hB.block (w.heap.size + 1) (by omega)
    rw [hRes0.out] at hRes
    have co : w2.cell? ⟨bo, 0, none⟩ = some (.bool g) := by simp [World.cell?, hO]
    have co1 : w2.cell? ⟨bo, 1, none⟩ = some (.slice (some ⟨b, 0, none⟩) 0 (n + 3)) := by simp [World.cell?, hO]
    go_wp2_with (first
      | ((with_reducible refine is_append ?_); refine append32 rfl _ _ _ rfl (by kernel_rfl) b (n + 3) n c a x rfl rfl HS2.out HR2.out (by omega) (w.heap.size + 2) b2 ?_; intro w3 hRow hC hOth hRm; have e3 := (hOth bo b4 (Ne.symm b3)).trans hO; have e4 := (hOth (w.heap.size + 1) (by omega) (by omega)).trans hRes; have c3 : w3.cell? ⟨bo, 0, none⟩ = some (.bool g) := (by simp [World.cell?, e3]); have c31 : w3.cell? ⟨bo, 1, none⟩ = some (.slice (some ⟨b, 0, none⟩) 0 (n + 3)) := (by simp [World.cell?, e3]); have f31 : w3.frozen? ⟨bo, 1, none⟩ = false := (by simp [World.frozen?, e3]); have c4 : w3.cell? ⟨w.heap.size + 1, 0, none⟩ = some (.bool false) := (by simp [World.cell?, e4]); have c41 : w3.cell? ⟨w.heap.size + 1, 1, none⟩ = some (.slice none 0 0) := (by simp [World.cell?, e4]); have f4 : w3.frozen? ⟨w.heap.size + 1, 0, none⟩ = false := (by simp [World.frozen?, e4]); have f41 : w3.frozen? ⟨w.heap.size + 1, 1, none⟩ = false := (by simp [World.frozen?, e4]); have ne1 : bo ≠ w.heap.size + 1 := (by omega); have ne2 : w.heap.size + 1 ≠ bo := (by omega)))
    have h1 := ((hRow.setOther (a := ⟨bo, 1, none⟩) (by show bo ≠ b; omega) (.slice (some ⟨b, 0, none⟩) n (n + 3))).setOther (a := ⟨w.heap.size + 1, 0, none⟩) (by show w.heap.size + 1 ≠ b; omega) (.bool g)).setOther (a := ⟨w.heap.size + 1, 1, none⟩) (by show w.heap.size + 1 ≠ b; omega) (.slice (some ⟨b, 0, none⟩) n (n + 3))
    have h2 := (((HB2.out.trans (hC.mono (by omega))).setCell (p := ⟨bo, 1, none⟩) (by show _ ≤ bo; omega) (.slice (some ⟨b, 0, none⟩) n (n + 3))).setCell (p := ⟨w.heap.size + 1, 0, none⟩) (by show _ ≤ w.heap.size + 1; omega) (.bool g)).setCell (p := ⟨w.heap.size + 1, 1, none⟩) (by show _ ≤ w.heap.size + 1; omega) (.slice (some ⟨b, 0, none⟩) n (n + 3))
    exact bodyPost_ret (v := .agg #[.bool g, .slice (some ⟨b, 0, none⟩) n (n + 3)]) (by simp [results, Tryd.results8, go_sem, c4, c41, ne1, ne2, Ne.symm ne2]) rfl ⟨g, b, rfl, by omega, ⟨_, _, _, x, rfl, by omega, hd, fun _ => ⟨_, _, rfl, h1⟩, HZ.out⟩, h2, ((hRm.setOther (a := ⟨bo, 1, none⟩) (by show bo ≠ b; omega) _).setOther (a := ⟨w.heap.size + 1, 0, none⟩) (by show w.heap.size + 1 ≠ b; omega) _).setOther (a := ⟨w.heap.size + 1, 1, none⟩) (by show w.heap.size + 1 ≠ b; omega) _⟩

end Go.Proofs.YtpkjpepnjlcgoaaDoor
end

section
set_option linter.unusedVariables false
set_option linter.unusedSimpArgs false
namespace Go.Proofs.YtpkjpepnjlcgoaaDoor
open Go.RowKit

/-- A factor that is in Num and Den makes no difference. -/
theorem forms_cross (p q K : Int) (hK : K ≠ 0) : tP p q * tQ (q * K) = tP (p * K) (q * K) * tQ q := by
  unfold tP tQ
  rcases Int.lt_trichotomy q 0 with h | h | h
  · rcases Int.lt_or_lt_of_ne hK with k | k
    · have h1 : 0 < q * K := Int.mul_pos_of_neg_of_neg h k
      rw [if_neg (by omega), if_pos h, if_neg (by omega), if_neg (by omega), if_neg (by omega), if_neg (by omega), if_neg (by omega), if_pos h]
      grind
    · have h1 : q * K < 0 := Int.mul_neg_of_neg_of_pos h k
      rw [if_neg (by omega), if_pos h, if_neg (by omega), if_pos h1, if_neg (by omega), if_pos h1, if_neg (by omega), if_pos h]
      grind
  · subst h
    simp
  · rcases Int.lt_or_lt_of_ne hK with k | k
    · have h1 : q * K < 0 := Int.mul_neg_of_pos_of_neg h k
      rw [if_neg (by omega), if_neg (by omega), if_neg (by omega), if_pos h1, if_neg (by omega), if_pos h1, if_neg (by omega), if_neg (by omega)]
      grind
    · have h1 : 0 < q * K := Int.mul_pos h k
      rw [if_neg (by omega), if_neg (by omega), if_neg (by omega), if_neg (by omega), if_neg (by omega), if_neg (by omega), if_neg (by omega), if_neg (by omega)]
      grind

theorem low_pos (p q : Int) : tP (lP p q) (lQ p q) = lP p q ∧ tQ (lQ p q) = lQ p q := by
  have h := lQ_pos p q
  unfold tP tQ
  exact ⟨by rw [if_neg (by omega), if_neg (by omega)], by rw [if_neg (by omega), if_neg (by omega)]⟩
theorem low_cross (p q : Int) : lP p q * tQ q = tP p q * lQ p q := by
  unfold lP lQ
  obtain ⟨s, hs⟩ := Int.gcd_dvd_left (a := tP p q) (b := tQ q)
  obtain ⟨t, ht⟩ := Int.gcd_dvd_right (a := tP p q) (b := tQ q)
  have hq := tQ_pos q
  have hg : 0 < (Int.gcd (tP p q) (tQ q) : Int) := by have := Int.gcd_pos_of_ne_zero_right (tP p q) (show tQ q ≠ 0 by omega); omega
  generalize (Int.gcd (tP p q) (tQ q) : Int) = G at *
  rw [hs, ht, Int.mul_ediv_cancel_left s (by omega), Int.mul_ediv_cancel_left t (by omega)]
  grind
/-- The lowest terms of lowest terms. -/
theorem low_low (p q : Int) : lP (lP p q) (lQ p q) = lP p q ∧ lQ (lP p q) (lQ p q) = lQ p q := by
  refine lowest_same ?_
  rw [(low_pos p q).1, (low_pos p q).2]
  exact low_cross p q
/-- Tenths and so on of one value. -/
theorem dec_same {X Y X' Y' Z R Z' R' : Int} (k : Int) (h : DvS (X * k * 2 + Y) (Y * 2) Z R) (h' : DvS (X' * k * 2 + Y') (Y' * 2) Z' R') (hY : 0 < Y) (hY' : 0 < Y') (e : X * Y' = X' * Y) : Z = Z' := by
  refine dvs_same h h' (by omega) (by omega) ?_
  have e2 : X * k * 2 * Y' = X' * k * 2 * Y := by
    have : X * k * 2 * Y' = X * Y' * (k * 2) := by grind
    rw [this, e]
    grind
  grind

/-- An integer whose words get zeros behind them, in a variable of its own. -/
structure BW (w : World) (bb b : Nat) (g : Bool) (n N : Nat) (x : Nat → Int) : Prop where
  box : w.heap[bb]? = some (.cells #[.bool g, .slice (some ⟨b, 0, none⟩) n N] 24 (0, 0))
  room : Rm w b N
  row : Row w b 0 n x
  ne : bb ≠ b
theorem BW.c0 {w : World} {bb b : Nat} {g : Bool} {n N : Nat} {x : Nat → Int} (h : BW w bb b g n N x) : w.cell? ⟨bb, 0, none⟩ = some (.bool g) := by simp [World.cell?, h.box]
theorem BW.c1 {w : World} {bb b : Nat} {g : Bool} {n N : Nat} {x : Nat → Int} (h : BW w bb b g n N x) : w.cell? ⟨bb, 1, none⟩ = some (.slice (some ⟨b, 0, none⟩) n N) := by simp [World.cell?, h.box]
theorem BW.lt {w : World} {bb b : Nat} {g : Bool} {n N : Nat} {x : Nat → Int} (h : BW w bb b g n N x) : bb < w.heap.size := (Array.getElem?_eq_some_iff.1 h.box).1
theorem BW.lt2 {w : World} {bb b : Nat} {g : Bool} {n N : Nat} {x : Nat → Int} (h : BW w bb b g n N x) : b < w.heap.size := by
  obtain ⟨C, h1, _⟩ := h.room
  exact (Array.getElem?_eq_some_iff.1 h1).1
theorem BW.below {w w' : World} {bb b : Nat} {g : Bool} {n N : Nat} {x : Nat → Int} (h : BW w bb b g n N x) (k : Below w.heap.size w w') : BW w' bb b g n N x := by
  refine ⟨(k.block bb h.lt).trans h.box, ?_, h.row.below k, h.ne⟩
  have hl := h.lt2
  obtain ⟨C, h1, h2⟩ := h.room
  exact ⟨C, (k.block b hl).trans h1, h2⟩
/-- One zero more has been appended. -/
theorem BW.more {w w2 w3 : World} {bb b : Nat} {g : Bool} {n N : Nat} {x : Nat → Int} (h : BW w bb b g n N x) (hx : ∀ j, n ≤ j → x j = 0) (k : Below w.heap.size w w2)
    (hR : Row w3 b n 1 (fun _ => 0)) (hC : ∀ j, j < n → w3.cell? ⟨b, j, none⟩ = w2.cell? ⟨b, j, none⟩) (hO : ∀ k, k < w2.heap.size → k ≠ b → w3.heap[k]? = w2.heap[k]?) (hN : Rm w3 b N) :
    BW (w3.setCell ⟨bb, 1, none⟩ (.slice (some ⟨b, 0, none⟩) (n + 1) N)) bb b g (n + 1) N x := by
  have h2 := h.below k
  have e := (hO bb h2.lt h.ne).trans h2.box
  refine ⟨heap_set (i := 1) e _, hN.setOther (a := ⟨bb, 1, none⟩) h.ne _, ?_, h.ne⟩
  refine Row.setOther ?_ (a := ⟨bb, 1, none⟩) h.ne _
  intro j hj
  rcases Nat.lt_or_ge j n with l | l
  · have h5 := h2.row j l
    rw [Nat.zero_add] at h5 ⊢
    rw [hC j l]
    exact h5
  · obtain rfl : j = n := by omega
    have h0 := hR 0 (by omega)
    rw [hx _ l, Nat.zero_add]
    exact h0
theorem BW.flip {w : World} {bb b : Nat} {g : Bool} {n N : Nat} {x : Nat → Int} (h : BW w bb b g n N x) (g' : Bool) : BW (w.setCell ⟨bb, 0, none⟩ (.bool g')) bb b g' n N x :=
  ⟨heap_set (i := 0) h.box _, h.room.setOther (a := ⟨bb, 0, none⟩) h.ne _, h.row.setOther (a := ⟨bb, 0, none⟩) h.ne _, h.ne⟩
theorem BW.iv {w : World} {bb b : Nat} {g : Bool} {n N : Nat} {x : Nat → Int} (h : BW w bb b g n N x) (hx : Dg x) (hn : n ≤ N) {z : Int} (hz : z = sg g (V x n)) : IV w bb g (some ⟨b, 0, none⟩) n N z :=
  ⟨h.c0, h.c1, h.lt, ⟨g, _, N, x, rfl, hn, hx, fun _ => ⟨b, 0, rfl, h.row⟩, hz⟩⟩
theorem V_more {x : Nat → Int} {n : Nat} (hx : ∀ j, n ≤ j → x j = 0) (k : Nat) : V x (n + k) = V x n := by
  induction k with
  | zero => rfl
  | succ k ih => rw [← Nat.add_assoc, V_succ, ih, hx _ (by omega)]; omega
/-- The digits of an integer, zeros behind them. -/
theorem digits_cut {w : World} {g : Bool} {b n N : Nat} {z : Int} (h : AI w (.agg #[.bool g, .slice (some ⟨b, 0, none⟩) n N]) n z) :
    ∃ x, Dg x ∧ (∀ j, n ≤ j → x j = 0) ∧ Row w b 0 n x ∧ z = sg g (V x n) := by
  obtain ⟨g', a', c', x, e, hc, hd, hs, hz⟩ := h
  simp only [Value.agg.injEq, Array.mk.injEq, List.cons.injEq, and_true, Value.bool.injEq, Value.slice.injEq] at e
  obtain ⟨rfl, rfl, _, rfl⟩ := e
  refine ⟨zx x n, hd.zx n, fun j hj => by unfold zx; rw [if_neg (by omega)], ?_, ?_⟩
  · intro j hj
    obtain ⟨b', o', e, hr⟩ := hs (by omega)
    simp only [Option.some.injEq, Addr.mk.injEq, and_true] at e
    obtain ⟨rfl, rfl⟩ := e
    rw [zx_in hj]
    exact hr j hj
  · rw [V_zx_le (Nat.le_refl n)]
    exact hz
theorem fresh1 (w : World) : Row (w.alloc (.cells #[.int .u32 0] 27)) w.heap.size 0 1 (fun _ => 0) := by
  intro i hi
  obtain rfl : i = 0 := by omega
  unfold World.cell?
  rw [show (⟨w.heap.size, 0 + 0, none⟩ : Addr).block = w.heap.size from rfl, own_block]
  rfl
theorem Box4.new (w : World) : Box4 (w.alloc (.cells #[.bool false, .slice none 0 0, .bool false, .slice none 0 0] 26)) w.heap.size := Box4.new' rfl
theorem Box4.alloc {w : World} {b : Nat} (h : Box4 w b) (o : Obj) : Box4 (w.alloc o) b := h.below ((Below.refl _ _).alloc (Nat.le_refl _) _)
theorem Box4.drew {w : World} {b : Nat} (h : Box4 w b) : Box4 w.drew b := h
theorem Box4.row {w : World} {b : Nat} (h : Box4 w b) {b' off n : Nat} {x : Nat → Int} (hr : Row w b' off n x) (hn : 0 < n) : b' ≠ b := by
  obtain ⟨g, a, m, c, g', a', m', c', e⟩ := h
  intro hb
  subst hb
  have h0 := hr 0 hn
  unfold World.cell? at h0
  rw [show w.heap[(⟨b', off + 0, none⟩ : Addr).block]? = _ from e] at h0
  match off, h0 with
  | 0, h0 => cases h0
  | 1, h0 => cases h0
  | 2, h0 => cases h0
  | 3, h0 => cases h0
  | k + 4, h0 => simp at h0
theorem AI.put4 {w : World} {b i : Nat} (h : Box4 w b) {v : Value} {n : Nat} {z : Int} (k : AI w v n z) (u : Value) : AI (w.setCell ⟨b, i, none⟩ u) v n z := by
  obtain ⟨ng, a, cap, x, e, hc, hd, hs, hz⟩ := k
  refine ⟨ng, a, cap, x, e, hc, hd, fun hn => ?_, hz⟩
  obtain ⟨b', off, ea, hr⟩ := hs hn
  exact ⟨b', off, ea, hr.setOther (show b ≠ b' from Ne.symm (h.row hr hn)) u⟩
theorem Box4.set0 {w : World} {b : Nat} (h : Box4 w b) (g : Bool) : Box4 (w.setCell ⟨b, 0, none⟩ (.bool g)) b := by
  obtain ⟨g0, a, n, c, g', a', n', c', e⟩ := h
  exact ⟨g, a, n, c, g', a', n', c', heap_set e _⟩
theorem Box4.set1 {w : World} {b : Nat} (h : Box4 w b) (a0 : Option Addr) (n0 c0 : Nat) : Box4 (w.setCell ⟨b, 1, none⟩ (.slice a0 n0 c0)) b := by
  obtain ⟨g0, a, n, c, g', a', n', c', e⟩ := h
  exact ⟨g0, a0, n0, c0, g', a', n', c', heap_set e _⟩
theorem Box4.set2 {w : World} {b : Nat} (h : Box4 w b) (g : Bool) : Box4 (w.setCell ⟨b, 2, none⟩ (.bool g)) b := by
  obtain ⟨g0, a, n, c, g', a', n', c', e⟩ := h
  exact ⟨g0, a, n, c, g, a', n', c', heap_set e _⟩
/-- Where a ratio has been stored into its variable. -/
theorem RV.put {w : World} {b : Nat} {g g' : Bool} {a a' : Option Addr} {n c n' c' : Nat} {p q : Int} (h : Box4 w b) (k : AI w (.agg #[.bool g, .slice a n c]) n p) (k' : AI w (.agg #[.bool g', .slice a' n' c']) n' q) :
    RV ((((w.setCell ⟨b, 0, none⟩ (.bool g)).setCell ⟨b, 1, none⟩ (.slice a n c)).setCell ⟨b, 2, none⟩ (.bool g')).setCell ⟨b, 3, none⟩ (.slice a' n' c')) b g a n c g' a' n' c' p q := by
  have b1 := h.set0 g
  have b2 := b1.set1 a n c
  have b3 := b2.set2 g'
  have hl := h.lt
  have e1 := AI.put4 (i := 3) b3 (AI.put4 (i := 2) b2 (AI.put4 (i := 1) b1 (AI.put4 (i := 0) h k (.bool g)) (.slice a n c)) (.bool g')) (.slice a' n' c')
  have e2 := AI.put4 (i := 3) b3 (AI.put4 (i := 2) b2 (AI.put4 (i := 1) b1 (AI.put4 (i := 0) h k' (.bool g)) (.slice a n c)) (.bool g')) (.slice a' n' c')
  obtain ⟨g0, a0, n0, c0, g1, a1, n1, c1, e⟩ := h
  have e3 := heap_set (i := 3) (heap_set (i := 2) (heap_set (i := 1) (heap_set (i := 0) e (.bool g)) (.slice a n c)) (.bool g')) (.slice a' n' c')
  exact ⟨by unfold World.cell?; rw [e3]; rfl, by unfold World.cell?; rw [e3]; rfl, by unfold World.cell?; rw [e3]; rfl, by unfold World.cell?; rw [e3]; rfl, by simpa [World.setCell] using hl, ⟨_, _, _, _, rfl, e1, e2⟩⟩
/-- A factor of two words. -/
theorem factor_iv (w : World) (gg : Bool) (F : Int) (hF : 0 ≤ F ∧ F ≤ 4294967295) :
    IV ((w.alloc (.cells #[.int .u32 F, .int .u32 1] 27)).alloc (.cells #[.bool gg, .slice (some ⟨w.heap.size, 0, none⟩) 2 2] 24)) (w.heap.size + 1) gg (some ⟨w.heap.size, 0, none⟩) 2 2 (sg gg (F + 4294967296)) := by
  refine IV.new' ?_ (by simp)
  refine ⟨gg, _, 2, fun j => if j = 0 then F else if j = 1 then 1 else 0, rfl, Nat.le_refl _, ?_, ?_, ?_⟩
  · intro j
    show 0 ≤ (if j = 0 then F else if j = 1 then 1 else 0) ∧ (if j = 0 then F else if j = 1 then 1 else 0) ≤ 4294967295
    split
    · exact hF
    · split <;> omega
  · intro _
    refine ⟨w.heap.size, 0, rfl, fun j hj => ?_⟩
    unfold World.cell?
    rw [show (⟨w.heap.size, 0 + j, none⟩ : Addr).block = w.heap.size from rfl, own_block]
    match j, hj with
    | 0, _ => rfl
    | 1, _ => rfl
  · have e : V (fun j => if j = 0 then F else if j = 1 then 1 else 0) 2 = F + 4294967296 := by
      simp [V, P]
    rw [e]
theorem factor_ne (gg : Bool) (F : Int) (hF : 0 ≤ F ∧ F ≤ 4294967295) : sg gg (F + 4294967296) ≠ 0 := by
  cases gg <;> simp [sg] <;> omega
/-- The text of a ratio, its text known. -/
theorem show_is (u : Value) (n m : Nat) (p q : Int) (S : ByteArray) (w : World) (hT : Tab w) (hu : AR w u n m p q) (hn : n ≤ 900) (hm : m ≤ 900) (hS : shs (lP p q) (lQ p q) = S) :
    Calls Tryd.prog 15 #[u] w fun e w' => e = .returned (.string S) ∧ Below w.heap.size w w' := hS ▸ Show_any u n m p q w hT hu hn hm
theorem lowest_said (u : Value) (n m : Nat) (p q : Int) (w : World) (hT : Tab w) (hu : AR w u n m p q) (hn : n ≤ 900) (hm : m ≤ 900) :
    Calls Tryd.prog 16 #[u] w fun e w' => ∃ g a c g' a' c' k j, e = .returned (.agg #[.bool g, .slice a k c, .bool g', .slice a' j c']) ∧ AR w' (.agg #[.bool g, .slice a k c, .bool g', .slice a' j c']) k j (lP p q) (lQ p q) ∧ k ≤ n ∧ j ≤ max m 2 ∧ Below w.heap.size w w' := by
  refine (Lowest_any (common_any 1000 (by omega)) (divide_any 1000 (by omega)) u n m p q w hT hu (by omega) (by omega) (by omega)).mono ?_
  rintro e w' ⟨r, k, j, rfl, h1, h2, h3, h4⟩
  obtain ⟨g, a, c, g', a', c', rfl⟩ := h1.form
  exact ⟨g, a, c, g', a', c', k, j, rfl, h1.ar, h2, h3, h4⟩
theorem floor_said (u : Value) (n m : Nat) (p q : Int) (w : World) (hu : AR w u n m p q) (hn : n ≤ 900) (hm : m ≤ 900) :
    Calls Tryd.prog 17 #[u] w fun e w' => ∃ g a c k Q R, e = .returned (.agg #[.bool g, .slice a k c]) ∧ AI w' (.agg #[.bool g, .slice a k c]) k Q ∧ DvS (tP p q) (tQ q) Q R ∧ k ≤ n + 2 ∧ Below w.heap.size w w' := by
  refine (Floor_any u n m p q w hu hn hm).mono ?_
  rintro e w' ⟨r, k, Q, R, rfl, h1, h2, h3, h4⟩
  obtain ⟨g, a, c, rfl⟩ := h1.form
  exact ⟨g, a, c, k, Q, R, rfl, h1.ai, h2, h3, h4⟩
end Go.Proofs.YtpkjpepnjlcgoaaDoor
end
