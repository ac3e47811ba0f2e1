/- Contract: takeQuotient. -/
import Derived.Test.YtkhchaoehlefdaaDoorEyG
set_option linter.unusedVariables false
set_option linter.unusedSimpArgs false
namespace Go.Proofs.YtkhchaoehlefdaaDoor
open Go.RowKit

/-- What a step of the division leaves. -/
def QuoRel (b off j N : Nat) (x : Nat → Int) (r : Int) (w wr : World) : Prop :=
  ∃ x', Own wr b N x' ∧ Dg x' ∧ (∀ i, i < off ∨ off + (j + 3) ≤ i → x' i = x i) ∧ V (sh x' off) (j + 3) = r ∧ Chg b w wr

theorem quoRel_zero {b off j N : Nat} {x x1 : Nat → Int} {r : Int} {w w1 : World} (hO : Own w1 b N x1) (hd : Dg x1) (hf : ∀ i, i < off ∨ off + (j + 3) ≤ i → x1 i = x i) (hv : V (sh x1 off) (j + 2) = r) (hC : Chg b w w1) (hN : off + (j + 3) ≤ N) :
    QuoRel b off j N x r w (w1.setCell ⟨b, off + (j + 2), none⟩ (.int .u32 0)) := by
  refine ⟨upd x1 (off + (j + 2)) 0, hO.set (by omega) _, hd.upd _ (by omega) (by omega), fun i hi => ?_, ?_, hC.setCell rfl _⟩
  · rw [upd_other (by omega)]; exact hf i (by omega)
  · rw [sh_upd, V_succ, upd_same, V_congr (fun i hi => upd_other (by omega)), hv]; omega

set_option maxHeartbeats 3200000 in
theorem takeQuotient_any (b off j N cap cap2 : Nat) (a : Option Addr) (x y : Nat → Int) (w : World) (hN : off + (j + 3) ≤ N) (hn : j ≤ 1000000)
    (hx : Dg x) (hy : Dg y) (hv1 : 2147483648 ≤ y (j + 1)) (hU : V (sh x off) (j + 3) < V y (j + 2) * 4294967296) (hO : Own w b N x) (hr : Sl w a (j + 2) y) (hne : ∀ c o, a = some ⟨c, o, none⟩ → c ≠ b) :
    Calls Tryd.prog 94 #[.slice (some ⟨b, off, none⟩) (j + 3) cap, .slice a (j + 2) cap2] w fun e w' =>
      e = .returned (.int .u32 (V (sh x off) (j + 3) / V y (j + 2))) ∧ QuoRel b off j N x (V (sh x off) (j + 3) % V y (j + 2)) w w' := by
  obtain ⟨d, o, rfl, hrow⟩ := hr (by omega)
  have hdb := hne d o rfl
  have hsx : Dg (sh x off) := fun i => hx (off + i)
  have C := Lib.hid (guess_walk b off j (j + 3) cap cap2 d o (y (j + 1)) (y j) (x (off + (j + 2))) (x (off + (j + 1))) (x (off + j)) w (by omega) (by omega)
    ⟨hv1, (hy (j + 1)).2⟩ (hy j) (hx _) (hx _) (hx _) (hrow (j + 1) (by omega)) (hrow j (by omega)) (hO.cell (by omega)) (hO.cell (by omega)) (hO.cell (by omega)) (top_small hx hy hU))
  have G := Lib.hid (fun g h => guess_good (g := g) hx hy hv1 hU h)
  have hW : 0 < V y (j + 2) := by
    have e : V y (j + 2) = V y (j + 1) + y (j + 1) * P (j + 1) := V_succ _ _
    have h1 := V_nonneg hy (j + 1)
    have h2 := P_pos (j + 1)
    have h3 : 1 * P (j + 1) ≤ y (j + 1) * P (j + 1) := Int.mul_le_mul_of_nonneg_right (by omega) (by omega)
    omega
  have hWK := V_lt hy (j + 2)
  have hU1 : V (sh x off) (j + 3) = V (sh x off) (j + 2) + x (off + (j + 2)) * P (j + 2) := V_succ _ _
  have hU0 := V_nonneg hsx (j + 3)
  have T := Lib.hid (fun (q : Nat) (g : Int) (g0 : 0 ≤ g) (g1 : g ≤ 4294967295) => takeProduct_any b off (j + 2) (j + 3) N cap cap2 (some ⟨d, o, none⟩) x y g (w.drewN q) (by omega) hN (by omega) hx hy ⟨g0, g1⟩ (hO.same rfl) (fun _ => ⟨d, o, rfl, hrow⟩) (fun _ c o' h => hne c o' h))
  have HX := Lib.hid hx
  have HY := Lib.hid hy
  have HR := Lib.hid hrow
  have HO := Lib.hid hO
  have HV := Lib.hid (And.intro hW (And.intro hWK (And.intro hU1 hU0)))
  clear hr hne hrow hO hx hy hU hv1 hsx hW hWK hU1 hU0
  go_enter Tryd.func94, Tryd.ntmps94
  go_wp2_with fail
  refine C.out.mono ?_
  rintro e w1 ⟨g, rfl, hG, q, rfl⟩
  obtain ⟨g0, g1, hlo, hhi⟩ := G.out g hG
  have HL := Lib.hid (And.intro hlo hhi)
  clear C G hG hlo hhi
  go_wp2_with fail
  refine (T.out q g g0 g1).mono ?_
  rintro e w2 ⟨c, rfl, hM⟩
  clear T
  obtain ⟨x1, hO1, hd1, hs1, hm, c0, c1, hC1⟩ := hM
  have ht1 : x1 (off + (j + 2)) = x (off + (j + 2)) := hs1 _ (by omega)
  have hsx1 : Dg (sh x1 off) := fun i => hd1 (off + i)
  have k2 : w2.cell? ⟨b, off + (j + 2), none⟩ = some (.int .u32 (x (off + (j + 2)))) := by rw [← ht1]; exact hO1.cell (by omega)
  have k3 : w2.frozen? ⟨b, off + (j + 2), none⟩ = false := hO1.free _
  obtain ⟨b0, b1⟩ := HX.out (off + (j + 2))
  have hCw : Chg b w w2 := ⟨hC1.os, hC1.tape, hC1.output, hC1.size, hC1.block⟩
  have v1n := V_nonneg hsx1 (j + 2)
  have v1l := V_lt hsx1 (j + 2)
  by_cases hct : c ≤ x (off + (j + 2))
  · obtain ⟨f1, f2, f3⟩ := quo_fits HV.out.1 HV.out.2.1 HV.out.2.2.1 hm v1n v1l HL.out.2 hct
    have F := Lib.hid (quoRel_zero hO1 hd1 (fun i hi => hs1 i (by omega)) f3 hCw hN)
    have F2 := Lib.hid f2
    have hd : decide (x (off + (j + 2)) < c) = false := decide_eq_false (by omega)
    have hz : IntKind.u32.wrap (x (off + (j + 2)) - c) = 0 := by rw [f1, Int.sub_self]; rfl
    clear hO1 hd1 hs1 hm hC1 ht1 hsx1 hCw v1n v1l f2 f3 HX HY HR HO HV HL hdb
    generalize x (off + (j + 2)) = t at *
    subst f1
    go_wp2_with fail
    go_ret
    exact ⟨ret_int F2.out, F.out⟩
  · obtain ⟨f1, fg, f2, f3⟩ := quo_over HV.out.1 HV.out.2.1 HV.out.2.2.1 HV.out.2.2.2 hm v1n v1l HL.out.1 g0 (by omega)
    have hd : decide (x (off + (j + 2)) < c) = true := decide_eq_true (by omega)
    have hz : (x (off + (j + 2)) - c) % 4294967296 = 4294967295 := by omega
    have hg : IntKind.u32.wrap (g - 1) = g - 1 := by rw [IntKind.wrap_u32]; omega
    have h8 : IntKind.u32.wrap (4294967295 + 1) = 0 := rfl
    have HC2 := Lib.hid (hCw.setCell (a := ⟨b, off + (j + 2), none⟩) rfl (.int .u32 4294967295))
    have hrow3 : Row (w2.setCell ⟨b, off + (j + 2), none⟩ (.int .u32 4294967295)) d o (j + 2) y := HR.out.chg HC2.out hdb
    have A1 := Lib.hid (addWords_any b off (j + 2) (j + 3) N cap cap2 (some ⟨d, o, none⟩) (upd x1 (off + (j + 2)) 4294967295) y (w2.setCell ⟨b, off + (j + 2), none⟩ (.int .u32 4294967295)).drew (by omega) hN (by omega)
      (hd1.upd _ (by omega) (by omega)) HY.out ((hO1.set (by omega) _).same rfl) (fun _ => ⟨d, o, rfl, hrow3⟩) (fun _ c' o' h => by cases h; exact hdb))
    have ADD := Lib.hid (fun (c' : Int) (w4 : World) (h : AddRel b off N (upd x1 (off + (j + 2)) 4294967295) y (w2.setCell ⟨b, off + (j + 2), none⟩ (.int .u32 4294967295)).drew (j + 2) c' w4) =>
      show c' = 1 ∧ w4.cell? ⟨b, off + (j + 2), none⟩ = some (.int .u32 4294967295) ∧ w4.frozen? ⟨b, off + (j + 2), none⟩ = false ∧
        Hid (QuoRel b off j N x (V (sh x off) (j + 3) % V y (j + 2)) w (w4.setCell ⟨b, off + (j + 2), none⟩ (.int .u32 0))) by
      obtain ⟨x3, hO3, hd3, hs3, hv3, e0, e1, hC3⟩ := h
      have hsx3 : Dg (sh x3 off) := fun i => hd3 (off + i)
      rw [sh_upd, V_congr (y := sh x1 off) (fun i hi => upd_other (by omega))] at hv3
      have hm0 := Int.emod_lt_of_pos (V (sh x off) (j + 3)) HV.out.1
      have hm1 := Int.emod_nonneg (V (sh x off) (j + 3)) (show V y (j + 2) ≠ 0 by have := HV.out.1; omega)
      obtain ⟨z1, z2⟩ := sum_over HV.out.2.1 (by omega) (by omega) hv3 e0 e1 (V_lt hsx3 (j + 2))
      have ht3 : x3 (off + (j + 2)) = 4294967295 := by rw [hs3 _ (by omega), upd_same]
      refine ⟨z1, by rw [← ht3]; exact hO3.cell (by omega), hO3.free _, quoRel_zero hO3 hd3 (fun i hi => ?_) (by rw [z2]; exact f3) ?_ hN⟩
      · rw [hs3 i (by omega), upd_other (by omega)]; exact hs1 i (by omega)
      · exact HC2.out.trans ⟨hC3.os, hC3.tape, hC3.output, hC3.size, hC3.block⟩)
    have F2 := Lib.hid f2
    have i0 : (0 : Int) ≤ (j : Int) + 2 := by omega
    have i1 : (j : Int) + 2 < (j : Int) + 3 := by omega
    have i2 : ((j : Int) + 2).toNat = j + 2 := by omega
    clear hO1 hd1 hs1 hm hC1 ht1 hsx1 hCw v1n v1l f2 f3 HX HY HR HO HV HL hdb hrow3 HC2 f1
    generalize x (off + (j + 2)) = t at *
    go_wp2_with fail
    go_region_with (go_at_call 78; ((with_reducible refine (A1.out).mono ?_); rintro e w4 ⟨c', rfl, hA⟩; obtain ⟨rfl, q1, q2, F⟩ := ADD.out c' w4 hA; clear hA))
    all_goals
      go_wp2_with fail
      go_ret
      exact ⟨ret_int F2.out, F.out⟩
end Go.Proofs.YtkhchaoehlefdaaDoor
