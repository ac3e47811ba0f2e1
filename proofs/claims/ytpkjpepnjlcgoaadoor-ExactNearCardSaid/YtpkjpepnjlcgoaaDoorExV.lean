/- Plus, of one denominator. -/
import Derived.Test.YtpkjpepnjlcgoaaDoorExU
set_option linter.unusedVariables false
set_option linter.unusedSimpArgs false
namespace Go.Proofs.YtpkjpepnjlcgoaaDoor
open Go.RowKit

set_option maxHeartbeats 3200000 in
theorem Plus_same (u v : Value) (n m n' m' : Nat) (p q p' q' : Int) (w : World) (hT : Tab w) (hu : AR w u n m p q) (hv : AR w v n' m' p' q') (hn : n ≤ 2) (hm : m ≤ 2) (hn' : n' ≤ 2) (hm' : m' ≤ 2) (hqq : tQ q = tQ q') (hlt : - P 2 < tP p q + tP p' q' ∧ tP p q + tP p' q' < P 2) :
    Calls Tryd.prog 47 #[u, v, .func (.func 49) #[] #[]] w (Lo w ((tP p q + tP p' q') / Int.gcd (tP p q + tP p' q') (tQ q)) (tQ q / Int.gcd (tP p q + tP p' q') (tQ q)) 2 2) := by
  obtain ⟨g, a, c, g', a', c', rfl⟩ := hu.form
  obtain ⟨h, b, d, h', b', d', rfl⟩ := hv.form
  have HU := Lib.hid hu
  have HV := Lib.hid hv
  have HT := Lib.hid hT
  have HL := Lib.hid hlt
  clear hu hv hT hlt
  go_enter Tryd.func47, Tryd.ntmps47
  go_wp2_with fail
  refine (terms_any _ n m p q _ (HU.out.below (by repeat (first | exact Below.refl _ _ | exact Nat.le_refl _ | (apply Below.alloc) | (simp <;> omega)))) (by omega) (by omega)).mono ?_
  rintro e w1 ⟨r, s, k, j, rfl, hr, hs, hk, hj, hB⟩
  obtain ⟨g1, a1, c1, rfl⟩ := hr.form
  obtain ⟨g2, a2, c2, rfl⟩ := hs.form
  obtain ⟨hcc, hff⟩ := bcell hB
  have hz := hB.size
  simp at hz
  have hd0 : w.heap.size < w1.heap.size := by omega
  have hd1 : w.heap.size + 1 < w1.heap.size := by omega
  have hd2 : w.heap.size + 1 + 1 < w1.heap.size := by omega
  have HR := Lib.hid hr
  have HS := Lib.hid hs
  have B0 := Lib.hid hB
  have B1 := Lib.hid (Below.up (u := w) (by repeat (first | exact Below.refl _ _ | exact Nat.le_refl _ | (apply Below.alloc) | (simp <;> omega))) hB)
  clear hr hs hB hz
  go_wp2_with fail
  refine (terms_any _ n' m' p' q' _ (HV.out.below (Below.up B1.out (by repeat (first | exact Below.refl _ _ | exact Nat.le_refl _ | (apply Below.alloc) | (simp <;> omega))))) (by omega) (by omega)).mono ?_
  rintro e w2 ⟨r, s, k2, j2, rfl, hr, hs, hk2, hj2, hB⟩
  obtain ⟨g3, a3, c3, rfl⟩ := hr.form
  obtain ⟨g4, a4, c4, rfl⟩ := hs.form
  obtain ⟨hcc2, hff2⟩ := bcell hB
  have hz := hB.size
  simp at hz
  have he0 : w1.heap.size < w2.heap.size := by omega
  have he1 : w1.heap.size + 1 < w2.heap.size := by omega
  have HR2 := Lib.hid hr
  have HS2 := Lib.hid hs
  have B2 := Lib.hid hB
  clear hr hs hB hz hcc hff
  go_wp2_with fail
  refine (Cmp_any _ _ j j2 (tQ q) (tQ q') _ (HS.out.below (Below.up (by repeat (first | exact Below.refl _ _ | exact Nat.le_refl _ | (apply Below.alloc) | (simp <;> omega))) (Below.up B2.out (by repeat (first | exact Below.refl _ _ | exact Nat.le_refl _ | (apply Below.alloc) | (simp <;> omega)))))) (HS2.out.below (by repeat (first | exact Below.refl _ _ | exact Nat.le_refl _ | (apply Below.alloc) | (simp <;> omega)))) (by omega) (by omega)).mono ?_
  rintro e w3 ⟨rfl, hB⟩
  rw [ord_eq hqq]
  have B3 := Lib.hid hB
  obtain ⟨hcA, hfA⟩ := bcell (Below.up B0.out (Below.up (by repeat (first | exact Below.refl _ _ | exact Nat.le_refl _ | (apply Below.alloc) | (simp <;> omega))) (Below.up B2.out (Below.up (by repeat (first | exact Below.refl _ _ | exact Nat.le_refl _ | (apply Below.alloc) | (simp <;> omega))) hB))))
  obtain ⟨hcB, hfB⟩ := bcell (Below.up B2.out (Below.up (by repeat (first | exact Below.refl _ _ | exact Nat.le_refl _ | (apply Below.alloc) | (simp <;> omega))) hB))
  obtain ⟨hcC, hfC⟩ := bcell hB
  have hz := hB.size
  simp at hz
  have hf0 : w1.heap.size < w3.heap.size := by omega
  have hf1 : w1.heap.size + 1 < w3.heap.size := by omega
  have hf2 : w2.heap.size < w3.heap.size := by omega
  have hf3 : w.heap.size + 1 + 1 < w3.heap.size := by omega
  have ca : w3.cell? ⟨w1.heap.size, 0, none⟩ = some (.bool g1) := by rw [hcB _ _ (by simp <;> omega)]; simp [go_sem]
  have cb : w3.cell? ⟨w1.heap.size, 1, none⟩ = some (.slice a1 k c1) := by rw [hcB _ _ (by simp <;> omega)]; simp [go_sem]
  have cc : w3.cell? ⟨w1.heap.size + 1, 0, none⟩ = some (.bool g2) := by rw [hcB _ _ (by simp <;> omega)]; simp [go_sem]
  have cd : w3.cell? ⟨w1.heap.size + 1, 1, none⟩ = some (.slice a2 j c2) := by rw [hcB _ _ (by simp <;> omega)]; simp [go_sem]
  have ce : w3.cell? ⟨w2.heap.size, 0, none⟩ = some (.bool g3) := by rw [hcC _ _ (by simp <;> omega)]; simp [go_sem]
  have cf : w3.cell? ⟨w2.heap.size, 1, none⟩ = some (.slice a3 k2 c3) := by rw [hcC _ _ (by simp <;> omega)]; simp [go_sem]
  have cg : w3.cell? ⟨w.heap.size + 1 + 1, 0, none⟩ = some (.bool false) := by rw [hcA _ _ (by simp <;> omega)]; simp [go_sem]
  have fg : w3.frozen? ⟨w.heap.size + 1 + 1, 0, none⟩ = false := by rw [hfA _ _ (by simp <;> omega)]; simp [go_sem]
  have ch : w3.cell? ⟨w.heap.size + 1 + 1, 1, none⟩ = some (.slice none 0 0) := by rw [hcA _ _ (by simp <;> omega)]; simp [go_sem]
  have fh : w3.frozen? ⟨w.heap.size + 1 + 1, 1, none⟩ = false := by rw [hfA _ _ (by simp <;> omega)]; simp [go_sem]
  have ci : w3.cell? ⟨w.heap.size + 1 + 1, 2, none⟩ = some (.bool false) := by rw [hcA _ _ (by simp <;> omega)]; simp [go_sem]
  have fi : w3.frozen? ⟨w.heap.size + 1 + 1, 2, none⟩ = false := by rw [hfA _ _ (by simp <;> omega)]; simp [go_sem]
  have cj : w3.cell? ⟨w.heap.size + 1 + 1, 3, none⟩ = some (.slice none 0 0) := by rw [hcA _ _ (by simp <;> omega)]; simp [go_sem]
  have fj : w3.frozen? ⟨w.heap.size + 1 + 1, 3, none⟩ = false := by rw [hfA _ _ (by simp <;> omega)]; simp [go_sem]
  have R1 := Lib.hid (HR.out.below (Below.up (by repeat (first | exact Below.refl _ _ | exact Nat.le_refl _ | (apply Below.alloc) | (simp <;> omega))) (Below.up B2.out (Below.up (by repeat (first | exact Below.refl _ _ | exact Nat.le_refl _ | (apply Below.alloc) | (simp <;> omega))) hB))))
  have R2 := Lib.hid (HR2.out.below (Below.up (by repeat (first | exact Below.refl _ _ | exact Nat.le_refl _ | (apply Below.alloc) | (simp <;> omega))) hB))
  have R3 := Lib.hid (HS.out.below (Below.up (by repeat (first | exact Below.refl _ _ | exact Nat.le_refl _ | (apply Below.alloc) | (simp <;> omega))) (Below.up B2.out (Below.up (by repeat (first | exact Below.refl _ _ | exact Nat.le_refl _ | (apply Below.alloc) | (simp <;> omega))) hB))))
  have BT := Lib.hid (Below.up B1.out (Below.up (by repeat (first | exact Below.refl _ _ | exact Nat.le_refl _ | (apply Below.alloc) | (simp <;> omega))) (Below.up B2.out (Below.up (by repeat (first | exact Below.refl _ _ | exact Nat.le_refl _ | (apply Below.alloc) | (simp <;> omega))) hB))))
  have hz0 : w.heap.size ≤ w3.heap.size := by omega
  clear hcA hfA hcB hfB hcC hfC hB hz hcc2 hff2
  have H1 := Lib.hid (R1.out.below (Below.drew (Below.refl w3.heap.size w3)))
  have H2 := Lib.hid (R2.out.below (Below.drew (Below.refl w3.heap.size w3)))
  have A1 := Lib.hid (fun W (h1 : AI W (.agg #[.bool g1, .slice a1 k c1]) k (tP p q)) (h2 : AI W (.agg #[.bool g3, .slice a3 k2 c3]) k2 (tP p' q')) => Add_any _ _ k k2 _ _ W h1 h2 (by omega) (by omega))
  have A2 := Lib.hid (fun W v5 k5 (h1 : AI W v5 k5 (tP p q + tP p' q')) (h2 : AI W (.agg #[.bool g2, .slice a2 j c2]) j (tQ q)) (hT : Tab W) (h5 : k5 ≤ 2) => lowest_any common_short divide_short _ _ k5 j _ _ W hT h1 h2 h5 (by omega) (by omega) (tQ_pos q))
  go_wp2_with fail
  go_region_with (first
    | (go_at_call 49; ((with_reducible refine (A1.out _ H1.out H2.out).mono ?_); rintro e w4 ⟨r5, k5, rfl, hR5, hk5, hB1⟩; obtain ⟨ng5, a5, cap5, rfl⟩ := hR5.form; obtain ⟨hc1, hg1⟩ := bcell hB1; have Cc := (hc1 _ _ hf1).trans cc; have Cd := (hc1 _ _ hf1).trans cd; have Cg := (hc1 _ _ hf3).trans cg; have Ch := (hc1 _ _ hf3).trans ch; have Ci := (hc1 _ _ hf3).trans ci; have Cj := (hc1 _ _ hf3).trans cj; have Fg := (hg1 _ _ hf3).trans fg; have Fh := (hg1 _ _ hf3).trans fh; have Fi := (hg1 _ _ hf3).trans fi; have Fj := (hg1 _ _ hf3).trans fj; have hf4 := Nat.lt_of_lt_of_le hf3 hB1.size; have HR5 := Lib.hid hR5.ai; have hk6 : k5 ≤ 2 := hR5.len HL.out.1 HL.out.2; have HS5 := Lib.hid (R3.out.below (Below.up (Below.drew (Below.refl w3.heap.size w3)) hB1)); have HB5 := Lib.hid (Below.up BT.out (Below.up (Below.drew (Below.refl w3.heap.size w3)) hB1)); have HT5 := Lib.hid (HT.out.up HB5.out); have HB1 := Lib.hid hB1; clear hc1 hg1 hB1 hR5))
    | (go_at_call 42; ((with_reducible refine (A2.out _ _ _ HR5.out HS5.out HT5.out hk6).mono ?_); rintro e w5 ⟨r6, k6, j6, rfl, hR6, hk6, hj6, hB6⟩; obtain ⟨g7, a7, c7, g8, a8, c8, rfl⟩ := hR6.form; obtain ⟨hc2, hg2⟩ := bcell hB6; have Dg := (hc2 _ _ hf4).trans Cg; have Dh := (hc2 _ _ hf4).trans Ch; have Di := (hc2 _ _ hf4).trans Ci; have Dj := (hc2 _ _ hf4).trans Cj; have Gg := (hg2 _ _ hf4).trans Fg; have Gh := (hg2 _ _ hf4).trans Fh; have Gi := (hg2 _ _ hf4).trans Fi; have Gj := (hg2 _ _ hf4).trans Fj; have HR6 := Lib.hid hR6; have HB6 := Lib.hid hB6; clear hc2 hg2 hB6 hR6)))
  all_goals
    go_wp2_with fail
    have hb0 := HB5.out.size
    obtain ⟨f1, f2⟩ := fin_RR (w := w) (t := w.heap.size + 1 + 1) HR6.out hf4 (by omega) hb0 (Below.up HB5.out HB6.out) (.bool g7) (.slice a7 k6 c7) (.bool g8) (.slice a8 j6 c8)
    exact bodyPost_ret (v := .agg #[.bool g7, .slice a7 k6 c7, .bool g8, .slice a8 j6 c8]) (by simp [results, Tryd.results47, go_sem, Dg, Dh, Di, Dj]) rfl ⟨_, k6, j6, rfl, f1, by omega, by omega, f2⟩

set_option maxHeartbeats 1600000 in
theorem Plus_short (u v : Value) (n m n' m' : Nat) (p q p' q' : Int) (w : World) (hT : Tab w) (hu : AR w u n m p q) (hv : AR w v n' m' p' q') (hn : n ≤ 2) (hm : m ≤ 2) (hn' : n' ≤ 2) (hm' : m' ≤ 2) (hqq : tQ q = tQ q') (hlt : - P 2 < tP p q + tP p' q' ∧ tP p q + tP p' q' < P 2) :
    Calls Tryd.prog 22 #[u, v] w (Lo w ((tP p q + tP p' q') / Int.gcd (tP p q + tP p' q') (tQ q)) (tQ q / Int.gcd (tP p q + tP p' q') (tQ q)) 2 2) := by
  obtain ⟨g, a, c, g', a', c', rfl⟩ := hu.form
  obtain ⟨h, b, d, h', b', d', rfl⟩ := hv.form
  have HU := Lib.hid hu
  have HV := Lib.hid hv
  have HT := Lib.hid hT
  have HL := Lib.hid hlt
  clear hu hv hT hlt
  go_enter Tryd.func22, Tryd.ntmps22
  go_wp2_with fail
  refine (Plus_same _ _ n m n' m' p q p' q' _ (HT.out.up (by repeat (first | exact Below.refl _ _ | exact Nat.le_refl _ | (apply Below.alloc) | (simp <;> omega)))) (HU.out.below (by repeat (first | exact Below.refl _ _ | exact Nat.le_refl _ | (apply Below.alloc) | (simp <;> omega)))) (HV.out.below (by repeat (first | exact Below.refl _ _ | exact Nat.le_refl _ | (apply Below.alloc) | (simp <;> omega)))) hn hm hn' hm' hqq HL.out).mono ?_
  rintro e w3 ⟨r2, k2, j2, rfl, hR, hk2, hj2, hB2⟩
  obtain ⟨g3, a3, c3, g4, a4, c4, rfl⟩ := hR.form
  have BT := Lib.hid hB2
  obtain ⟨hcc2, hff2⟩ := bcell BT.out
  have hz := hB2.size
  simp at hz
  have hd1 : w.heap.size + 1 + 1 < w3.heap.size := by omega
  have HR2 := Lib.hid hR
  clear hR hB2
  go_wp2_with fail
  obtain ⟨f1, f2⟩ := fin_RR (w := w) (t := w.heap.size + 1 + 1) HR2.out (by simp) (by omega) (by simp <;> omega) (Below.up (u := w) (by repeat (first | exact Below.refl _ _ | exact Nat.le_refl _ | (apply Below.alloc) | (simp <;> omega))) BT.out) (.bool g3) (.slice a3 k2 c3) (.bool g4) (.slice a4 j2 c4)
  exact bodyPost_ret (v := .agg #[.bool g3, .slice a3 k2 c3, .bool g4, .slice a4 j2 c4]) (by simp [results, Tryd.results22, go_sem, hcc2]) rfl ⟨_, k2, j2, rfl, f1, by omega, by omega, f2⟩
end Go.Proofs.YtpkjpepnjlcgoaaDoor
