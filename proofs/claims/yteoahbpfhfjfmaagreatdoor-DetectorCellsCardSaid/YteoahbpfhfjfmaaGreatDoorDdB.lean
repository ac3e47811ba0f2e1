/- Layer 3: contracts: a sum over the slabs of a face. -/
import Derived.Test.YteoahbpfhfjfmaaGreatDoorDdA
set_option linter.unusedVariables false
set_option linter.unusedSimpArgs false
namespace Go.Proofs.YteoahbpfhfjfmaaGreatDoor
open Go.RowKit

def clampD (d : Int) : Int := if d < 0 then 0 else if 65536 < d then 65536 else d
theorem clampD_bd (d : Int) : 0 ≤ clampD d ∧ clampD d ≤ 65536 := by unfold clampD; grind
/-- The sum of n numbers. -/
def tot (g : Nat → Int) : Nat → Int
  | 0 => 0
  | n + 1 => tot g n + g n
theorem tot_bd {g : Nat → Int} {M : Int} (hM : 0 ≤ M) : ∀ n : Nat, (∀ i, i < n → -M ≤ g i ∧ g i ≤ M) → -(n * M) ≤ tot g n ∧ tot g n ≤ n * M := by
  intro n
  induction n with
  | zero => intro _; simp [tot]
  | succ n ih =>
    intro h
    have h1 := ih (fun i hi => h i (by omega))
    have h2 := h n (by omega)
    have e : ((n + 1 : Nat) : Int) * M = n * M + M := by rw [Int.natCast_add, Int.add_mul]; simp
    rw [e]
    unfold tot
    omega
/-- A face's part. -/
def onF (f : Int) (gv : Int → Int → Int → Int → Int) (s : Nat → Nat → Int) (d : Int) (i : Nat) : Int := if s i 0 = f then gv (s i 1) (s i 2) (s i 3) d else 0

set_option maxRecDepth 20000 in
set_option maxHeartbeats 800000 in
theorem total_bend_in (v : Value) (n : Nat) (s : Nat → Nat → Int) (f d D : Int) (w : World) (hv : Sl 4 w v n s) (hn : n ≤ 1000) (hs : ∀ i, i < n → slabB (s i 0) (s i 1) (s i 2) (s i 3) = true) (hD : D = clampD d) :
    Calls Tryz.prog 59 #[v, .int .i64 f, .int .i64 d, .func (.func 88) #[] #[]] w fun e w' => e = .returned (.int .i64 (tot (onF f bgv s D) n)) ∧ Below w.heap.size w w' := by
  obtain ⟨a, cap, rfl, hc, hp, hr⟩ := hv
  have HR := Lib.hid hr
  have HSS := Lib.hid hs
  have hD0 := clampD_bd d
  rw [← hD] at hD0
  obtain ⟨D0, D1⟩ := hD0
  have TB : Hid (∀ k, k ≤ n → -(k * 4398046511104) ≤ tot (onF f bgv s D) k ∧ tot (onF f bgv s D) k ≤ k * 4398046511104) := Lib.hid fun k hk => tot_bd (by decide) k fun i hi => by
    unfold onF
    split
    · exact bgv_bd (hs i (by omega)) ⟨D0, D1⟩
    · decide
  obtain ⟨G, hG⟩ : ∃ G : Nat → Int, tot (onF f bgv s D) = G := ⟨_, rfl⟩
  have G0 : Hid (G 0 = 0) := Lib.hid (by rw [← hG]; rfl)
  have GS : Hid (∀ k, s k 0 = f → G (k + 1) = G k + bgv (s k 1) (s k 2) (s k 3) D) := Lib.hid fun k h => by rw [← hG, tot, onF, if_pos h]
  have GN : Hid (∀ k, s k 0 ≠ f → G (k + 1) = G k) := Lib.hid fun k h => by rw [← hG, tot, onF, if_neg h]; omega
  rw [hG] at TB ⊢
  clear hr hp hs hG
  have hcl : (d < 0 ∧ D = 0) ∨ (0 ≤ d ∧ 65536 < d ∧ D = 65536) ∨ (0 ≤ d ∧ d ≤ 65536 ∧ D = d) := by
    unfold clampD at hD; grind
  clear hD
  rcases hcl with ⟨c1, rfl⟩ | ⟨c0, c1, rfl⟩ | ⟨c0, c1, rfl⟩
  all_goals
    go_enter Tryz.func59, Tryz.ntmps59
    go_wp2_with fail
    go_loopw [9, 11, 17] (fun t u11 i wr => ∃ k : Nat, k ≤ n ∧ i = .int .i64 k ∧ t = .int .i64 (G k) ∧ Hid (Below w.heap.size w wr)) (fun _ _ i _ => n - (intOf i).toNat)
    case atStart => exact ⟨0, by omega, rfl, by rw [G0.out], Lib.hid (Below.refl _ _)⟩
    case round =>
      obtain ⟨k, hk, rfl, rfl, HB⟩ := hrel
      by_cases hlt : k < n
      · obtain ⟨b, off, rfl, hcell⟩ := HR.out (by omega)
        have hcw : ∀ j, j < 4 → wr.cell? ⟨b, off + k * 4 + j, none⟩ = some (.int .i64 (s k j)) := fun j hj => bc' HB.out (hcell k j hlt hj)
        have c0 := hcw 0 (by omega)
        have c1 := hcw 1 (by omega)
        have c2 := hcw 2 (by omega)
        have c3 := hcw 3 (by omega)
        simp only [Nat.add_zero] at c0
        have hsl := Lib.hid (HSS.out k hlt)
        have T1 := TB.out k hk
        have T2 := TB.out (k + 1) (by omega)
        have kM : (k : Int) * 4398046511104 ≤ 1000 * 4398046511104 := Int.mul_le_mul_of_nonneg_right (by omega) (by decide)
        have kM2 : ((k + 1 : Nat) : Int) * 4398046511104 ≤ 1001 * 4398046511104 := Int.mul_le_mul_of_nonneg_right (by omega) (by decide)
        obtain ⟨T1a, T1b⟩ := T1
        obtain ⟨T2a, T2b⟩ := T2
        have b1 : -9000000000000000000 ≤ G k ∧ G k ≤ 9000000000000000000 := by omega
        have b2 : -9000000000000000000 ≤ G (k + 1) ∧ G (k + 1) ≤ 9000000000000000000 := by omega
        clear T1a T1b T2a T2b kM kM2
        obtain ⟨b1a, b1b⟩ := b1
        clear hcw hcell HR HSS
        by_cases hf : s k 0 = f
        · have TS := Lib.hid (GS.out k hf)
          rw [TS.out] at b2
          obtain ⟨b2a, b2b⟩ := b2
          have FE : (s k 0 == f) = true := by simpa using hf
          clear hf
          go_wp2_with fail
          refine (bend1_any _ _ _ _ _ _ hsl.out ⟨D0, D1⟩).mono ?_
          rintro e w1 ⟨rfl, hB⟩
          have B1 : Hid (Below w.heap.size w w1) := Lib.hid (Below.up HB.out (Below.up (u := wr) (by repeat (first | exact Below.refl _ _ | exact Nat.le_refl _ | (apply Below.alloc) | (apply Below.drew) | (simp <;> omega))) hB))
          clear hB c0 c1 c2 c3
          generalize bgv (s k 1) (s k 2) (s k 3) _ = z at *
          go_wp2_with fail
          go_roundw
          case rel => exact ⟨k + 1, by omega, by go_num, by rw [TS.out], B1⟩
          case measure => simp [intOf]; omega
        · have TS := Lib.hid (GN.out k hf)
          have FE : (s k 0 == f) = false := by simpa using hf
          have B1 : Hid (Below w.heap.size w (wr.alloc (.cells #[.int .i64 (s k 0), .int .i64 (s k 1), .int .i64 (s k 2), .int .i64 (s k 3)] 77))) := Lib.hid (Below.up HB.out (by repeat (first | exact Below.refl _ _ | exact Nat.le_refl _ | (apply Below.alloc) | (apply Below.drew) | (simp <;> omega))))
          clear hf
          go_wp2_with fail
          go_roundw
          case rel => exact ⟨k + 1, by omega, by go_num, by rw [TS.out], B1⟩
          case measure => simp [intOf]; omega
      · obtain rfl : k = n := by omega
        go_wp2_with fail
        go_ret
        exact ⟨rfl, HB.out⟩
end Go.Proofs.YteoahbpfhfjfmaaGreatDoor
