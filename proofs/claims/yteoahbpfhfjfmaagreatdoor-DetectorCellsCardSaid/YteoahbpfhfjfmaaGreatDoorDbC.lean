/- Layer 3: contract: checkSlabs. -/
import Derived.Test.YteoahbpfhfjfmaaGreatDoorDbA
set_option linter.unusedVariables false
set_option linter.unusedSimpArgs false
namespace Go.Proofs.YteoahbpfhfjfmaaGreatDoor
open Go.RowKit

set_option maxRecDepth 20000 in
set_option maxHeartbeats 1600000 in
theorem checkSlabs_any (v : Value) (n : Nat) (p : Nat → Nat → Int) (w : World) (hv : Sl 4 w v n p) (hn : n ≤ 1000000) :
    Calls Tryz.prog 41 #[v] w fun e w' => e = .returned (.tuple #[.int .i64 (ff (slF p) 0 n).1, .int .i64 (ff (slF p) 0 n).2]) ∧ Below w.heap.size w w' := by
  obtain ⟨a, cap, rfl, hc, hp, hr⟩ := hv
  have HR := Lib.hid hr
  have HP := Lib.hid hp
  clear hr hp
  go_enter Tryz.func41, Tryz.ntmps41
  go_wp2_with fail
  go_loopw [2, 3, 4, 5, 7, 10] (fun u2 u3 u4 u5 u7 i wr => ∃ k : Nat, k ≤ n ∧ i = .int .i64 k ∧ u2 = .int .i64 0 ∧ u3 = .int .i64 0 ∧ Hid (ff (slF p) 0 n = ff (slF p) k (n - k)) ∧ Hid (Below w.heap.size w wr)) (fun _ _ _ _ _ i _ => n - (intOf i).toNat)
  case atStart => exact ⟨0, by omega, rfl, rfl, rfl, Lib.hid rfl, Lib.hid (Below.refl _ _)⟩
  case round =>
    obtain ⟨k, hk, rfl, rfl, rfl, HF, HB⟩ := hrel
    by_cases hlt : k < n
    · obtain ⟨b, off, rfl, hcell⟩ := HR.out (by omega)
      have hcw : ∀ i j, i < n → j < 4 → wr.cell? ⟨b, off + i * 4 + j, none⟩ = some (.int .i64 (p i j)) := fun i j hi hj => by
        have := hcell i j hi hj
        rw [(bcell HB.out).1 b _ (cell_lt this)]; exact this
      have HC := Lib.hid hcw
      have c0 := hcw k 0 hlt (by omega)
      have c1 := hcw k 1 hlt (by omega)
      have c2 := hcw k 2 hlt (by omega)
      have c3 := hcw k 3 hlt (by omega)
      simp only [Nat.add_zero] at c0
      clear hcw hcell HR
      cases hpl : slabB (p k 0) (p k 1) (p k 2) (p k 3)
      · go_wp2_with (go_at_call 78; refine (isSlab_any _ _ _ _ _).mono ?_; rintro e w' ⟨rfl, rfl⟩)
        go_ret2
        have e : slF p k = 4 := by unfold slF; rw [if_pos hpl]
        exact ⟨ret_ff (by rw [HF.out, ff_stop (by rw [e]; decide) hlt, e]), Below.up HB.out (by repeat (first | exact Below.refl _ _ | exact Nat.le_refl _ | (apply Below.alloc) | (apply Below.drewN) | (simp <;> omega)))⟩
      · have hkc : k ≤ cap := by omega
        go_wp2_with (go_at_call 78; refine (isSlab_any _ _ _ _ _).mono ?_; rintro e w' ⟨rfl, rfl⟩)
        obtain ⟨wo, rfl⟩ : ∃ wo : World, wo = wr := ⟨_, rfl⟩
        go_loopw [2, 3, 7, 23] (fun u2 u3 u7 i wr => ∃ j : Nat, j ≤ k ∧ i = .int .i64 j ∧ u2 = .int .i64 0 ∧ u3 = .int .i64 0 ∧ Hid (∀ i, i < j → ¬ (p i 0 = p k 0 ∧ commB (p i 1) (p i 2) (p k 1) (p k 2) = true)) ∧ Hid (Below (wo.heap.size + 2) ((wo.alloc (.cells #[.int .i64 (p k 0), .int .i64 (p k 1), .int .i64 (p k 2), .int .i64 (p k 3)] 77)).alloc (.cells #[.int .i64 (p k 0), .int .i64 (p k 1), .int .i64 (p k 2), .int .i64 (p k 3)] 77)) wr)) (fun _ _ _ i _ => k - (intOf i).toNat)
        case atStart => exact ⟨0, by omega, rfl, rfl, rfl, Lib.hid (fun i hi => absurd hi (by omega)), Lib.hid (Below.refl _ _)⟩
        case round =>
          obtain ⟨j, hj, rfl, rfl, rfl, HN, HB2⟩ := hrel
          have hbo := cell_lt c0
          have hsz : wo.heap.size + 2 ≤ wr.heap.size := by have := HB2.out.size; simp at this; omega
          have hw0 : wo.heap.size < wr.heap.size := by omega
          have e0 : wr.cell? ⟨wo.heap.size, 0, none⟩ = some (.int .i64 (p k 0)) := by rw [HB2.out.cell (p := ⟨wo.heap.size, 0, none⟩) (by show wo.heap.size < wo.heap.size + 2; omega)]; simp [go_sem]
          have e1 : wr.cell? ⟨wo.heap.size, 1, none⟩ = some (.int .i64 (p k 1)) := by rw [HB2.out.cell (p := ⟨wo.heap.size, 1, none⟩) (by show wo.heap.size < wo.heap.size + 2; omega)]; simp [go_sem]
          have e2 : wr.cell? ⟨wo.heap.size, 2, none⟩ = some (.int .i64 (p k 2)) := by rw [HB2.out.cell (p := ⟨wo.heap.size, 2, none⟩) (by show wo.heap.size < wo.heap.size + 2; omega)]; simp [go_sem]
          have BO : Below wo.heap.size wo ((wo.alloc (.cells #[.int .i64 (p k 0), .int .i64 (p k 1), .int .i64 (p k 2), .int .i64 (p k 3)] 77)).alloc (.cells #[.int .i64 (p k 0), .int .i64 (p k 1), .int .i64 (p k 2), .int .i64 (p k 3)] 77)) := by repeat (first | exact Below.refl _ _ | exact Nat.le_refl _ | (apply Below.alloc) | (apply Below.drewN) | (simp <;> omega))
          have BW : Hid (Below w.heap.size w wr) := Lib.hid (Below.up HB.out (BO.trans (HB2.out.mono (by omega))))
          clear c0 c1 c2 c3
          by_cases hjk : j < k
          · have d0 : wr.cell? ⟨b, off + j * 4, none⟩ = some (.int .i64 (p j 0)) := old_cell BO HB2.out (by omega) (HC.out j 0 (by omega) (by omega))
            have d1 : wr.cell? ⟨b, off + j * 4 + 1, none⟩ = some (.int .i64 (p j 1)) := old_cell BO HB2.out (by omega) (HC.out j 1 (by omega) (by omega))
            have d2 : wr.cell? ⟨b, off + j * 4 + 2, none⟩ = some (.int .i64 (p j 2)) := old_cell BO HB2.out (by omega) (HC.out j 2 (by omega) (by omega))
            have d3 : wr.cell? ⟨b, off + j * 4 + 3, none⟩ = some (.int .i64 (p j 3)) := old_cell BO HB2.out (by omega) (HC.out j 3 (by omega) (by omega))
            have hbr : b < wr.heap.size := by omega
            have BN := Lib.hid (HB2.out.alloc (by omega : wo.heap.size + 2 ≤ wr.heap.size) (.cells #[.int .i64 (p j 0), .int .i64 (p j 1), .int .i64 (p j 2), .int .i64 (p j 3)] 77))
            have BM := Lib.hid (BW.out.alloc (by have := BW.out.size; omega) (.cells #[.int .i64 (p j 0), .int .i64 (p j 1), .int .i64 (p j 2), .int .i64 (p j 3)] 77))
            clear BO BW HC
            by_cases g0 : p j 0 = p k 0
            · cases g1 : commB (p j 1) (p j 2) (p k 1) (p k 2)
              · have G0 := Lib.hid g0
                rw [g0] at d0 BN BM
                clear g0
                go_wp2_with (go_at_call 79; refine (haveCommon_any _ _ _ _ _).mono ?_; rintro e w' ⟨rfl, rfl⟩)
                go_roundw
                case rel => exact ⟨j + 1, by omega, by go_num, rfl, rfl, Lib.hid (fun i hi => by
                  by_cases hij : i = j
                  · rw [hij, g1]; exact fun h => by simp at h
                  · exact HN.out i (by omega)), BN⟩
                case measure => simp [intOf]; omega
              · have G0 := Lib.hid g0
                rw [g0] at d0 BN BM
                clear g0
                go_wp2_with (go_at_call 79; refine (haveCommon_any _ _ _ _ _).mono ?_; rintro e w' ⟨rfl, rfl⟩)
                go_ret2
                have e : slF p k = 8 := by unfold slF; rw [if_neg (by simp [hpl]), if_pos ⟨j, hjk, G0.out, g1⟩]
                exact ⟨ret_ff (by rw [HF.out, ff_stop (by rw [e]; decide) hlt, e]), BM.out⟩
            · have g0' : (p j 0 == p k 0) = false := by simpa using g0
              go_wp2_with fail
              go_roundw
              case rel => exact ⟨j + 1, by omega, by go_num, rfl, rfl, Lib.hid (fun i hi => by
                by_cases hij : i = j
                · rw [hij]; exact fun h => g0 h.1
                · exact HN.out i (by omega)), BN⟩
              case measure => simp [intOf]; omega
          · obtain rfl : j = k := by omega
            have e : slF p j = 0 := by unfold slF; rw [if_neg (by simp [hpl]), if_neg (fun ⟨i, h1, h2⟩ => HN.out i h1 h2)]
            clear BO
            go_wp2_with fail
            go_roundw
            case rel => exact ⟨j + 1, by omega, by go_num, rfl, rfl, Lib.hid (by rw [HF.out, ff_go e hlt]), BW⟩
            case measure => simp [intOf]; omega
    · obtain rfl : k = n := by omega
      go_wp2_with fail
      go_ret2
      exact ⟨ret_ff (by rw [HF.out, ff_end]), HB.out⟩
end Go.Proofs.YteoahbpfhfjfmaaGreatDoor
