/- Layer 5: zero suppression, the program's. -/
import Derived.Test.YtanillahofohgaaRaE
set_option linter.unusedVariables false
set_option linter.unusedSimpArgs false
namespace Go.Proofs.Ytanillahofohgaa
open Go.RowKit

theorem dead_set (n : Nat) (f : Nat → Bool) (x : Int) (i : Nat) (h : x = (i : Int)) (j : Nat) : (if j = i then Value.bool true else .bool (f j)) = .bool (f j || x == (j : Int)) := by
  subst h
  by_cases e : j = i
  · subst e; simp
  · rw [if_neg e]
    have : ((i : Int) == (j : Int)) = false := by simpa using (fun h => e (by omega))
    rw [this, Bool.or_false]

theorem new_two (W : World) (a b : Value) (t : TypeId) : (W.alloc (.cells #[a, b] t)).cell? ⟨W.heap.size, 0, none⟩ = some a ∧ (W.alloc (.cells #[a, b] t)).cell? ⟨W.heap.size, 1, none⟩ = some b := by
  have h := _root_.Go.heap_alloc_new W (.cells #[a, b] t)
  constructor <;> (unfold World.cell?; rw [h]; rfl)
theorem made_rf (w : World) (z : Value) (n : Nat) (t : TypeId) (C : Array Value) (h : madeCells #[z] n = C) : RF (w.alloc (.cells C t)) w.heap.size t n (fun _ => z) := by
  subst h
  exact RF_new w _ t n _ (by simp [madeCells]) (fun j hj => by simp [madeCells, hj, Nat.mod_one])

set_option maxRecDepth 100000 in
set_option maxHeartbeats 1600000 in
theorem Suppress_any (va vd : Value) (l d : List Int) (p q : Int) (w : World) (ha : InS w va l) (hd : InS w vd d) (hl : l.length ≤ 1099511627776) (hdl : d.length ≤ 1099511627776) (hp : I64 p) (hq : I64 q) :
    Calls Try.prog 12 #[va, .int .i64 p, .int .i64 q, vd] w (SupPost w.heap.size w l p q d) := by
  have HA := Lib.hid ha
  have HD := Lib.hid hd
  have AM := Lib.hid (areMeasured_any va l w ha hl)
  obtain ⟨a, ca, rfl, hca⟩ := ha.form
  obtain ⟨b, cb, rfl, hcb⟩ := hd.form
  have IW := Lib.hid isWithin_any
  have hpq : InS (w.alloc (.cells #[.int .i64 p, .int .i64 q] 3)) (.slice (some ⟨w.heap.size, 0, none⟩) 2 2) [p, q] := InS.fresh w [p, q] _ _ 2 rfl rfl (by simp [hp, hq])
  have A2 := Lib.hid (areMeasured_any _ [p, q] _ hpq (by simp))
  have h23 : allM [p, q] = (inB p 0 4095 && inB q 0 4095) := by simp [allM]
  rw [h23] at A2
  have b0 : Below w.heap.size w (w.alloc (.cells #[.int .i64 p, .int .i64 q] 3)) := (Below.refl _ _).alloc (Nat.le_refl _) _
  have BW := Lib.hid b0
  clear ha hd hpq h23 b0
  by_cases h4 : 4096 < l.length
  · have hE : Hid (supErr l p q = 3) := Lib.hid (by unfold supErr; rw [if_pos h4])
    go_enter Try.func12, Try.ntmps12
    go_wp2_with fail
    go_ret2
    exact supNo hE.out (by decide) (Below.refl _ _)
  cases h1 : allM l with
  | false =>
    have hE : Hid (supErr l p q = 2) := Lib.hid (by unfold supErr supOk; rw [if_neg h4, h1]; rfl)
    rw [h1] at AM
    go_enter Try.func12, Try.ntmps12
    go_wp2_with (go_at_call 40; refine AM.out.mono ?_; rintro e w' ⟨rfl, rfl⟩)
    go_ret2
    exact supNo hE.out (by decide) (Below.refl _ _)
  | true =>
    rw [h1] at AM
    cases h2 : (inB p 0 4095 && inB q 0 4095) with
    | false =>
      have hE : Hid (supErr l p q = 2) := Lib.hid (by unfold supErr supOk; rw [if_neg h4, h1, h2]; rfl)
      rw [h2] at A2
      go_enter Try.func12, Try.ntmps12
      go_wp2_with (go_at_call 40; first | ((with_reducible refine AM.out.mono ?_); rintro e w' ⟨rfl, rfl⟩) | ((with_reducible refine A2.out.mono ?_); rintro e w' ⟨rfl, rfl⟩))
      go_ret2
      exact supNo hE.out (by decide) BW.out
    | true =>
      have hE : Hid (supErr l p q = 0) := Lib.hid (by unfold supErr supOk; rw [if_neg h4, h1, h2]; rfl)
      rw [h2] at A2
      rw [Bool.and_eq_true] at h2
      have hp2 := inB_true.1 h2.1
      have hq2 := inB_true.1 h2.2
      have hm := Lib.hid (fun (k : Nat) (hk : k < l.length) => allM_get h1 hk)
      have HMK := run_make_row' (P := Try.prog) 83 4 (.bool false) 1 Try.underlying83 bool_info rfl .i64 .i64 l.length (by omega) (by omega)
      obtain ⟨C, hC⟩ : ∃ C, madeCells #[.bool false] l.length = C := ⟨_, rfl⟩
      rw [hC] at HMK
      clear h1 h2
      go_enter Try.func12, Try.ntmps12
      go_wp2_with (first | (go_at_call 40; first | ((with_reducible refine AM.out.mono ?_); rintro e w' ⟨rfl, rfl⟩) | ((with_reducible refine A2.out.mono ?_); rintro e w' ⟨rfl, rfl⟩)))
      have RD := Lib.hid (made_rf (w.alloc (.cells #[.int .i64 p, .int .i64 q] 3)) (.bool false) l.length 4 C hC)
      have b1 : Below w.heap.size w ((w.alloc (.cells #[.int .i64 p, .int .i64 q] 3)).alloc (.cells C 4)) := BW.out.alloc BW.out.size _
      have B1 := Lib.hid b1
      rw [World.size_alloc] at RD
      clear HMK AM A2 BW b1 hC
      have hsz : ((w.alloc (.cells #[.int .i64 p, .int .i64 q] 3)).alloc (.cells C 4)).heap.size = w.heap.size + 2 := by simp
      generalize ((w.alloc (.cells #[.int .i64 p, .int .i64 q] 3)).alloc (.cells C 4)) = w1 at *
      go_loopw [12, 34] (fun _ i wr => ∃ k : Nat, k ≤ d.length ∧ i = .int .i64 k ∧ Hid (RF wr (w.heap.size + 1) 4 l.length (fun i => .bool (dead (d.take k) i))) ∧ Hid (Below w.heap.size w wr) ∧ wr.heap.size = w.heap.size + 2) (fun _ i _ => d.length - (intOf i).toNat)
      case atStart => exact ⟨0, Nat.zero_le _, rfl, Lib.hid (by simpa [dead] using RD.out), B1, hsz⟩
      case round =>
        obtain ⟨k, hk, rfl, HR, BL, hwr⟩ := hrel
        by_cases hlt : k < d.length
        · obtain ⟨b1, o1, rfl, hb1, hi1, c1⟩ := (HD.out.below BL.out).at hlt
          have HT := Lib.hid (fun i => dead_take d k hlt i)
          generalize d[k] = z at *
          have hz : inB z 0 ((l.length : Int) - 1) = decide (0 ≤ z ∧ z ≤ (l.length : Int) - 1) := rfl
          by_cases hin : 0 ≤ z ∧ z ≤ (l.length : Int) - 1
          · rw [decide_eq_true hin] at hz
            obtain ⟨i, rfl⟩ : ∃ i : Nat, z = (i : Int) := ⟨z.toNat, by omega⟩
            have hi : i < l.length := by omega
            have c2 := HR.out.cell hi
            have f2 := HR.out.frozen hi
            have R2 : Hid (RF (wr.setCell ⟨w.heap.size + 1, i, none⟩ (.bool true)) (w.heap.size + 1) 4 l.length (fun j => .bool (dead (d.take (k + 1)) j))) := Lib.hid ((HR.out.set i (.bool true)).congr (fun j _ => by rw [HT.out j]; exact dead_set l.length _ _ i rfl j))
            generalize dead (d.take k) i = di at *
            have B2 : Hid (Below w.heap.size w (wr.setCell ⟨w.heap.size + 1, i, none⟩ (.bool true))) := Lib.hid (BL.out.setCell (p := ⟨w.heap.size + 1, i, none⟩) (by show w.heap.size ≤ w.heap.size + 1; omega) _)
            go_wp2_with (go_at_call 41; refine (IW.out _ _ _ _).mono ?_; rintro e w' ⟨rfl, rfl⟩; rw [hz])
            go_roundw
            case rel => exact ⟨k + 1, by omega, by go_num, R2, B2, by simpa using hwr⟩
            case measure => simp [intOf]; omega
          · rw [decide_eq_false hin] at hz
            have R2 : Hid (RF wr (w.heap.size + 1) 4 l.length (fun j => .bool (dead (d.take (k + 1)) j))) := Lib.hid (HR.out.congr (fun j hj => by
              have : (z == (j : Int)) = false := by simp; omega
              rw [HT.out j, this, Bool.or_false]))
            go_wp2_with (go_at_call 41; refine (IW.out _ _ _ _).mono ?_; rintro e w' ⟨rfl, rfl⟩; rw [hz])
            go_roundw
            case rel => exact ⟨k + 1, by omega, by go_num, R2, BL, hwr⟩
            case measure => simp [intOf]; omega
        · obtain rfl : k = d.length := by omega
          have HT : Hid (d.take d.length = d) := Lib.hid (List.take_of_length_le (Nat.le_refl _))
          rw [HT.out] at HR
          clear HT RD B1
          go_wp2_with fail
          clear hsz hk hlt
          go_loopw [13, 14, 15, 49] (fun o _ _ i ws => ∃ k : Nat, k ≤ l.length ∧ i = .int .i64 k ∧ Hid (Ho (w.heap.size + 2) ws o (supL l p q d k)) ∧ Hid (Below w.heap.size w ws) ∧ Hid (Below (w.heap.size + 2) wr ws)) (fun _ _ _ i _ => l.length - (intOf i).toNat)
          case atStart => exact ⟨0, Nat.zero_le _, rfl, Lib.hid (Ho.nil _ _), BL, Lib.hid (Below.refl _ _)⟩
          case round =>
            obtain ⟨k, hk, rfl, HO, BS, BW⟩ := hrel
            by_cases hlt : k < l.length
            · obtain ⟨b1, o1, rfl, hb1, hi1, c1⟩ := (HA.out.below BS.out).at hlt
              have hmk := hm.out k hlt
              have HS := Lib.hid (supL_succ l p q d k)
              have HE : Hid (supE l p q d k = if !dead d k && decide (q < l[k] - p) then [((k : Int), l[k] - p)] else []) := Lib.hid (by unfold supE; rw [getI_at l k hlt])
              have HLL := supL_len l p q d k
              generalize supL l p q d k = L at *
              generalize supE l p q d k = E at *
              generalize l[k] = x at *
              have c2 := (HR.out.below' (by omega) BW.out).cell hlt
              cases hs : (!dead d k && decide (q < x - p)) with
              | false =>
                have HF : Hid (E = []) := Lib.hid (by rw [HE.out, hs]; rfl)
                cases hd : dead d k with
                | true =>
                  rw [hd] at c2
                  clear hs HE
                  go_wp2_with fail
                  go_roundw
                  case rel => exact ⟨k + 1, by omega, by go_num, Lib.hid (by rw [HS.out, HF.out, List.append_nil]; exact HO.out), BS, BW⟩
                  case measure => simp [intOf]; omega
                | false =>
                  rw [hd] at c2 hs
                  have hx : ¬ (q < x - p) := by simpa using hs
                  clear hs HE
                  go_wp2_with fail
                  go_roundw
                  case rel => exact ⟨k + 1, by omega, by go_num, Lib.hid (by rw [HS.out, HF.out, List.append_nil]; exact HO.out), BS, BW⟩
                  case measure => simp [intOf]; omega
              | true =>
                have HF : Hid (E = [((k : Int), x - p)]) := Lib.hid (by rw [HE.out, hs]; rfl)
                have hhi : I64 (k : Int) ∧ I64 (x - p) := by unfold I64; omega
                rw [Bool.and_eq_true] at hs
                have hd : dead d k = false := by simpa using hs.1
                have hx : q < x - p := by simpa using hs.2
                rw [hd] at c2
                have z1 := BS.out.size
                have z2 := BW.out.size
                clear hs HE hd
                go_wp2_with (at_builtin; refine append_hit rfl _ _ rfl rfl (HO.out.below (Below.alloc (Below.refl _ _) (Nat.le_refl _) _)) wr.heap.size (k : Int) (x - p) hhi rfl (new_two _ _ _ _).1 (new_two _ _ _ _).2 (by omega) (by simp; omega) ?_)
                intro v' w' h5 h6
                have HO2 := Lib.hid h5
                have BS2 := Lib.hid ((BS.out.alloc BS.out.size _).trans (h6.mono (by omega)))
                have BW2 := Lib.hid ((BW.out.alloc (by omega) _).trans h6)
                clear h5 h6
                go_wp2
                go_roundw
                case rel => exact ⟨k + 1, by omega, by go_num, Lib.hid (by rw [HS.out, HF.out]; exact HO2.out), BS2, BW2⟩
                case measure => simp [intOf]; omega
            · obtain rfl : k = l.length := by omega
              go_wp2_with fail
              go_ret2
              exact supYes hE.out (HO.out.mono (by omega)) BS.out
end Go.Proofs.Ytanillahofohgaa
