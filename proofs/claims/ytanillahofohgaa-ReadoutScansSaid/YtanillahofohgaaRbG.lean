/- Layer 5: a head that is none. -/
import Derived.Test.YtanillahofohgaaRaR
set_option linter.unusedVariables false
set_option linter.unusedSimpArgs false
set_option maxRecDepth 100000
namespace Go.Proofs.Ytanillahofohgaa
open Go.RowKit

set_option maxRecDepth 100000 in
set_option maxHeartbeats 3200000 in
theorem unpackHead_no (m : List UInt8) (w : World) (hm : m.length ≤ 1099511627776) (hok : hdOk m = false) :
    Calls Try.prog 50 #[.string (str m)] w (HeadPost w m) := by
  have hsz := str_size m
  have hmk := lit_str [90, 195] ⟨#[90, 195]⟩ rfl
  obtain ⟨hf0, hn0, hb0, hz0⟩ := head_zero w
  have HP := Lib.hid (fun W => HasPrefix_any m [90, 195] W hm (by decide))
  rw [← hmk, show ([90, 195] : List UInt8).length = 2 from rfl] at HP
  clear hmk
  obtain ⟨W0, hW0⟩ : ∃ W0, W0 = ((w.alloc (.cells #[.int .i64 0, .int .i64 0, .int .i64 0, .int .i64 0, .slice none 0 0] 38)).alloc (.cells #[.int .i64 0] 3)) := ⟨_, rfl⟩
  rw [← hW0] at hf0 hn0 hb0 hz0
  have HF0 := Lib.hid hf0
  have HN0 := Lib.hid hn0
  have HB0 := Lib.hid hb0
  clear hf0 hn0 hb0
  by_cases h18 : 18 ≤ m.length
  · cases hp : decide (m.take 2 = [90, 195]) with
    | false =>
      have hh : Hid (headIs m = false) := Lib.hid (by unfold headIs; rw [hp]; simp)
      have i18 : (18 : Int) ≤ (m.length : Int) := by omega
      go_enter Try.func50, Try.ntmps50
      go_wp2_with (go_at_call 67; refine (HP.out _).mono ?_; rintro e w1 ⟨rfl, rfl⟩; rw [hp])
      rw [← hW0]
      obtain ⟨q0, q1, q2, q3, q4⟩ := HF0.out.cells
      have q5 := HN0.out.cell (i := 0) (by omega)
      refine bodyPost_ret (v := .tuple #[.agg #[.int .i64 0, .int .i64 0, .int .i64 0, .int .i64 0, .slice none 0 0], .int .i64 0, .bool false]) (by simp [results, Try.results50, go_sem, q0, q1, q2, q3, q4, q5]) rfl ⟨0, 0, 0, 0, 0, by rw [hh.out], (fun h => by rw [hh.out] at h; cases h), HB0.out⟩
    | true =>
      have i18 : (18 : Int) ≤ (m.length : Int) := by omega
      go_enter Try.func50, Try.ntmps50
      go_wp2_with (go_at_call 67; refine (HP.out _).mono ?_; rintro e w1 ⟨rfl, rfl⟩; rw [hp])
      any_goals (exfalso; omega)
      rw [← hW0]
      clear hW0
      refine (headNumbers_any _ _ W0).mono ?_
      rintro en w1 ⟨rfl, n1, b1, z1⟩
      have N1 := Lib.hid n1
      have F1 := Lib.hid (RF.below HF0.out b1 : FrB w1 w.heap.size 0 0 0 0 (.slice none 0 0))
      have K1 := Lib.hid (RF.below HN0.out b1 : NuB w1 (w.heap.size + 1) 0)
      have B1 := Lib.hid (Below.up HB0.out b1)
      have hz1 : w1.heap.size = w.heap.size + 3 := by omega
      clear n1 b1 HF0 HN0 HB0 z1
      rw [hz0] at N1 ⊢
      have SL : ∀ W, (Instr.slice 9 (.string (str m)) (some (.int .i64 2)) none none).run Try.prog W = .ok (.string (str (m.drop 2))) W := fun W => by
        rw [run_slice_string_l W 9 (str m) str_kind .i64 2 (by omega) (by omega), show (2 : Int).toNat = 2 from rfl, str_drop]
      go_wp2_with fail
      obtain ⟨W, hW⟩ : ∃ W, W = (w1.alloc (.cells #[.string (str (m.drop 2))] 117)).alloc (.cells #[.func (.func 68) #[.pointer (some ⟨w.heap.size + 3, 0, none⟩)] #[], .func (.func 68) #[.pointer (some ⟨w.heap.size + 3, 0, none⟩)] #[],
        .func (.func 69) #[.pointer (some ⟨w.heap.size + 3, 0, none⟩)] #[], .func (.func 70) #[.pointer (some ⟨w.heap.size + 3, 0, none⟩)] #[], .func (.func 71) #[.pointer (some ⟨w.heap.size + 3, 0, none⟩)] #[]] 99) := ⟨_, rfl⟩
      have HM0 := Lib.hid (head_mem2 (m := m) N1.out F1.out K1.out B1.out hz1 hW)
      rw [← hW]
      clear hW N1 F1 K1 B1 hz1 hz0
      go_loopw [7, 8, 35] (fun _ _ i wr => ∃ k : Nat, k ≤ 5 ∧ i = .int .i64 k ∧ Hid (HeadMem w wr m k)) (fun _ _ i _ => 5 - (intOf i).toNat)
      case atStart => exact ⟨0, by omega, rfl, HM0⟩
      case round =>
        obtain ⟨k, hk, rfl, HM⟩ := hrel
        have HD := Lib.hid (HM.out.rd.below (Below.drew (Below.refl wr.heap.size wr)) (by have := HM.out.sz; omega))
        have O1 : Hid (OnB (w.heap.size + 3) wr wr.drew) := Lib.hid ⟨(Below.refl _ _).drew, rfl, fun _ _ => rfl⟩
        have hsw := HM.out.sz
        match k, hk, HM with
        | 0, hk, HM =>
          have u := HM.out.fu.1
          have p := HM.out.na.1
          have ct := HM.out.fr.cells.1
          have ft := RF.frozen HM.out.fr (i := 0) (by omega)
          have P := Lib.hid p
          have CT := Lib.hid ct
          have FT := Lib.hid ft
          have R := Lib.hid (rone_any (w.heap.size + 3) (m.drop 2) wr.drew HD.out (by rw [List.length_drop]; omega) (by rw [List.length_drop]; omega))
          rw [List.drop_drop] at R
          go_wp2_with fail
          go_region_law
            (first
              | (refine step_at (Eq.refl true) ?_; go_simp; go_at_call 68; ((with_reducible refine R.out.mono ?_); rintro e w2 ⟨rfl, h2, o2⟩; have H2 := Lib.hid h2; have O2 := Lib.hid (O1.out.trans o2); have p2 := O2.out.cell P.out (by omega); have ct2 := O2.out.cell CT.out (by omega); have ft2 := (World.frozen?_of_block (w := wr) (O2.out.2.2 (w.heap.size) (by omega))).trans FT.out; clear h2 o2; dsimp only)))
          all_goals
            go_wp2_with fail
            go_roundw
            case rel => exact ⟨1, by omega, by go_num, Lib.hid (HM.out.next (by omega) H2.out O2.out)⟩
            case measure => simp [intOf]
        | 1, hk, HM =>
          have u := HM.out.fu.2.1
          have p := HM.out.na.2.1
          have ct := HM.out.fr.cells.2.1
          have ft := RF.frozen HM.out.fr (i := 1) (by omega)
          have P := Lib.hid p
          have CT := Lib.hid ct
          have FT := Lib.hid ft
          have R := Lib.hid (rone_any (w.heap.size + 3) (m.drop 3) wr.drew HD.out (by rw [List.length_drop]; omega) (by rw [List.length_drop]; omega))
          rw [List.drop_drop] at R
          go_wp2_with fail
          go_region_law
            (first
              | (refine step_at (Eq.refl true) ?_; go_simp; go_at_call 68; ((with_reducible refine R.out.mono ?_); rintro e w2 ⟨rfl, h2, o2⟩; have H2 := Lib.hid h2; have O2 := Lib.hid (O1.out.trans o2); have p2 := O2.out.cell P.out (by omega); have ct2 := O2.out.cell CT.out (by omega); have ft2 := (World.frozen?_of_block (w := wr) (O2.out.2.2 (w.heap.size) (by omega))).trans FT.out; clear h2 o2; dsimp only)))
          all_goals
            go_wp2_with fail
            go_roundw
            case rel => exact ⟨2, by omega, by go_num, Lib.hid (HM.out.next (by omega) H2.out O2.out)⟩
            case measure => simp [intOf]
        | 2, hk, HM =>
          have u := HM.out.fu.2.2.1
          have p := HM.out.na.2.2.1
          have ct := HM.out.fr.cells.2.2.1
          have ft := RF.frozen HM.out.fr (i := 2) (by omega)
          have P := Lib.hid p
          have CT := Lib.hid ct
          have FT := Lib.hid ft
          have R := Lib.hid (rfour_any (w.heap.size + 3) (m.drop 4) wr.drew HD.out (by rw [List.length_drop]; omega) (by rw [List.length_drop]; omega))
          rw [List.drop_drop] at R
          go_wp2_with fail
          go_region_law
            (first
              | (refine step_at (Eq.refl true) ?_; go_simp; go_at_call 69; ((with_reducible refine R.out.mono ?_); rintro e w2 ⟨rfl, h2, o2⟩; have H2 := Lib.hid h2; have O2 := Lib.hid (O1.out.trans o2); have p2 := O2.out.cell P.out (by omega); have ct2 := O2.out.cell CT.out (by omega); have ft2 := (World.frozen?_of_block (w := wr) (O2.out.2.2 (w.heap.size) (by omega))).trans FT.out; clear h2 o2; dsimp only)))
          all_goals
            go_wp2_with fail
            go_roundw
            case rel => exact ⟨3, by omega, by go_num, Lib.hid (HM.out.next (by omega) H2.out O2.out)⟩
            case measure => simp [intOf]
        | 3, hk, HM =>
          have u := HM.out.fu.2.2.2.1
          have p := HM.out.na.2.2.2.1
          have ct := HM.out.fr.cells.2.2.2.1
          have ft := RF.frozen HM.out.fr (i := 3) (by omega)
          have P := Lib.hid p
          have CT := Lib.hid ct
          have FT := Lib.hid ft
          have R := Lib.hid (rsix_any (w.heap.size + 3) (m.drop 8) wr.drew HD.out (by rw [List.length_drop]; omega) (by rw [List.length_drop]; omega))
          rw [List.drop_drop] at R
          go_wp2_with fail
          go_region_law
            (first
              | (refine step_at (Eq.refl true) ?_; go_simp; go_at_call 70; ((with_reducible refine R.out.mono ?_); rintro e w2 ⟨rfl, h2, o2⟩; have H2 := Lib.hid h2; have O2 := Lib.hid (O1.out.trans o2); have p2 := O2.out.cell P.out (by omega); have ct2 := O2.out.cell CT.out (by omega); have ft2 := (World.frozen?_of_block (w := wr) (O2.out.2.2 (w.heap.size) (by omega))).trans FT.out; clear h2 o2; dsimp only)))
          all_goals
            go_wp2_with fail
            go_roundw
            case rel => exact ⟨4, by omega, by go_num, Lib.hid (HM.out.next (by omega) H2.out O2.out)⟩
            case measure => simp [intOf]
        | 4, hk, HM =>
          have u := HM.out.fu.2.2.2.2
          have p := HM.out.na.2.2.2.2
          have ct := HM.out.nu.cell (i := 0) (by omega)
          have ft := RF.frozen HM.out.nu (i := 0) (by omega)
          have P := Lib.hid p
          have CT := Lib.hid ct
          have FT := Lib.hid ft
          have R := Lib.hid (rtwo_any (w.heap.size + 3) (m.drop 14) wr.drew HD.out (by rw [List.length_drop]; omega) (by rw [List.length_drop]; omega))
          rw [List.drop_drop] at R
          go_wp2_with fail
          go_region_law
            (first
              | (refine step_at (Eq.refl true) ?_; go_simp; go_at_call 71; ((with_reducible refine R.out.mono ?_); rintro e w2 ⟨rfl, h2, o2⟩; have H2 := Lib.hid h2; have O2 := Lib.hid (O1.out.trans o2); have p2 := O2.out.cell P.out (by omega); have ct2 := O2.out.cell CT.out (by omega); have ft2 := (World.frozen?_of_block (w := wr) (O2.out.2.2 (w.heap.size + 1) (by omega))).trans FT.out; clear h2 o2; dsimp only)))
          all_goals
            go_wp2_with fail
            go_roundw
            case rel => exact ⟨5, by omega, by go_num, Lib.hid (HM.out.next (by omega) H2.out O2.out)⟩
            case measure => simp [intOf]
        | 5, hk, HM =>
          obtain ⟨fr, nu, _, _, _, bl, _⟩ := HM.out
          have FRB := Lib.hid fr
          have NUB := Lib.hid nu
          have BLB := Lib.hid bl
          clear fr nu bl
          have hv : numH m 5 0 = (hdF m).l ∧ numH m 5 1 = (hdF m).s ∧ numH m 5 2 = (hdF m).e ∧ numH m 5 3 = (hdF m).t ∧ numH m 5 4 = (hdN m : Nat) := ⟨rfl, rfl, rfl, rfl, rfl⟩
          rw [hv.1, hv.2.1, hv.2.2.1, hv.2.2.2.1] at FRB
          rw [hv.2.2.2.2] at NUB
          have HI : Hid (headIs m = (hdOk m && hdSum m)) := Lib.hid (by unfold headIs; rw [decide_eq_true h18, hp]; rfl)
          have HO := Lib.hid (show hdOk m = headB (hdF m).l (hdF m).s (hdF m).e (hdF m).t (hdN m : Nat) from rfl)
          have HSM := Lib.hid (show hdSum m = decide (beV ((m.drop 16).take 2) = crc0 (m.take 16)) from rfl)
          have R := Lib.hid (fun W (h : Rd W (w.heap.size + 3) (m.drop 16)) => rtwo_any (w.heap.size + 3) (m.drop 16) W h (by rw [List.length_drop]; omega) (by rw [List.length_drop]; omega))
          have HRD : Hid (Rd wr.drew (w.heap.size + 3) (m.drop 16)) := HD
          have SL2 : ∀ W, (Instr.slice 9 (.string (str m)) none (some (.int .i64 16)) none).run Try.prog W = .ok (.string (str (m.take 16))) W := fun W => by
            rw [run_slice_string_h W 9 (str m) str_kind .i64 16 (by omega) (by omega), show (16 : Int).toNat = 16 from rfl, str_take]
          have CR := Lib.hid (fun W => Crc_any (str (m.take 16)) W (by rw [str_size, List.length_take]; unfold maxLen; omega))
          rw [str_list] at CR
          clear hv HM hk HD SL
          have y1 := beV2_lt (m.drop 16)
          have y2 := crc0_lt (m.take 16)
          generalize beV ((m.drop 16).take 2) = x1 at *
          generalize crc0 (m.take 16) = x2 at *
          generalize str (m.take 16) = sk at *
          have HB := Lib.hid (fun W (x : Option Addr) (n k : Nat) => isHead_any (hdF m).l (hdF m).s (hdF m).e (hdF m).t (hdN m : Nat) x n k W)
          rw [← HO.out, hok] at HB
          obtain ⟨F, hF⟩ : ∃ F, F = hdF m := ⟨_, rfl⟩
          obtain ⟨N, hN⟩ : ∃ N : Int, N = (hdN m : Nat) := ⟨_, rfl⟩
          rw [← hF, ← hN] at HB
          rw [← hF] at FRB
          rw [← hN] at NUB
          have HFN := Lib.hid (And.intro hF hN)
          clear hF hN HO
          obtain ⟨l, s, e, t, hs⟩ := F
          simp only at HB FRB
          obtain ⟨q0, q1, q2, q3, q4⟩ := FRB.out.cells
          have q5 := NUB.out.cell (i := 0) (by omega)
          have BD : Hid (Below wr.heap.size wr wr.drew) := Lib.hid (Below.refl _ _).drew
          have hh : Hid (headIs m = false) := Lib.hid (by rw [HI.out, hok]; rfl)
          have SD : wr.drew.cell? ⟨w.heap.size, 0, none⟩ = some (.int .i64 l) ∧ wr.drew.cell? ⟨w.heap.size, 1, none⟩ = some (.int .i64 s) ∧ wr.drew.cell? ⟨w.heap.size, 2, none⟩ = some (.int .i64 e) ∧ wr.drew.cell? ⟨w.heap.size, 3, none⟩ = some (.int .i64 t) ∧ wr.drew.cell? ⟨w.heap.size, 4, none⟩ = some (.slice none 0 0) ∧ wr.drew.cell? ⟨w.heap.size + 1, 0, none⟩ = some (.int .i64 N) := ⟨q0, q1, q2, q3, q4, q5⟩
          have SDH := Lib.hid SD
          have WZ : wr.drew.heap.size = w.heap.size + 5 := hsw
          clear q0 q1 q2 q3 q4 q5 SD hp
          go_wp2_with fail
          refine wp_region_held_drew (S := (fun W => W.cell? ⟨w.heap.size, 0, none⟩ = some (.int .i64 l) ∧ W.cell? ⟨w.heap.size, 1, none⟩ = some (.int .i64 s) ∧ W.cell? ⟨w.heap.size, 2, none⟩ = some (.int .i64 e) ∧ W.cell? ⟨w.heap.size, 3, none⟩ = some (.int .i64 t) ∧ W.cell? ⟨w.heap.size, 4, none⟩ = some (.slice none 0 0) ∧ W.cell? ⟨w.heap.size + 1, 0, none⟩ = some (.int .i64 N))) (by kernel_rfl) SDH.out (fun hHeld => ?_)
          refine wpAnyH_take (i := 0) (v := .agg #[.int .i64 l, .int .i64 s, .int .i64 e, .int .i64 t, .slice none 0 0]) rfl (by kernel_rfl) (by kernel_rfl) (by kernel_rfl) (fun _ _ _ h => h) (Or.inl ⟨by rfl, ?_⟩) hHeld ?_
          · intro W hSw
            obtain ⟨r0, r1, r2, r3, r4, r5⟩ := hSw
            go_simp
          try simp only [Act.put, List.setIfInBounds_toArray, List.set_cons_zero, List.set_cons_succ]
          refine wpAnyH_take (i := 1) (v := .int .i64 N) rfl (by kernel_rfl) (by kernel_rfl) (by kernel_rfl) (fun _ _ _ h => h) (Or.inl ⟨by rfl, ?_⟩) hHeld ?_
          · intro W hSw
            obtain ⟨r0, r1, r2, r3, r4, r5⟩ := hSw
            go_simp
          try simp only [Act.put, List.setIfInBounds_toArray, List.set_cons_zero, List.set_cons_succ]
          refine wpAnyH_take (i := 2) (v := .agg #[.int .i64 l, .int .i64 s, .int .i64 e, .int .i64 t, .slice none 0 0]) rfl (by kernel_rfl) (by kernel_rfl) (by kernel_rfl) (fun _ _ _ h => h) (Or.inl ⟨by rfl, ?_⟩) hHeld ?_
          · intro W hSw
            obtain ⟨r0, r1, r2, r3, r4, r5⟩ := hSw
            go_simp
          try simp only [Act.put, List.setIfInBounds_toArray, List.set_cons_zero, List.set_cons_succ]
          refine wpAnyH_take (i := 3) (v := .int .i64 N) rfl (by kernel_rfl) (by kernel_rfl) (by kernel_rfl) (fun _ _ _ h => h) (Or.inl ⟨by rfl, ?_⟩) hHeld ?_
          · intro W hSw
            obtain ⟨r0, r1, r2, r3, r4, r5⟩ := hSw
            go_simp
          try simp only [Act.put, List.setIfInBounds_toArray, List.set_cons_zero, List.set_cons_succ]
          refine wpAnyH_ready (rs := [4]) (by kernel_rfl) (by simp) ?_
          refine AllReadyH.cons (i := 4) rfl (fun K hK => ?_) AllReadyH.nil
          refine step_at (Eq.refl true) ?_
          go_simp
          go_at_call 48
          refine (HB.out _ _ _ _).mono ?_
          rintro en w2 ⟨rfl, b2⟩
          have B2 := Lib.hid (Below.up BD.out b2)
          have F2 := Lib.hid (FRB.out.below B2.out)
          have N2 := Lib.hid (NUB.out.below B2.out)
          clear hHeld b2
          dsimp only
          refine hK.out _ _ ⟨F2.out.cells.1, F2.out.cells.2.1, F2.out.cells.2.2.1, F2.out.cells.2.2.2.1, F2.out.cells.2.2.2.2, N2.out.cell (i := 0) (by omega)⟩ (fun hHeld => ?_)
          clear hK K
          try simp only [Act.put, List.setIfInBounds_toArray, List.set_cons_zero, List.set_cons_succ]
          refine wpAnyH_take (i := 5) (v := .bool false) rfl (by kernel_rfl) (by kernel_rfl) (by kernel_rfl) (fun _ _ _ h => h) (Or.inl ⟨by rfl, ?_⟩) hHeld ?_
          · intro W hSw
            obtain ⟨r0, r1, r2, r3, r4, r5⟩ := hSw
            go_simp
          try simp only [Act.put, List.setIfInBounds_toArray, List.set_cons_zero, List.set_cons_succ]
          refine wpAnyH_take (i := 6) (v := undef) rfl (by kernel_rfl) (by kernel_rfl) (by kernel_rfl) (fun _ _ _ h => h) (Or.inr ⟨by rfl, rfl⟩) hHeld ?_
          try simp only [Act.put, List.setIfInBounds_toArray, List.set_cons_zero, List.set_cons_succ]
          refine wpAnyH_take (i := 7) (v := undef) rfl (by kernel_rfl) (by kernel_rfl) (by kernel_rfl) (fun _ _ _ h => h) (Or.inr ⟨by rfl, rfl⟩) hHeld ?_
          try simp only [Act.put, List.setIfInBounds_toArray, List.set_cons_zero, List.set_cons_succ]
          refine wpAnyH_take (i := 8) (v := undef) rfl (by kernel_rfl) (by kernel_rfl) (by kernel_rfl) (fun _ _ _ h => h) (Or.inr ⟨by rfl, rfl⟩) hHeld ?_
          try simp only [Act.put, List.setIfInBounds_toArray, List.set_cons_zero, List.set_cons_succ]
          refine wpAnyH_take (i := 9) (v := undef) rfl (by kernel_rfl) (by kernel_rfl) (by kernel_rfl) (fun _ _ _ h => h) (Or.inr ⟨by rfl, rfl⟩) hHeld ?_
          try simp only [Act.put, List.setIfInBounds_toArray, List.set_cons_zero, List.set_cons_succ]
          refine wpAnyH_take (i := 10) (v := undef) rfl (by kernel_rfl) (by kernel_rfl) (by kernel_rfl) (fun _ _ _ h => h) (Or.inr ⟨by rfl, rfl⟩) hHeld ?_
          try simp only [Act.put, List.setIfInBounds_toArray, List.set_cons_zero, List.set_cons_succ]
          refine wpAnyH_take (i := 11) (v := undef) rfl (by kernel_rfl) (by kernel_rfl) (by kernel_rfl) (fun _ _ _ h => h) (Or.inr ⟨by rfl, rfl⟩) hHeld ?_
          try simp only [Act.put, List.setIfInBounds_toArray, List.set_cons_zero, List.set_cons_succ]
          refine wpAnyH_take (i := 12) (v := .bool false) rfl (by kernel_rfl) (by kernel_rfl) (by kernel_rfl) (fun _ _ _ h => h) (Or.inl ⟨by rfl, ?_⟩) hHeld ?_
          · intro W hSw
            obtain ⟨r0, r1, r2, r3, r4, r5⟩ := hSw
            go_simp
          try simp only [Act.put, List.setIfInBounds_toArray, List.set_cons_zero, List.set_cons_succ]
          obtain ⟨⟨z0, z1, z2, z3, z4⟩, s0, s1, s2, s3, s4⟩ := F2.out.selfs
          have z5 := N2.out.frozen (i := 0) (by omega)
          have s5 := setCell_self (N2.out.cell (i := 0) (by omega))
          have HLD := Lib.hid hHeld
          obtain ⟨r0, r1, r2, r3, r4, r5⟩ := hHeld
          refine wpAnyH_ready (rs := [13]) (by kernel_rfl) (by simp) ?_
          refine AllReadyH.cons (i := 13) rfl (fun K hK => ?_) AllReadyH.nil
          rw [if_pos (by rfl)]
          go_simp
          refine hK.out _ _ HLD.out (fun hHeld => ?_)
          clear hK K
          try simp only [Act.put, List.setIfInBounds_toArray, List.set_cons_zero, List.set_cons_succ]
          refine wpAnyH_ready (rs := [14]) (by kernel_rfl) (by simp) ?_
          refine AllReadyH.cons (i := 14) rfl (fun K hK => ?_) AllReadyH.nil
          rw [if_pos (by rfl)]
          go_simp
          refine hK.out _ _ HLD.out (fun hHeld => ?_)
          clear hK K
          try simp only [Act.put, List.setIfInBounds_toArray, List.set_cons_zero, List.set_cons_succ]
          refine wpAnyH_ready (rs := [15]) (by kernel_rfl) (by simp) ?_
          refine AllReadyH.cons (i := 15) rfl (fun K hK => ?_) AllReadyH.nil
          rw [if_pos (by rfl)]
          go_simp
          refine hK.out _ _ HLD.out (fun hHeld => ?_)
          clear hK K
          try simp only [Act.put, List.setIfInBounds_toArray, List.set_cons_zero, List.set_cons_succ]
          refine wpAnyH_done (by kernel_rfl) ?_ _
          go_wp2_with fail
          refine bodyPost_ret (v := .tuple #[.agg #[.int .i64 l, .int .i64 s, .int .i64 e, .int .i64 t, .slice none 0 0], .int .i64 N, .bool false]) (by simp [results, Try.results50, go_sem, r0, r1, r2, r3, r4, r5]) rfl ⟨l, s, e, t, N, by rw [hh.out], (fun h => by rw [hh.out] at h; cases h), BLB.out.trans (B2.out.mono (by omega))⟩
  · have hh : Hid (headIs m = false) := Lib.hid (by unfold headIs; rw [decide_eq_false h18]; rfl)
    have i18 : (m.length : Int) < 18 := by omega
    go_enter Try.func50, Try.ntmps50
    go_wp2_with fail
    rw [← hW0]
    obtain ⟨q0, q1, q2, q3, q4⟩ := HF0.out.cells
    have q5 := HN0.out.cell (i := 0) (by omega)
    refine bodyPost_ret (v := .tuple #[.agg #[.int .i64 0, .int .i64 0, .int .i64 0, .int .i64 0, .slice none 0 0], .int .i64 0, .bool false]) (by simp [results, Try.results50, go_sem, q0, q1, q2, q3, q4, q5]) rfl ⟨0, 0, 0, 0, 0, by rw [hh.out], (fun h => by rw [hh.out] at h; cases h), HB0.out⟩
theorem Unpack_any (m : List UInt8) (w : World) (hm : m.length ≤ 1099511627776) : Calls Try.prog 22 #[.string (str m)] w (UnpPost w m) :=
  Unpack_of m w hm fun W => by
    cases hd : hdOk m with
    | false => exact unpackHead_no m W hm hd
    | true => exact unpackHead_any m W hm (fun _ _ => hd)
end Go.Proofs.Ytanillahofohgaa
