/- Layer 4: the law of digests. -/
import Derived.Deep.RegionLaw
import Derived.Deep.RegionHeld3
import Derived.Deep.DrawnRows
import Derived.Test.YtidpjgkjeocgaaaDoorCbT
set_option linter.unusedVariables false
set_option linter.unusedSimpArgs false
namespace Go.Proofs.YtidpjgkjeocgaaaDoor
open Go.RowKit Go.Shelf
attribute [local go_sem ↓] Go.wp_at_zero Go.wp_at_succ

set_option maxRecDepth 100000 in
set_option maxHeartbeats 3200000 in
theorem digests_any (s : ByteArray) (n : Nat) (a b : Int) (w : World) (hn : n < 18446744073709551616) (hT : Lib.TabIs Tryd.prog w "internal/strconv.uint64pow10" .u64 Lib.pow10Tab) (hz : Tz16 w) :
    Calls Tryd.prog 4 #[.string s, .int .u64 n, .agg #[.int .i64 a, .int .i64 b]] w fun e w' => e = .returned (.bool true) ∧ Below w.heap.size w w' := by
  have HP : Hid (Pow w.heap.size w) := Lib.hid (Lib.tabBelow_of_tabIs hT)
  have HT : Hid (Tz w.heap.size w) := Lib.hid ⟨cell_lt hz, hz⟩
  have AW := Lib.hid (fun W (h : Below w.heap.size w W) => awake_any W (HP.out _ h) (HT.out.on h).2)
  clear hT hz
  have b0 : Below w.heap.size w (w.alloc (.cells #[.int .i64 a, .int .i64 b] 32)) := (Below.refl _ _).alloc (Nat.le_refl _) _
  have X0 : Hid (RF (w.alloc (.cells #[.int .i64 a, .int .i64 b] 32)) w.heap.size 32 2 (fun i => ((#[.int .i64 a, .int .i64 b] : Array Value)[i]?).getD default)) := Lib.hid (RF_new w _ _ 2 _ rfl (fun i hi => by rw [Array.getElem?_eq_getElem hi]; rfl))
  have B0 := Lib.hid b0
  clear b0
  by_cases hs : 3000 < s.size
  · go_enter Tryd.func4, Tryd.ntmps4
    go_wp2_with fail
    refine (AW.out _ B0.out).mono ?_
    rintro e w1 ⟨rfl, b1⟩
    have B1 := Lib.hid (Below.up B0.out b1)
    clear b1
    go_wp2_with fail
    go_ret
    exact ⟨rfl, B1.out⟩
  have DG := Lib.hid (fun W => Digest_any s W (by unfold maxLen; omega))
  have DR := Lib.hid (fun W => refDigest_any s W (by unfold maxLen; omega))
  have hd := dgL0_lt s.data.toList
  obtain ⟨dv, hdv⟩ : ∃ dv, dv = dgL dg0 s.data.toList := ⟨_, rfl⟩
  rw [← hdv] at DG DR hd
  have HDV := Lib.hid hdv
  clear hdv
  have HX := Lib.hid (fun W (hW : Tz16 W) => Hex_any n W hn hW)
  have HR := Lib.hid (fun W => refHex_any n W hn)
  obtain ⟨hx, hhx⟩ : ∃ hx : ByteArray, hx = ⟨(hexL n).toArray⟩ := ⟨_, rfl⟩
  rw [← hhx] at HX HR
  clear hhx
  go_enter Tryd.func4, Tryd.ntmps4
  go_wp2_with fail
  generalize (w.alloc (.cells #[.int .i64 a, .int .i64 b] 32)) = W0 at *
  refine (DG.out _).mono ?_
  rintro e w' ⟨rfl, rfl⟩
  go_wp2_with fail
  refine (DR.out _).mono ?_
  rintro e w' ⟨rfl, rfl⟩
  go_wp2_with fail
  refine (HX.out _ (HT.out.on B0.out).2).mono ?_
  rintro e w1 ⟨rfl, b1⟩
  have B1 := Lib.hid (Below.up B0.out b1)
  have X1 := Lib.hid (X0.out.below b1)
  clear b1 B0 X0
  go_wp2_with fail
  refine (HR.out _).mono ?_
  rintro e w2 ⟨rfl, b2⟩
  have B2 := Lib.hid (Below.up B1.out b2)
  have X2 := Lib.hid (X1.out.below b2)
  clear b2 B1 X1
  have q0 : w2.cell? ⟨w.heap.size, 0, none⟩ = some (.int .i64 a) := X2.out.cell (i := 0) (by omega)
  have q1 : w2.cell? ⟨w.heap.size, 1, none⟩ = some (.int .i64 b) := X2.out.cell (i := 1) (by omega)
  go_wp2_with fail
  go_region
  clear q0 q1
  obtain ⟨c, hc⟩ : ∃ c : UInt8, b % 256 = ((c.toNat : Nat) : Int) := ⟨UInt8.ofNat (b % 256).toNat, by simp; omega⟩
  rw [hc]
  clear hc
  have B3 := Lib.hid (B2.out.drew)
  clear X2 DR HX HR
  generalize w2.drew = w3 at *
  by_cases ha0 : 0 ≤ a
  · obtain ⟨m, rfl⟩ : ∃ m : Nat, a = (m : Int) := ⟨a.toNat, by omega⟩
    by_cases ham : m < s.size
    · by_cases hcs : s[m] = c
      · have hbb : (((s[m].toNat : Nat) : Int) != (c.toNat : Nat)) = false := by rw [hcs]; simp
        go_wp2_with fail
        go_region
        all_goals
          go_wp2_with fail
          (refine (AW.out _ B3.out.drew).mono ?_)
          rintro e w5 ⟨rfl, b5⟩
          have B5 := Lib.hid (Below.up B3.out.drew b5)
          clear b5
          go_wp2_with fail
          go_ret
          exact ⟨rfl, B5.out⟩
      · have hbb : (((s[m].toNat : Nat) : Int) != (c.toNat : Nat)) = true := by simp; exact fun h => hcs (UInt8.toNat_inj.1 (by omega))
        have CV : (convert 35 9 (.slice (some ⟨w3.heap.size, 0, none⟩) 1 1)).run Tryd.prog (w3.alloc (.cells #[.int .u8 (c.toNat : Nat)] 5)).drew = .ok (.string ⟨#[c]⟩) (w3.alloc (.cells #[.int .u8 (c.toNat : Nat)] 5)).drew := one_string c w3.drew
        obtain ⟨s0, hs0⟩ : ∃ s0 : ByteArray, s0 = s.extract 0 m := ⟨_, rfl⟩
        obtain ⟨s1, hs1⟩ : ∃ s1 : ByteArray, s1 = s.extract (m + 1) s.size := ⟨_, rfl⟩
        have z0 : s0.size = m := by rw [hs0, ByteArray.size_extract]; omega
        have z1 : s1.size = s.size - (m + 1) := by rw [hs1, ByteArray.size_extract]; omega
        have SL0 : ∀ W : World, (Instr.slice 9 (.string s) none (some (.int .i64 (m : Int))) none).run Tryd.prog W = .ok (.string s0) W := fun W => by
          rw [run_slice_string_h W 9 s str_kind .i64 m (by omega) (by omega), hs0]
          rfl
        have SL1 : ∀ W : World, (Instr.slice 9 (.string s) (some (.int .i64 ((m : Int) + 1))) none none).run Tryd.prog W = .ok (.string s1) W := fun W => by
          rw [run_slice_string_l W 9 s str_kind .i64 (m + 1) (by omega) (by omega), hs1]
          rfl
        have WR : IntKind.i64.wrap ((m : Int) + 1) = (m : Int) + 1 := IntWalk.i64_in _ (by omega)
        obtain ⟨cs, hcs'⟩ : ∃ cs : ByteArray, cs = ⟨#[c]⟩ := ⟨_, rfl⟩
        have zc : cs.size = 1 := by rw [hcs']; rfl
        rw [← hcs'] at CV
        obtain ⟨p1, hp1⟩ : ∃ p1 : ByteArray, p1 = s0 ++ cs := ⟨_, rfl⟩
        have zp1 : p1.size = m + 1 := by rw [hp1, ByteArray.size_append]; omega
        obtain ⟨p2, hp2⟩ : ∃ p2 : ByteArray, p2 = p1 ++ s1 := ⟨_, rfl⟩
        have zp2 : p2.size = s.size := by rw [hp2, ByteArray.size_append]; omega
        have e1 := add_str s0 cs p1 hp1 (by omega)
        have e2 := add_str p1 s1 p2 hp2 (by omega)
        have DP := Lib.hid (fun W => Digest_any p2 W (by unfold maxLen; omega))
        have hdif : Hid (dgL dg0 p2.data.toList ≠ dv) := Lib.hid (by
          have e3 : p2.data.toList = s.data.toList.take m ++ c :: s.data.toList.drop (m + 1) := by
            rw [hp2, cat_size, hp1, cat_size, hs0, hs1, hcs']
            have x0 : (s.extract 0 m).data.toList = s.data.toList.take m := by rw [ByteArray.data_extract, Array.toList_extract]; simp [List.extract_eq_drop_take]
            have x1 : (s.extract (m + 1) s.size).data.toList = s.data.toList.drop (m + 1) := by
              rw [ByteArray.data_extract, Array.toList_extract, List.extract_eq_drop_take]
              apply List.take_of_length_le
              rw [List.length_drop, Array.length_toList]
              exact Nat.le_refl _
            rw [x0, x1]
            simp
          have e4 : s.data.toList = s.data.toList.take m ++ s[m] :: s.data.toList.drop (m + 1) := by
            have hm : m < s.data.toList.length := by rw [Array.length_toList]; exact ham
            conv => lhs; rw [← List.take_append_drop m s.data.toList]
            rw [List.drop_eq_getElem_cons hm]
            rfl
          rw [e3, HDV.out, e4]
          have := dg_differ dg0_lt (s.data.toList.take m) (s.data.toList.drop (m + 1)) (b := c) (c := s[m]) (fun h => hcs h.symm)
          rw [← e4]
          rw [← e4] at this
          exact this)
        obtain ⟨dp, hdp⟩ : ∃ dp, dp = dgL dg0 p2.data.toList := ⟨_, rfl⟩
        rw [← hdp] at DP hdif
        have hne : ((dp : Int) == (dv : Int)) = false := by simpa using (fun h => hdif.out (by omega))
        clear hs0 hs1 hp1 hp2 hcs' hdp zp1 zp2 z0 z1 zc
        go_wp2_with fail
        go_region_held3 (fun w' => True) (trivial) (first | (go_at_call 9; ((with_reducible refine (DG.out _).mono ?_); rintro e w7 ⟨rfl, rfl⟩)) | (go_at_call 9; ((with_reducible refine (DP.out _).mono ?_); rintro e w7 ⟨rfl, rfl⟩)))
        all_goals
          have B4 : Hid (Below w.heap.size w (w3.alloc (.cells #[.int .u8 (c.toNat : Nat)] 5)).drew) := Lib.hid ((B3.out.alloc B3.out.size _).drew)
          go_wp2_with fail
          refine (AW.out _ B4.out).mono ?_
          rintro e w5 ⟨rfl, b5⟩
          have B5 := Lib.hid (Below.up B4.out b5)
          clear b5
          go_wp2_with fail
          go_ret
          exact ⟨rfl, B5.out⟩
    · go_wp2_with fail
      go_region
      all_goals
        go_wp2_with fail
        (refine (AW.out _ B3.out.drew).mono ?_)
        rintro e w5 ⟨rfl, b5⟩
        have B5 := Lib.hid (Below.up B3.out.drew b5)
        clear b5
        go_wp2_with fail
        go_ret
        exact ⟨rfl, B5.out⟩
  · have hd0 : decide (0 ≤ a) = false := decide_eq_false ha0
    have ha1 : a < 0 := by omega
    go_wp2_with fail
    go_region
    all_goals
      go_wp2_with fail
      (refine (AW.out _ B3.out.drew).mono ?_)
      rintro e w5 ⟨rfl, b5⟩
      have B5 := Lib.hid (Below.up B3.out.drew b5)
      clear b5
      go_wp2_with fail
      go_ret
      exact ⟨rfl, B5.out⟩
end Go.Proofs.YtidpjgkjeocgaaaDoor
