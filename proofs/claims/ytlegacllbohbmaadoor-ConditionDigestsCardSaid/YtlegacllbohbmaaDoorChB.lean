/- Layer 4: the law of digests. -/
import Derived.Deep.RegionLaw
import Derived.Deep.RegionHeld3
import Derived.Deep.DrawnRows
import Derived.Test.YtlegacllbohbmaaDoorCbT
set_option linter.unusedVariables false
set_option linter.unusedSimpArgs false
namespace Go.Proofs.YtlegacllbohbmaaDoor
open Go.RowKit Go.Shelf
attribute [local go_sem ↓] Go.wp_at_zero Go.wp_at_succ

theorem step_at {c : Prop} [Decidable c] {A B : Prop} (hc : c) (h : A) : if c then A else B := by rw [if_pos hc]; exact h
set_option maxRecDepth 100000 in
set_option maxHeartbeats 6400000 in
theorem digests_any (s : ByteArray) (n : Nat) (a b : Int) (w : World) (hn : n < 18446744073709551616) (hT : Lib.TabIs Tryd.prog w "internal/strconv.uint64pow10" .u64 Lib.pow10Tab) (hz : Tz16 w) :
    Calls Tryd.prog 3 #[.string s, .int .u64 n, .agg #[.int .i64 a, .int .i64 b]] w fun e w' => e = .returned (.bool true) ∧ Below w.heap.size w w' := by
  have HP : Hid (Pow w.heap.size w) := Lib.hid (Lib.tabBelow_of_tabIs hT)
  have HT : Hid (Tz w.heap.size w) := Lib.hid ⟨cell_lt hz, hz⟩
  have AW := Lib.hid (fun W (h : Below w.heap.size w W) => awake_any W (HP.out _ h) (HT.out.on h).2)
  clear hT hz
  have b0 : Below w.heap.size w (w.alloc (.cells #[.int .i64 a, .int .i64 b] 23)) := (Below.refl _ _).alloc (Nat.le_refl _) _
  have X0 : Hid (RF (w.alloc (.cells #[.int .i64 a, .int .i64 b] 23)) w.heap.size 23 2 (fun i => ((#[.int .i64 a, .int .i64 b] : Array Value)[i]?).getD default)) := Lib.hid (RF_new w _ _ 2 _ rfl (fun i hi => by rw [Array.getElem?_eq_getElem hi]; rfl))
  have B0 := Lib.hid b0
  clear b0
  by_cases hs : 3000 < s.size
  · go_enter Tryd.func3, Tryd.ntmps3
    go_wp2_with fail
    refine (AW.out _ B0.out).mono ?_
    rintro e w1 ⟨rfl, b1⟩
    have B1 := Lib.hid (Below.up B0.out b1)
    clear b1
    go_wp2_with fail
    go_ret
    exact ⟨rfl, B1.out⟩
  have DG := Lib.hid (fun W => Digest_any s W (by unfold maxLen; omega))
  have DR := Lib.hid (fun W => refDigest_any s W (by unfold maxLen; omega))
  have hd := dgL0_lt s.data.toList
  obtain ⟨dv, hdv⟩ : ∃ dv, dv = dgL dg0 s.data.toList := ⟨_, rfl⟩
  rw [← hdv] at DG DR hd
  have HDV := Lib.hid hdv
  clear hdv
  have HX := Lib.hid (fun W (hW : Tz16 W) => Hex_any n W hn hW)
  have HR := Lib.hid (fun W => refHex_any n W hn)
  obtain ⟨hx, hhx⟩ : ∃ hx : ByteArray, hx = ⟨(hexL n).toArray⟩ := ⟨_, rfl⟩
  rw [← hhx] at HX HR
  clear hhx
  go_enter Tryd.func3, Tryd.ntmps3
  go_wp2_with fail
  generalize (w.alloc (.cells #[.int .i64 a, .int .i64 b] 23)) = W0 at *
  refine (DG.out _).mono ?_
  rintro e w' ⟨rfl, rfl⟩
  go_wp2_with fail
  refine (DR.out _).mono ?_
  rintro e w' ⟨rfl, rfl⟩
  go_wp2_with fail
  refine (HX.out _ (HT.out.on B0.out).2).mono ?_
  rintro e w1 ⟨rfl, b1⟩
  have B1 := Lib.hid (Below.up B0.out b1)
  have X1 := Lib.hid (X0.out.below b1)
  clear b1 B0 X0
  go_wp2_with fail
  refine (HR.out _).mono ?_
  rintro e w2 ⟨rfl, b2⟩
  have B2 := Lib.hid (Below.up B1.out b2)
  have X2 := Lib.hid (X1.out.below b2)
  clear b2 B1 X1
  have q0 : w2.cell? ⟨w.heap.size, 0, none⟩ = some (.int .i64 a) := X2.out.cell (i := 0) (by omega)
  have q1 : w2.cell? ⟨w.heap.size, 1, none⟩ = some (.int .i64 b) := X2.out.cell (i := 1) (by omega)
  go_wp2_with fail
  go_region
  clear q0 q1
  obtain ⟨c, hc⟩ : ∃ c : UInt8, b % 256 = ((c.toNat : Nat) : Int) := ⟨UInt8.ofNat (b % 256).toNat, by simp; omega⟩
  rw [hc]
  clear hc
  have B3 := Lib.hid (B2.out.drew)
  clear X2 DR HX HR
  generalize w2.drew = w3 at *
  by_cases ha0 : 0 ≤ a
  · obtain ⟨m, rfl⟩ : ∃ m : Nat, a = (m : Int) := ⟨a.toNat, by omega⟩
    by_cases ham : m < s.size
    · by_cases hcs : s[m] = c
      · have hbb : (((s[m].toNat : Nat) : Int) != (c.toNat : Nat)) = false := by rw [hcs]; simp
        go_wp2_with fail
        go_region
        all_goals
          go_wp2_with fail
          (refine (AW.out _ B3.out.drew).mono ?_)
          rintro e w5 ⟨rfl, b5⟩
          have B5 := Lib.hid (Below.up B3.out.drew b5)
          clear b5
          go_wp2_with fail
          go_ret
          exact ⟨rfl, B5.out⟩
      · have hbb : (((s[m].toNat : Nat) : Int) != (c.toNat : Nat)) = true := by simp; exact fun h => hcs (UInt8.toNat_inj.1 (by omega))
        have CV : ∀ W : World, W.cell? ⟨w3.heap.size, 0, none⟩ = some (.int .u8 (c.toNat : Nat)) → (convert 27 9 (.slice (some ⟨w3.heap.size, 0, none⟩) 1 1)).run Tryd.prog W = .ok (.string ⟨#[c]⟩) W := fun W hW =>
          run_convert_bytes_back W _ _ 5 ⟨w3.heap.size, 0, none⟩ 1 [c] (by kernel_rfl) (by kernel_rfl) (by kernel_rfl) fun q hq => by
            have hq0 : q = 0 := by simpa using hq
            subst hq0
            simpa [Addr.add] using hW
        obtain ⟨s0, hs0⟩ : ∃ s0 : ByteArray, s0 = s.extract 0 m := ⟨_, rfl⟩
        obtain ⟨s1, hs1⟩ : ∃ s1 : ByteArray, s1 = s.extract (m + 1) s.size := ⟨_, rfl⟩
        have z0 : s0.size = m := by rw [hs0, ByteArray.size_extract]; omega
        have z1 : s1.size = s.size - (m + 1) := by rw [hs1, ByteArray.size_extract]; omega
        have SL0 : ∀ W : World, (Instr.slice 9 (.string s) none (some (.int .i64 (m : Int))) none).run Tryd.prog W = .ok (.string s0) W := fun W => by
          rw [run_slice_string_h W 9 s str_kind .i64 m (by omega) (by omega), hs0]
          rfl
        have SL1 : ∀ W : World, (Instr.slice 9 (.string s) (some (.int .i64 ((m : Int) + 1))) none none).run Tryd.prog W = .ok (.string s1) W := fun W => by
          rw [run_slice_string_l W 9 s str_kind .i64 (m + 1) (by omega) (by omega), hs1]
          rfl
        have WR : IntKind.i64.wrap ((m : Int) + 1) = (m : Int) + 1 := IntWalk.i64_in _ (by omega)
        obtain ⟨cs, hcs'⟩ : ∃ cs : ByteArray, cs = ⟨#[c]⟩ := ⟨_, rfl⟩
        have zc : cs.size = 1 := by rw [hcs']; rfl
        rw [← hcs'] at CV
        obtain ⟨p1, hp1⟩ : ∃ p1 : ByteArray, p1 = s0 ++ cs := ⟨_, rfl⟩
        have zp1 : p1.size = m + 1 := by rw [hp1, ByteArray.size_append]; omega
        obtain ⟨p2, hp2⟩ : ∃ p2 : ByteArray, p2 = p1 ++ s1 := ⟨_, rfl⟩
        have zp2 : p2.size = s.size := by rw [hp2, ByteArray.size_append]; omega
        have e1 := add_str s0 cs p1 hp1 (by omega)
        have e2 := add_str p1 s1 p2 hp2 (by omega)
        have DP := Lib.hid (fun W => Digest_any p2 W (by unfold maxLen; omega))
        have hdif : Hid (dgL dg0 p2.data.toList ≠ dv) := Lib.hid (by
          have e3 : p2.data.toList = s.data.toList.take m ++ c :: s.data.toList.drop (m + 1) := by
            rw [hp2, cat_size, hp1, cat_size, hs0, hs1, hcs']
            have x0 : (s.extract 0 m).data.toList = s.data.toList.take m := by rw [ByteArray.data_extract, Array.toList_extract]; simp [List.extract_eq_take_drop]
            have x1 : (s.extract (m + 1) s.size).data.toList = s.data.toList.drop (m + 1) := by
              rw [ByteArray.data_extract, Array.toList_extract, List.extract_eq_take_drop]
              apply List.take_of_length_le
              rw [List.length_drop, Array.length_toList]
              exact Nat.le_refl _
            rw [x0, x1]
            simp
          have e4 : s.data.toList = s.data.toList.take m ++ s[m] :: s.data.toList.drop (m + 1) := by
            have hm : m < s.data.toList.length := by rw [Array.length_toList]; exact ham
            conv => lhs; rw [← List.take_append_drop m s.data.toList]
            rw [List.drop_eq_getElem_cons hm]
            rfl
          rw [e3, HDV.out, e4]
          have := dg_differ dg0_lt (s.data.toList.take m) (s.data.toList.drop (m + 1)) (b := c) (c := s[m]) (fun h => hcs h.symm)
          rw [← e4]
          rw [← e4] at this
          exact this)
        obtain ⟨dp, hdp⟩ : ∃ dp, dp = dgL dg0 p2.data.toList := ⟨_, rfl⟩
        rw [← hdp] at DP hdif
        have hne : ((dp : Int) == (dv : Int)) = false := by simpa using (fun h => hdif.out (by omega))
        clear hs0 hs1 hp1 hp2 hcs' hdp zp1 zp2 z0 z1 zc
        go_wp2_with fail
        refine wp_region_noPanic ?_
        refine wp_region_held_drew (S := fun _ => True) (by kernel_rfl) trivial (fun hHeld => ?_)
        refine wpAnyH_take (i := 0) (oi := { dst := some 30, op := Op.move (Operand.tmp 7), type := 3, pos := "law.go:350", after := #[], guard := none }) (v := .int .i64 (m : Nat)) rfl (by kernel_rfl) (by kernel_rfl) (by kernel_rfl) (fun _ _ _ h => h) (Or.inl ⟨by rfl, ?_⟩) hHeld ?_
        · intro W hSw
          go_simp
        try simp only [Act.put, List.setIfInBounds_toArray, List.set_cons_zero, List.set_cons_succ]
        refine wpAnyH_take (i := 1) (oi := { dst := some 31, op := Op.binOp BinOp.geq 3 (Operand.tmp 30) (Operand.const (Value.int IntKind.i64 0)) 3, type := 4, pos := "law.go:350", after := #[{ on := 0, ground := Ground.data }], guard := none }) (v := .bool true) rfl (by kernel_rfl) (by kernel_rfl) (by kernel_rfl) (fun _ _ _ h => h) (Or.inl ⟨by rfl, ?_⟩) hHeld ?_
        · intro W hSw
          go_simp
        try simp only [Act.put, List.setIfInBounds_toArray, List.set_cons_zero, List.set_cons_succ]
        refine wpAnyH_take (i := 2) (oi := { dst := some 32, op := Op.move (Operand.tmp 31), type := 4, pos := "law.go:350", after := #[{ on := 1, ground := Ground.data }], guard := none }) (v := .bool true) rfl (by kernel_rfl) (by kernel_rfl) (by kernel_rfl) (fun _ _ _ h => h) (Or.inl ⟨by rfl, ?_⟩) hHeld ?_
        · intro W hSw
          go_simp
        try simp only [Act.put, List.setIfInBounds_toArray, List.set_cons_zero, List.set_cons_succ]
        refine wpAnyH_take (i := 3) (oi := { dst := some 33, op := Op.move (Operand.tmp 7), type := 3, pos := "law.go:350", after := #[{ on := 2, ground := Ground.guard }], guard := some (2, true) }) (v := .int .i64 (m : Nat)) rfl (by kernel_rfl) (by kernel_rfl) (by kernel_rfl) (fun _ _ _ h => h) (Or.inl ⟨by rfl, ?_⟩) hHeld ?_
        · intro W hSw
          go_simp
        try simp only [Act.put, List.setIfInBounds_toArray, List.set_cons_zero, List.set_cons_succ]
        refine wpAnyH_take (i := 4) (oi := { dst := some 34, op := Op.move (Operand.tmp 0), type := 9, pos := "law.go:350", after := #[{ on := 2, ground := Ground.guard }], guard := some (2, true) }) (v := .string s) rfl (by kernel_rfl) (by kernel_rfl) (by kernel_rfl) (fun _ _ _ h => h) (Or.inl ⟨by rfl, ?_⟩) hHeld ?_
        · intro W hSw
          go_simp
        try simp only [Act.put, List.setIfInBounds_toArray, List.set_cons_zero, List.set_cons_succ]
        refine wpAnyH_take (i := 5) (oi := { dst := some 35, op := Op.call { callee := Callee.builtin Builtin.len, args := #[Operand.tmp 34], argTypes := #[9] }, type := 3, pos := "law.go:350", after := #[{ on := 4, ground := Ground.data }, { on := 2, ground := Ground.guard }], guard := some (2, true) }) (v := .int .i64 (s.size : Nat)) rfl (by kernel_rfl) (by kernel_rfl) (by kernel_rfl) (fun _ _ _ h => h) (Or.inl ⟨by rfl, ?_⟩) hHeld ?_
        · intro W hSw
          go_simp
        try simp only [Act.put, List.setIfInBounds_toArray, List.set_cons_zero, List.set_cons_succ]
        refine wpAnyH_take (i := 6) (oi := { dst := some 36, op := Op.binOp BinOp.lss 3 (Operand.tmp 33) (Operand.tmp 35) 3, type := 4, pos := "law.go:350", after := #[{ on := 3, ground := Ground.data }, { on := 5, ground := Ground.data }, { on := 2, ground := Ground.guard }], guard := some (2, true) }) (v := .bool true) rfl (by kernel_rfl) (by kernel_rfl) (by kernel_rfl) (fun _ _ _ h => h) (Or.inl ⟨by rfl, ?_⟩) hHeld ?_
        · intro W hSw
          go_simp
        try simp only [Act.put, List.setIfInBounds_toArray, List.set_cons_zero, List.set_cons_succ]
        refine wpAnyH_take (i := 7) (oi := { dst := some 37, op := Op.pick (Operand.tmp 32) (Operand.tmp 36) (Operand.const (Value.bool false)), type := 4, pos := "law.go:350", after := #[{ on := 2, ground := Ground.data }, { on := 6, ground := Ground.data }], guard := none }) (v := .bool true) rfl (by kernel_rfl) (by kernel_rfl) (by kernel_rfl) (fun _ _ _ h => h) (Or.inl ⟨by rfl, ?_⟩) hHeld ?_
        · intro W hSw
          go_simp
        try simp only [Act.put, List.setIfInBounds_toArray, List.set_cons_zero, List.set_cons_succ]
        refine wpAnyH_take (i := 8) (oi := { dst := some 38, op := Op.move (Operand.tmp 37), type := 4, pos := "law.go:350", after := #[{ on := 7, ground := Ground.data }, { on := 2, ground := Ground.chain }], guard := none }) (v := .bool true) rfl (by kernel_rfl) (by kernel_rfl) (by kernel_rfl) (fun _ _ _ h => h) (Or.inl ⟨by rfl, ?_⟩) hHeld ?_
        · intro W hSw
          go_simp
        try simp only [Act.put, List.setIfInBounds_toArray, List.set_cons_zero, List.set_cons_succ]
        refine wpAnyH_take (i := 9) (oi := { dst := some 39, op := Op.move (Operand.tmp 0), type := 9, pos := "law.go:350", after := #[{ on := 8, ground := Ground.guard }], guard := some (8, true) }) (v := .string s) rfl (by kernel_rfl) (by kernel_rfl) (by kernel_rfl) (fun _ _ _ h => h) (Or.inl ⟨by rfl, ?_⟩) hHeld ?_
        · intro W hSw
          go_simp
        try simp only [Act.put, List.setIfInBounds_toArray, List.set_cons_zero, List.set_cons_succ]
        refine wpAnyH_take (i := 10) (oi := { dst := some 40, op := Op.move (Operand.tmp 7), type := 3, pos := "law.go:350", after := #[{ on := 8, ground := Ground.guard }], guard := some (8, true) }) (v := .int .i64 (m : Nat)) rfl (by kernel_rfl) (by kernel_rfl) (by kernel_rfl) (fun _ _ _ h => h) (Or.inl ⟨by rfl, ?_⟩) hHeld ?_
        · intro W hSw
          go_simp
        try simp only [Act.put, List.setIfInBounds_toArray, List.set_cons_zero, List.set_cons_succ]
        refine wpAnyH_take (i := 12) (oi := { dst := some 42, op := Op.move (Operand.tmp 8), type := 5, pos := "law.go:350", after := #[{ on := 8, ground := Ground.guard }], guard := some (8, true) }) (v := .int .u8 (c.toNat : Nat)) rfl (by kernel_rfl) (by kernel_rfl) (by kernel_rfl) (fun _ _ _ h => h) (Or.inl ⟨by rfl, ?_⟩) hHeld ?_
        · intro W hSw
          go_simp
        try simp only [Act.put, List.setIfInBounds_toArray, List.set_cons_zero, List.set_cons_succ]
        refine wpAnyH_ready (rs := [11]) (by kernel_rfl) (by simp) ?_
        refine AllReadyH.cons (i := 11) (o := { dst := some 41, op := Op.index 9 (Operand.tmp 39) (Operand.tmp 40), type := 5, pos := "law.go:350", after := #[{ on := 9, ground := Ground.data }, { on := 10, ground := Ground.data }, { on := 8, ground := Ground.guard }], guard := some (8, true) }) rfl (fun K hK => ?_) AllReadyH.nil
        rw [if_pos (by rfl)]
        go_simp
        refine hK.out _ _ trivial (fun hHeld => ?_)
        clear hK K
        try simp only [Act.put, List.setIfInBounds_toArray, List.set_cons_zero, List.set_cons_succ]
        refine wpAnyH_take (i := 13) (oi := { dst := some 43, op := Op.binOp BinOp.neq 5 (Operand.tmp 41) (Operand.tmp 42) 5, type := 4, pos := "law.go:350", after := #[{ on := 11, ground := Ground.data }, { on := 12, ground := Ground.data }, { on := 8, ground := Ground.guard }], guard := some (8, true) }) (v := .bool true) rfl (by kernel_rfl) (by kernel_rfl) (by kernel_rfl) (fun _ _ _ h => h) (Or.inl ⟨by rfl, ?_⟩) hHeld ?_
        · intro W hSw
          go_simp
        try simp only [Act.put, List.setIfInBounds_toArray, List.set_cons_zero, List.set_cons_succ]
        refine wpAnyH_take (i := 14) (oi := { dst := some 44, op := Op.pick (Operand.tmp 38) (Operand.tmp 43) (Operand.const (Value.bool false)), type := 4, pos := "law.go:350", after := #[{ on := 8, ground := Ground.data }, { on := 13, ground := Ground.data }], guard := none }) (v := .bool true) rfl (by kernel_rfl) (by kernel_rfl) (by kernel_rfl) (fun _ _ _ h => h) (Or.inl ⟨by rfl, ?_⟩) hHeld ?_
        · intro W hSw
          go_simp
        try simp only [Act.put, List.setIfInBounds_toArray, List.set_cons_zero, List.set_cons_succ]
        refine wpAnyH_take (i := 15) (oi := { dst := some 45, op := Op.move (Operand.tmp 44), type := 4, pos := "law.go:350", after := #[{ on := 14, ground := Ground.data }, { on := 8, ground := Ground.chain }], guard := none }) (v := .bool true) rfl (by kernel_rfl) (by kernel_rfl) (by kernel_rfl) (fun _ _ _ h => h) (Or.inl ⟨by rfl, ?_⟩) hHeld ?_
        · intro W hSw
          go_simp
        try simp only [Act.put, List.setIfInBounds_toArray, List.set_cons_zero, List.set_cons_succ]
        refine wpAnyH_take (i := 16) (oi := { dst := some 46, op := Op.move (Operand.tmp 0), type := 9, pos := "law.go:350", after := #[{ on := 15, ground := Ground.guard }], guard := some (15, true) }) (v := .string s) rfl (by kernel_rfl) (by kernel_rfl) (by kernel_rfl) (fun _ _ _ h => h) (Or.inl ⟨by rfl, ?_⟩) hHeld ?_
        · intro W hSw
          go_simp
        try simp only [Act.put, List.setIfInBounds_toArray, List.set_cons_zero, List.set_cons_succ]
        refine wpAnyH_take (i := 17) (oi := { dst := some 47, op := Op.move (Operand.tmp 7), type := 3, pos := "law.go:350", after := #[{ on := 15, ground := Ground.guard }], guard := some (15, true) }) (v := .int .i64 (m : Nat)) rfl (by kernel_rfl) (by kernel_rfl) (by kernel_rfl) (fun _ _ _ h => h) (Or.inl ⟨by rfl, ?_⟩) hHeld ?_
        · intro W hSw
          go_simp
        try simp only [Act.put, List.setIfInBounds_toArray, List.set_cons_zero, List.set_cons_succ]
        refine wpAnyH_take (i := 18) (oi := { dst := some 48, op := Op.slice 9 (Operand.tmp 46) none (some (Operand.tmp 47)) none, type := 9, pos := "law.go:350", after := #[{ on := 16, ground := Ground.data }, { on := 17, ground := Ground.data }, { on := 15, ground := Ground.guard }], guard := some (15, true) }) (v := .string s0) rfl (by kernel_rfl) (by kernel_rfl) (by kernel_rfl) (fun _ _ _ h => h) (Or.inl ⟨by rfl, ?_⟩) hHeld ?_
        · intro W hSw
          go_simp
        try simp only [Act.put, List.setIfInBounds_toArray, List.set_cons_zero, List.set_cons_succ]
        refine wpAnyH_take (i := 19) (oi := { dst := some 49, op := Op.move (Operand.tmp 8), type := 5, pos := "law.go:350", after := #[{ on := 15, ground := Ground.guard }], guard := some (15, true) }) (v := .int .u8 (c.toNat : Nat)) rfl (by kernel_rfl) (by kernel_rfl) (by kernel_rfl) (fun _ _ _ h => h) (Or.inl ⟨by rfl, ?_⟩) hHeld ?_
        · intro W hSw
          go_simp
        try simp only [Act.put, List.setIfInBounds_toArray, List.set_cons_zero, List.set_cons_succ]
        refine wpAnyH_take (i := 23) (oi := { dst := some 53, op := Op.move (Operand.tmp 0), type := 9, pos := "law.go:350", after := #[{ on := 15, ground := Ground.guard }], guard := some (15, true) }) (v := .string s) rfl (by kernel_rfl) (by kernel_rfl) (by kernel_rfl) (fun _ _ _ h => h) (Or.inl ⟨by rfl, ?_⟩) hHeld ?_
        · intro W hSw
          go_simp
        try simp only [Act.put, List.setIfInBounds_toArray, List.set_cons_zero, List.set_cons_succ]
        refine wpAnyH_take (i := 24) (oi := { dst := some 54, op := Op.move (Operand.tmp 7), type := 3, pos := "law.go:350", after := #[{ on := 15, ground := Ground.guard }], guard := some (15, true) }) (v := .int .i64 (m : Nat)) rfl (by kernel_rfl) (by kernel_rfl) (by kernel_rfl) (fun _ _ _ h => h) (Or.inl ⟨by rfl, ?_⟩) hHeld ?_
        · intro W hSw
          go_simp
        try simp only [Act.put, List.setIfInBounds_toArray, List.set_cons_zero, List.set_cons_succ]
        refine wpAnyH_take (i := 25) (oi := { dst := some 55, op := Op.binOp BinOp.add 3 (Operand.tmp 54) (Operand.const (Value.int IntKind.i64 1)) 3, type := 3, pos := "law.go:350", after := #[{ on := 24, ground := Ground.data }, { on := 15, ground := Ground.guard }], guard := some (15, true) }) (v := .int .i64 ((m : Int) + 1)) rfl (by kernel_rfl) (by kernel_rfl) (by kernel_rfl) (fun _ _ _ h => h) (Or.inl ⟨by rfl, ?_⟩) hHeld ?_
        · intro W hSw
          go_simp
        try simp only [Act.put, List.setIfInBounds_toArray, List.set_cons_zero, List.set_cons_succ]
        refine wpAnyH_take (i := 26) (oi := { dst := some 56, op := Op.slice 9 (Operand.tmp 53) (some (Operand.tmp 55)) none none, type := 9, pos := "law.go:350", after := #[{ on := 23, ground := Ground.data }, { on := 25, ground := Ground.data }, { on := 15, ground := Ground.guard }], guard := some (15, true) }) (v := .string s1) rfl (by kernel_rfl) (by kernel_rfl) (by kernel_rfl) (fun _ _ _ h => h) (Or.inl ⟨by rfl, ?_⟩) hHeld ?_
        · intro W hSw
          go_simp
        try simp only [Act.put, List.setIfInBounds_toArray, List.set_cons_zero, List.set_cons_succ]
        refine wpAnyH_take (i := 29) (oi := { dst := some 59, op := Op.move (Operand.tmp 0), type := 9, pos := "law.go:350", after := #[{ on := 15, ground := Ground.guard }], guard := some (15, true) }) (v := .string s) rfl (by kernel_rfl) (by kernel_rfl) (by kernel_rfl) (fun _ _ _ h => h) (Or.inl ⟨by rfl, ?_⟩) hHeld ?_
        · intro W hSw
          go_simp
        try simp only [Act.put, List.setIfInBounds_toArray, List.set_cons_zero, List.set_cons_succ]
        refine wpAnyH_ready (rs := [20]) (by kernel_rfl) (by simp) ?_
        refine AllReadyH.cons (i := 20) (o := { dst := some 50, op := Op.buildSlice 27 1 #[(0, Operand.tmp 49)], type := 27, pos := "law.go:350", after := #[{ on := 19, ground := Ground.data }, { on := 15, ground := Ground.guard }], guard := some (15, true) }) rfl (fun K hK => ?_) AllReadyH.nil
        rw [if_pos (by rfl)]
        go_simp
        refine hK.out _ _ trivial (fun hHeld => ?_)
        clear hK K
        try simp only [Act.put, List.setIfInBounds_toArray, List.set_cons_zero, List.set_cons_succ]
        refine wpAnyH_ready (rs := [21]) (by kernel_rfl) (by simp) ?_
        refine AllReadyH.cons (i := 21) (o := { dst := some 51, op := Op.convert 27 9 (Operand.tmp 50), type := 9, pos := "law.go:350", after := #[{ on := 20, ground := Ground.data }, { on := 15, ground := Ground.guard }], guard := some (15, true) }) rfl (fun K hK => ?_) AllReadyH.nil
        rw [if_pos (by rfl)]
        go_simp
        refine hK.out _ _ trivial (fun hHeld => ?_)
        clear hK K
        try simp only [Act.put, List.setIfInBounds_toArray, List.set_cons_zero, List.set_cons_succ]
        refine wpAnyH_take (i := 22) (oi := { dst := some 52, op := Op.binOp BinOp.add 9 (Operand.tmp 48) (Operand.tmp 51) 9, type := 9, pos := "law.go:350", after := #[{ on := 18, ground := Ground.data }, { on := 21, ground := Ground.data }, { on := 15, ground := Ground.guard }], guard := some (15, true) }) (v := .string p1) rfl (by kernel_rfl) (by kernel_rfl) (by kernel_rfl) (fun _ _ _ h => h) (Or.inl ⟨by rfl, ?_⟩) hHeld ?_
        · intro W hSw
          go_simp
        try simp only [Act.put, List.setIfInBounds_toArray, List.set_cons_zero, List.set_cons_succ]
        refine wpAnyH_take (i := 27) (oi := { dst := some 57, op := Op.binOp BinOp.add 9 (Operand.tmp 52) (Operand.tmp 56) 9, type := 9, pos := "law.go:350", after := #[{ on := 22, ground := Ground.data }, { on := 26, ground := Ground.data }, { on := 15, ground := Ground.guard }], guard := some (15, true) }) (v := .string p2) rfl (by kernel_rfl) (by kernel_rfl) (by kernel_rfl) (fun _ _ _ h => h) (Or.inl ⟨by rfl, ?_⟩) hHeld ?_
        · intro W hSw
          go_simp
        try simp only [Act.put, List.setIfInBounds_toArray, List.set_cons_zero, List.set_cons_succ]
        refine wpAnyH_ready (rs := [28]) (by kernel_rfl) (by simp) ?_
        refine AllReadyH.cons (i := 28) (o := { dst := some 58, op := Op.call { callee := Callee.value (Operand.func 5), args := #[Operand.tmp 57], argTypes := #[9] }, type := 22, pos := "law.go:350", after := #[{ on := 27, ground := Ground.data }, { on := 15, ground := Ground.chain }, { on := 15, ground := Ground.guard }], guard := some (15, true) }) rfl (fun K hK => ?_) AllReadyH.nil
        refine step_at (Eq.refl true) ?_
        go_simp
        go_at_call 5
        refine (DP.out _).mono ?_
        rintro e w7 ⟨rfl, rfl⟩
        dsimp only
        refine hK.out _ _ trivial (fun hHeld => ?_)
        clear hK K
        try simp only [Act.put, List.setIfInBounds_toArray, List.set_cons_zero, List.set_cons_succ]
        refine wpAnyH_ready (rs := [30]) (by kernel_rfl) (by simp) ?_
        refine AllReadyH.cons (i := 30) (o := { dst := some 60, op := Op.call { callee := Callee.value (Operand.func 5), args := #[Operand.tmp 59], argTypes := #[9] }, type := 22, pos := "law.go:350", after := #[{ on := 29, ground := Ground.data }, { on := 28, ground := Ground.chain }, { on := 15, ground := Ground.guard }], guard := some (15, true) }) rfl (fun K hK => ?_) AllReadyH.nil
        refine step_at (Eq.refl true) ?_
        go_simp
        go_at_call 5
        refine (DG.out _).mono ?_
        rintro e w7 ⟨rfl, rfl⟩
        dsimp only
        refine hK.out _ _ trivial (fun hHeld => ?_)
        clear hK K
        try simp only [Act.put, List.setIfInBounds_toArray, List.set_cons_zero, List.set_cons_succ]
        refine wpAnyH_take (i := 31) (oi := { dst := some 61, op := Op.binOp BinOp.eql 22 (Operand.tmp 58) (Operand.tmp 60) 22, type := 4, pos := "law.go:350", after := #[{ on := 28, ground := Ground.data }, { on := 30, ground := Ground.data }, { on := 15, ground := Ground.guard }], guard := some (15, true) }) (v := .bool false) rfl (by kernel_rfl) (by kernel_rfl) (by kernel_rfl) (fun _ _ _ h => h) (Or.inl ⟨by rfl, ?_⟩) hHeld ?_
        · intro W hSw
          go_simp
        try simp only [Act.put, List.setIfInBounds_toArray, List.set_cons_zero, List.set_cons_succ]
        refine wpAnyH_take (i := 32) (oi := { dst := some 62, op := Op.pick (Operand.tmp 45) (Operand.tmp 61) (Operand.const (Value.bool false)), type := 4, pos := "law.go:350", after := #[{ on := 15, ground := Ground.data }, { on := 31, ground := Ground.data }], guard := none }) (v := .bool false) rfl (by kernel_rfl) (by kernel_rfl) (by kernel_rfl) (fun _ _ _ h => h) (Or.inl ⟨by rfl, ?_⟩) hHeld ?_
        · intro W hSw
          go_simp
        try simp only [Act.put, List.setIfInBounds_toArray, List.set_cons_zero, List.set_cons_succ]
        refine wpAnyH_done (by kernel_rfl) ?_ _
        refine NoPanic.normal ?_
        all_goals
          have B4 : Hid (Below w.heap.size w (w3.alloc (.cells #[.int .u8 (c.toNat : Nat)] 5)).drew) := Lib.hid ((B3.out.alloc B3.out.size _).drew)
          go_wp2_with fail
          refine (AW.out _ B4.out).mono ?_
          rintro e w5 ⟨rfl, b5⟩
          have B5 := Lib.hid (Below.up B4.out b5)
          clear b5
          go_wp2_with fail
          go_ret
          exact ⟨rfl, B5.out⟩
    · go_wp2_with fail
      go_region
      all_goals
        go_wp2_with fail
        (refine (AW.out _ B3.out.drew).mono ?_)
        rintro e w5 ⟨rfl, b5⟩
        have B5 := Lib.hid (Below.up B3.out.drew b5)
        clear b5
        go_wp2_with fail
        go_ret
        exact ⟨rfl, B5.out⟩
  · have hd0 : decide (0 ≤ a) = false := decide_eq_false ha0
    have ha1 : a < 0 := by omega
    go_wp2_with fail
    go_region
    all_goals
      go_wp2_with fail
      (refine (AW.out _ B3.out.drew).mono ?_)
      rintro e w5 ⟨rfl, b5⟩
      have B5 := Lib.hid (Below.up B3.out.drew b5)
      clear b5
      go_wp2_with fail
      go_ret
      exact ⟨rfl, B5.out⟩
end Go.Proofs.YtlegacllbohbmaaDoor
