/- Layer 5: the document's frames in bytes. -/
import Derived.Test.YtanillahofohgaaRbC
set_option linter.unusedVariables false
set_option linter.unusedSimpArgs false
set_option maxRecDepth 100000
namespace Go.Proofs.Ytanillahofohgaa
open Go.RowKit

theorem number_int (n : Int) (many : Nat) (w : World) (h0 : 0 ≤ n) (hn : n ≤ 9223372036854775807) (hm : many ≤ 8) :
    Calls Try.prog 46 #[.int .i64 n, .int .i64 (many : Nat)] w fun e w' => e = .returned (.string (str (beL n.toNat many))) ∧ Below w.heap.size w w' := by
  obtain ⟨k, rfl⟩ : ∃ k : Nat, n = (k : Int) := ⟨n.toNat, by omega⟩
  rw [Int.toNat_natCast]
  exact number_any k many w (by omega) hm
set_option maxHeartbeats 1600000 in
theorem checked_any (l : List UInt8) (w : World) (hl : l.length ≤ 1000000) :
    Calls Try.prog 47 #[.string (str l)] w fun e w' => e = .returned (.string (str (shutL l))) ∧ Below w.heap.size w w' := by
  have CR := Lib.hid (refCrc_any (str l) w (by rw [str_size]; unfold maxLen; omega))
  rw [str_list] at CR
  have hc := crc0_lt l
  have NB := Lib.hid (number_any (crc0 l) 2 w (by omega) (by decide))
  have AD := add_two l (beL (crc0 l) 2) (by rw [beL_len]; omega)
  have HS : Hid (shutL l = l ++ beL (crc0 l) 2) := Lib.hid rfl
  generalize crc0 l = c at *
  generalize beL c 2 = y at *
  rw [← HS.out] at AD
  go_enter Try.func47, Try.ntmps47
  go_wp2_with (first
    | (go_at_call 26; refine CR.out.mono ?_; rintro e w1 ⟨rfl, rfl⟩)
    | (go_at_call 46; refine NB.out.mono ?_; rintro e w1 ⟨rfl, b1⟩; have B1 := Lib.hid b1; clear b1))
  go_ret
  exact ⟨rfl, B1.out⟩

set_option maxHeartbeats 6400000 in
theorem refPack_any (f : Fr) (v : Value) (w : World) (h : HiS w v f.hs) (hl : f.hs.length ≤ 1099511627776) :
    Calls Try.prog 19 #[f.val v] w fun e w' => e = .returned (.tuple #[.string (str (packB f)), .int .i64 (packErr f)]) ∧ Below w.heap.size w w' := by
  have H := Lib.hid h
  obtain ⟨a, cap, rfl, hc⟩ := h.form
  clear h
  have hf : f.val (.slice a f.hs.length cap) = .agg #[.int .i64 f.l, .int .i64 f.s, .int .i64 f.e, .int .i64 f.t, .slice a f.hs.length cap] := rfl
  have b0 : Below w.heap.size w (w.alloc (.cells #[.int .i64 f.l, .int .i64 f.s, .int .i64 f.e, .int .i64 f.t, .slice a f.hs.length cap] 38)) := (Below.refl _ _).alloc (Nat.le_refl _) _
  have C0 := Lib.hid (new_five w (.int .i64 f.l) (.int .i64 f.s) (.int .i64 f.e) (.int .i64 f.t) (.slice a f.hs.length cap) 38)
  obtain ⟨W0, hW0⟩ : ∃ W, W = w.alloc (.cells #[.int .i64 f.l, .int .i64 f.s, .int .i64 f.e, .int .i64 f.t, .slice a f.hs.length cap] 38) := ⟨_, rfl⟩
  rw [← hW0] at b0 C0
  have B0 := Lib.hid b0
  have CK := Lib.hid (refCheck_any f (.slice a f.hs.length cap) W0 (H.out.below b0) hl)
  rw [hf] at CK ⊢
  obtain ⟨c0, c1, c2, c3, c4⟩ := C0.out
  clear b0 hf
  cases ho : f.ok with
  | false =>
    have he : Hid (packErr f = 2 ∧ packB f = []) := Lib.hid (by unfold packErr packB; rw [ho]; exact ⟨rfl, rfl⟩)
    have h0 : Hid (str [] = ⟨#[]⟩) := Lib.hid (by unfold str; rfl)
    rw [ho] at CK
    go_enter Try.func19, Try.ntmps19
    go_wp2_with fail
    rw [← hW0]
    clear hW0
    go_wp2_with (go_at_call 21; refine CK.out.mono ?_; rintro e w1 ⟨rfl, b1⟩; have B1 := Lib.hid (Below.up B0.out b1); clear b1)
    go_ret2
    exact ⟨(by rw [he.out.1, he.out.2, h0.out]; rfl), B1.out⟩
  | true =>
    have he : Hid (packErr f = 0 ∧ packB f = packL f) := Lib.hid (by unfold packErr packB; rw [ho]; exact ⟨rfl, rfl⟩)
    obtain ⟨o1, o2, o3, o4, o5, o6⟩ := ok_bd ho
    have hb := hitsB_mem f.hs (-1) o6 (by omega)
    have NL : Hid (∀ W, Calls Try.prog 46 #[.int .i64 f.l, .int .i64 1] W fun e w' => e = .returned (.string (str (beL f.l.toNat 1))) ∧ Below W.heap.size W w') := Lib.hid (fun W => number_int f.l 1 W o1.1 (by omega) (by decide))
    have NS : Hid (∀ W, Calls Try.prog 46 #[.int .i64 f.s, .int .i64 1] W fun e w' => e = .returned (.string (str (beL f.s.toNat 1))) ∧ Below W.heap.size W w') := Lib.hid (fun W => number_int f.s 1 W o2.1 (by omega) (by decide))
    have NE : Hid (∀ W, Calls Try.prog 46 #[.int .i64 f.e, .int .i64 4] W fun e w' => e = .returned (.string (str (beL f.e.toNat 4))) ∧ Below W.heap.size W w') := Lib.hid (fun W => number_int f.e 4 W o3.1 (by omega) (by decide))
    have NT : Hid (∀ W, Calls Try.prog 46 #[.int .i64 f.t, .int .i64 6] W fun e w' => e = .returned (.string (str (beL f.t.toNat 6))) ∧ Below W.heap.size W w') := Lib.hid (fun W => number_int f.t 6 W o4.1 (by omega) (by decide))
    have NN : Hid (∀ W, Calls Try.prog 46 #[.int .i64 (f.hs.length : Nat), .int .i64 2] W fun e w' => e = .returned (.string (str (beL f.hs.length 2))) ∧ Below W.heap.size W w') := Lib.hid (fun W => number_any f.hs.length 2 W (by omega) (by decide))
    have N2 : Hid (∀ (n : Int) W, 0 ≤ n → n ≤ 4095 → Calls Try.prog 46 #[.int .i64 n, .int .i64 2] W fun e w' => e = .returned (.string (str (beL n.toNat 2))) ∧ Below W.heap.size W w') := Lib.hid (fun n W h0 h1 => number_int n 2 W h0 (by omega) (by decide))
    have HB := Lib.hid hb
    have hHL : Hid (headL f = ((((([90, 195] ++ beL f.l.toNat 1) ++ beL f.s.toNat 1) ++ beL f.e.toNat 4) ++ beL f.t.toNat 6) ++ beL f.hs.length 2)) := Lib.hid rfl
    have hPL : Hid (packL f = shutL (headL f) ++ shutL (hbL f.hs)) := Lib.hid rfl
    have hbl := hbL_len f.hs
    rw [ho] at CK
    clear ho o1 o2 o3 o4 o6 hb
    go_enter Try.func19, Try.ntmps19
    go_wp2_with fail
    rw [← hW0]
    clear hW0
    go_wp2_with (go_at_call 21; refine CK.out.mono ?_; rintro e w1 ⟨rfl, b1⟩; have B1 := Lib.hid (Below.up B0.out b1); replace c0 := bc b1 c0; replace c1 := bc b1 c1; replace c2 := bc b1 c2; replace c3 := bc b1 c3; replace c4 := bc b1 c4; clear b1)
    have h0 : Hid (str (hbL (f.hs.take 0)) = ⟨#[]⟩) := Lib.hid (by unfold str; simp [hbL])
    clear CK C0
    go_loopw [4, 5] (fun s i wr => ∃ k : Nat, k ≤ f.hs.length ∧ i = .int .i64 k ∧ s = .string (str (hbL (f.hs.take k))) ∧ Hid (Below w1.heap.size w1 wr)) (fun _ i _ => f.hs.length - (intOf i).toNat)
    case atStart => exact ⟨0, Nat.zero_le _, rfl, by rw [h0.out], Lib.hid (Below.refl _ _)⟩
    case round =>
      obtain ⟨k, hk, rfl, rfl, BL⟩ := hrel
      replace c0 := bc BL.out c0
      replace c1 := bc BL.out c1
      replace c2 := bc BL.out c2
      replace c3 := bc BL.out c3
      replace c4 := bc BL.out c4
      by_cases hlt : k < f.hs.length
      · obtain ⟨b1, o1, rfl, hb1, ⟨hi1, hi1'⟩, d1, d1'⟩ := (H.out.below (Below.up B1.out BL.out)).at hlt
        have hx := HB.out f.hs[k] (List.getElem_mem hlt)
        have HT := Lib.hid (hbL_take f.hs k hlt)
        have hln := hbL_len (f.hs.take k)
        rw [List.length_take, Nat.min_eq_left hk] at hln
        generalize hbL (f.hs.take k) = y at *
        generalize (f.hs[k]).1 = A1 at *
        generalize (f.hs[k]).2 = A2 at *
        have K1 := Lib.hid (fun W => N2.out A1 W hx.1.1 hx.1.2)
        have K2 := Lib.hid (fun W => N2.out A2 W (by omega) hx.2.2)
        have l1 := beL_len A1.toNat 2
        have l2 := beL_len A2.toNat 2
        generalize beL A1.toNat 2 = y1 at *
        generalize beL A2.toNat 2 = y2 at *
        have AD1 := add_two y y1 (by omega)
        have AD2 := add_two (y ++ y1) y2 (by rw [List.length_append]; omega)
        rw [List.append_assoc] at AD2
        have HT2 : Hid (hbL (f.hs.take (k + 1)) = y ++ (y1 ++ y2)) := HT
        clear hln l1 l2 hi1 hi1' hx HT
        go_wp2_with fail
        have S0 : Hid (wr.drew.cell? ⟨w.heap.size, 4, none⟩ = some (.slice (some ⟨b1, o1, none⟩) f.hs.length cap) ∧ wr.drew.cell? ⟨b1, o1 + k * 2, none⟩ = some (.int .i64 A1) ∧ wr.drew.cell? ⟨b1, o1 + k * 2 + 1, none⟩ = some (.int .i64 A2)) := Lib.hid ⟨c4, d1, d1'⟩
        have BD := Lib.hid BL.out.drew
        clear c0 c1 c2 c3 c4 d1 d1'
        go_region_held3 (fun W => W.cell? ⟨w.heap.size, 4, none⟩ = some (.slice (some ⟨b1, o1, none⟩) f.hs.length cap) ∧ W.cell? ⟨b1, o1 + k * 2, none⟩ = some (.int .i64 A1) ∧ W.cell? ⟨b1, o1 + k * 2 + 1, none⟩ = some (.int .i64 A2))
          (first | exact S0.out | exact S1.out | exact S2.out)
          (first
            | (go_at_call 46; ((with_reducible refine (K1.out _).mono ?_); rintro en w2 ⟨rfl, b2⟩; have BD1 := Lib.hid (Below.up BD.out b2); have S1 := Lib.hid (show w2.cell? ⟨w.heap.size, 4, none⟩ = some (.slice (some ⟨b1, o1, none⟩) f.hs.length cap) ∧ w2.cell? ⟨b1, o1 + k * 2, none⟩ = some (.int .i64 A1) ∧ w2.cell? ⟨b1, o1 + k * 2 + 1, none⟩ = some (.int .i64 A2) from ⟨bc b2 S0.out.1, bc b2 S0.out.2.1, bc b2 S0.out.2.2⟩); clear b2))
            | (go_at_call 46; ((with_reducible refine (K2.out _).mono ?_); rintro en w3 ⟨rfl, b3⟩; have BD2 := Lib.hid (Below.up BD1.out b3); have S2 := Lib.hid (show w3.cell? ⟨w.heap.size, 4, none⟩ = some (.slice (some ⟨b1, o1, none⟩) f.hs.length cap) ∧ w3.cell? ⟨b1, o1 + k * 2, none⟩ = some (.int .i64 A1) ∧ w3.cell? ⟨b1, o1 + k * 2 + 1, none⟩ = some (.int .i64 A2) from ⟨bc b3 S1.out.1, bc b3 S1.out.2.1, bc b3 S1.out.2.2⟩); clear b3)))
        all_goals
          go_wp2_with fail
          go_roundw
          case rel => exact ⟨k + 1, by omega, by go_num, by rw [HT2.out], BD2⟩
          case measure => simp [intOf]; omega
      · obtain rfl : k = f.hs.length := by omega
        have ht : Hid (f.hs.take f.hs.length = f.hs) := Lib.hid (List.take_of_length_le (Nat.le_refl _))
        rw [ht.out]
        have hll := headL_len f
        have KH := Lib.hid (fun W => checked_any (headL f) W (by omega))
        have KB := Lib.hid (fun W => checked_any (hbL f.hs) W (by omega))
        have m1 := beL_len f.l.toNat 1
        have m2 := beL_len f.s.toNat 1
        have m3 := beL_len f.e.toNat 4
        have m4 := beL_len f.t.toNat 6
        have m5 := beL_len f.hs.length 2
        have sl1 := shutL_len (headL f)
        have sl2 := shutL_len (hbL f.hs)
        have AD0 := add_two [90, 195] (beL f.l.toNat 1) (by rw [m1]; simp)
        rw [show str [90, 195] = ⟨#[90, 195]⟩ by unfold str; rfl] at AD0
        have AD1 := add_two ([90, 195] ++ beL f.l.toNat 1) (beL f.s.toNat 1) (by simp only [List.length_append, m1, m2]; decide)
        have AD2 := add_two ([90, 195] ++ beL f.l.toNat 1 ++ beL f.s.toNat 1) (beL f.e.toNat 4) (by simp only [List.length_append, m1, m2, m3]; decide)
        have AD3 := add_two ([90, 195] ++ beL f.l.toNat 1 ++ beL f.s.toNat 1 ++ beL f.e.toNat 4) (beL f.t.toNat 6) (by simp only [List.length_append, m1, m2, m3, m4]; decide)
        have AD4 := add_two ([90, 195] ++ beL f.l.toNat 1 ++ beL f.s.toNat 1 ++ beL f.e.toNat 4 ++ beL f.t.toNat 6) (beL f.hs.length 2) (by simp only [List.length_append, m1, m2, m3, m4, m5]; decide)
        have AD5 := add_two (shutL (headL f)) (shutL (hbL f.hs)) (by omega)
        rw [← hHL.out] at AD4
        rw [← hPL.out] at AD5
        generalize [90, 195] ++ beL f.l.toNat 1 ++ beL f.s.toNat 1 ++ beL f.e.toNat 4 ++ beL f.t.toNat 6 = z4 at *
        generalize [90, 195] ++ beL f.l.toNat 1 ++ beL f.s.toNat 1 ++ beL f.e.toNat 4 = z3 at *
        generalize [90, 195] ++ beL f.l.toNat 1 ++ beL f.s.toNat 1 = z2 at *
        generalize [90, 195] ++ beL f.l.toNat 1 = z1 at *
        generalize beL f.l.toNat 1 = x1 at *
        generalize beL f.s.toNat 1 = x2 at *
        generalize beL f.e.toNat 4 = x3 at *
        generalize beL f.t.toNat 6 = x4 at *
        generalize beL f.hs.length 2 = x5 at *
        generalize headL f = hd at *
        generalize hbL f.hs = hb at *
        clear hHL hPL hll m1 m2 m3 m4 m5 sl1 sl2 hbl
        go_wp2_with fail
        have S0 : Hid (wr.drew.cell? ⟨w.heap.size, 0, none⟩ = some (.int .i64 f.l) ∧ wr.drew.cell? ⟨w.heap.size, 1, none⟩ = some (.int .i64 f.s) ∧ wr.drew.cell? ⟨w.heap.size, 2, none⟩ = some (.int .i64 f.e) ∧ wr.drew.cell? ⟨w.heap.size, 3, none⟩ = some (.int .i64 f.t) ∧ wr.drew.cell? ⟨w.heap.size, 4, none⟩ = some (.slice a f.hs.length cap)) := Lib.hid ⟨c0, c1, c2, c3, c4⟩
        have ST : Hid (∀ W W' : World, (W.cell? ⟨w.heap.size, 0, none⟩ = some (.int .i64 f.l) ∧ W.cell? ⟨w.heap.size, 1, none⟩ = some (.int .i64 f.s) ∧ W.cell? ⟨w.heap.size, 2, none⟩ = some (.int .i64 f.e) ∧ W.cell? ⟨w.heap.size, 3, none⟩ = some (.int .i64 f.t) ∧ W.cell? ⟨w.heap.size, 4, none⟩ = some (.slice a f.hs.length cap)) → Below W.heap.size W W' → (W'.cell? ⟨w.heap.size, 0, none⟩ = some (.int .i64 f.l) ∧ W'.cell? ⟨w.heap.size, 1, none⟩ = some (.int .i64 f.s) ∧ W'.cell? ⟨w.heap.size, 2, none⟩ = some (.int .i64 f.e) ∧ W'.cell? ⟨w.heap.size, 3, none⟩ = some (.int .i64 f.t) ∧ W'.cell? ⟨w.heap.size, 4, none⟩ = some (.slice a f.hs.length cap))) :=
          Lib.hid (fun W W' h b => ⟨bc b h.1, bc b h.2.1, bc b h.2.2.1, bc b h.2.2.2.1, bc b h.2.2.2.2⟩)
        have BK := Lib.hid (Below.up B1.out BL.out.drew)
        clear c0 c1 c2 c3 c4
        go_region_held3 (fun W => W.cell? ⟨w.heap.size, 0, none⟩ = some (.int .i64 f.l) ∧ W.cell? ⟨w.heap.size, 1, none⟩ = some (.int .i64 f.s) ∧ W.cell? ⟨w.heap.size, 2, none⟩ = some (.int .i64 f.e) ∧ W.cell? ⟨w.heap.size, 3, none⟩ = some (.int .i64 f.t) ∧ W.cell? ⟨w.heap.size, 4, none⟩ = some (.slice a f.hs.length cap))
          (first | exact S0.out | exact S1.out | exact S2.out | exact S3.out | exact S4.out | exact S5.out | exact S6.out | exact S7.out)
          (first
            | (go_at_call 46; ((with_reducible refine (NL.out _).mono ?_); rintro en w2 ⟨rfl, b2⟩; have S1 := Lib.hid (ST.out _ _ S0.out b2); have BK1 := Lib.hid (Below.up BK.out b2); clear b2))
            | (go_at_call 46; ((with_reducible refine (NS.out _).mono ?_); rintro en w3 ⟨rfl, b3⟩; have S2 := Lib.hid (ST.out _ _ S1.out b3); have BK2 := Lib.hid (Below.up BK1.out b3); clear b3))
            | (go_at_call 46; ((with_reducible refine (NE.out _).mono ?_); rintro en w4 ⟨rfl, b4⟩; have S3 := Lib.hid (ST.out _ _ S2.out b4); have BK3 := Lib.hid (Below.up BK2.out b4); clear b4))
            | (go_at_call 46; ((with_reducible refine (NT.out _).mono ?_); rintro en w5 ⟨rfl, b5⟩; have S4 := Lib.hid (ST.out _ _ S3.out b5); have BK4 := Lib.hid (Below.up BK3.out b5); clear b5))
            | (go_at_call 46; ((with_reducible refine (NN.out _).mono ?_); rintro en w6 ⟨rfl, b6⟩; have S5 := Lib.hid (ST.out _ _ S4.out b6); have BK5 := Lib.hid (Below.up BK4.out b6); clear b6))
            | (go_at_call 47; ((with_reducible refine (KH.out _).mono ?_); rintro en w7 ⟨rfl, b7⟩; have S6 := Lib.hid (ST.out _ _ S5.out b7); have BK6 := Lib.hid (Below.up BK5.out b7); clear b7))
            | (go_at_call 47; ((with_reducible refine (KB.out _).mono ?_); rintro en w8 ⟨rfl, b8⟩; have S7 := Lib.hid (ST.out _ _ S6.out b8); have BK7 := Lib.hid (Below.up BK6.out b8); clear b8)))
        all_goals
          go_wp2_with fail
          go_ret2
          exact ⟨(by rw [he.out.1, he.out.2]; rfl), BK7.out⟩
end Go.Proofs.Ytanillahofohgaa
