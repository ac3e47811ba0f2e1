/- Layer 5: the law ReadoutBursts. -/
import Derived.Test.YtanillahofohgaaReA
import Derived.Test.YtanillahofohgaaRbF
import Derived.Test.YtanillahofohgaaRbG
set_option linter.unusedVariables false
set_option linter.unusedSimpArgs false
set_option maxRecDepth 100000
namespace Go.Proofs.Ytanillahofohgaa
open Go.RowKit Go.Shelf

theorem long_no {f : Fr} (h : 4096 < f.hs.length) : headB f.l f.s f.e f.t f.hs.length = false ∧ f.ok = false := by
  have h1 : headB f.l f.s f.e f.t f.hs.length = false := by
    unfold headB
    rw [decide_eq_false (by omega), Bool.and_false]
  exact ⟨h1, by unfold Fr.ok; rw [h1]; rfl⟩
theorem Check_all (f : Fr) (v : Value) (w : World) (h : HiS w v f.hs) :
    Calls Try.prog 20 #[f.val v] w fun en w' => en = .returned (.bool f.ok) ∧ Below w.heap.size w w' := by
  by_cases hl : f.hs.length ≤ 1099511627776
  · exact Check_any f v w h hl
  · obtain ⟨hh, ho⟩ := long_no (f := f) (by omega)
    rw [ho]
    obtain ⟨l, s, e, t, hs⟩ := f
    simp only at h hh
    unfold Fr.val
    simp only
    obtain ⟨a, cap, rfl, hc⟩ := h.form
    have B0 := Lib.hid ((Below.refl w.heap.size w).alloc (Nat.le_refl _) (.cells #[.int .i64 l, .int .i64 s, .int .i64 e, .int .i64 t, .slice a hs.length cap] 38))
    clear h ho hl
    go_enter Try.func20, Try.ntmps20
    go_wp2_with (go_at_call 48; refine (isHead_any _ _ _ _ _ _ _ _ _).mono ?_; rintro e w1 ⟨rfl, b1⟩; have B1 := Lib.hid (Below.up B0.out b1); clear b1; rw [hh])
    go_ret
    exact ⟨rfl, B1.out⟩
theorem Pack_all (f : Fr) (v : Value) (w : World) (h : HiS w v f.hs) :
    Calls Try.prog 18 #[f.val v] w fun e w' => e = .returned (.tuple #[.string ⟨(packB f).toArray⟩, .int .i64 (packErr f)]) ∧ Below w.heap.size w w' := by
  by_cases hl : f.hs.length ≤ 1099511627776
  · exact Pack_any f v w h hl
  · obtain ⟨hh, ho⟩ := long_no (f := f) (by omega)
    have H := Lib.hid h
    obtain ⟨a, cap, rfl, hc⟩ := h.form
    clear h
    have hf : f.val (.slice a f.hs.length cap) = .agg #[.int .i64 f.l, .int .i64 f.s, .int .i64 f.e, .int .i64 f.t, .slice a f.hs.length cap] := rfl
    have B0 := Lib.hid ((Below.refl w.heap.size w).alloc (Nat.le_refl _) (.cells #[.int .i64 f.l, .int .i64 f.s, .int .i64 f.e, .int .i64 f.t, .slice a f.hs.length cap] 38))
    have CK := Lib.hid (fun W (k : Below w.heap.size w W) => Check_all f (.slice a f.hs.length cap) W (H.out.below k))
    rw [hf] at CK ⊢
    have he : Hid (packErr f = 2 ∧ packB f = []) := Lib.hid (by unfold packErr packB; rw [ho]; exact ⟨rfl, rfl⟩)
    rw [ho] at CK
    clear hf hh ho hl
    go_enter Try.func18, Try.ntmps18
    go_wp2_with (go_at_call 20; refine (CK.out _ B0.out).mono ?_; rintro e w1 ⟨rfl, b1⟩; have B1 := Lib.hid (Below.up B0.out b1); clear b1)
    go_ret2
    exact ⟨(by rw [he.out.1, he.out.2]; rfl), B1.out⟩
def BurB (W : World) (b : Nat) (A : Int) (B : Nat) (r : List UInt8) : Prop :=
  W.cell? ⟨b, 0, none⟩ = some (.int .i64 A) ∧ W.cell? ⟨b, 1, none⟩ = some (.int .u16 (B : Nat)) ∧ W.cell? ⟨b, 2, none⟩ = some (.string (str r))
theorem BurB.below {W W' : World} {b : Nat} {A : Int} {B : Nat} {r : List UInt8} (h : BurB W b A B r) (k : Below W.heap.size W W') : BurB W' b A B r := ⟨bc k h.1, bc k h.2.1, bc k h.2.2⟩
theorem BurB.fresh (W : World) (A : Int) (B : Nat) (r : List UInt8) : BurB (W.alloc (.cells #[.int .i64 A, .int .u16 (B : Nat), .string (str r)] 50)) W.heap.size A B r := by
  unfold BurB World.cell?
  rw [show (W.alloc (.cells #[.int .i64 A, .int .u16 (B : Nat), .string (str r)] 50)).heap[W.heap.size]? = some (.cells #[.int .i64 A, .int .u16 (B : Nat), .string (str r)] 50) from _root_.Go.heap_alloc_new W _]
  exact ⟨rfl, rfl, rfl⟩
theorem BurB.other {W W' : World} {b : Nat} {A : Int} {B : Nat} {r : List UInt8} (h : BurB W b A B r) (k : W'.heap[b]? = W.heap[b]?) : BurB W' b A B r :=
  ⟨(World.cell?_of_block k).trans h.1, (World.cell?_of_block k).trans h.2.1, (World.cell?_of_block k).trans h.2.2⟩
theorem bit_div (B k : Nat) (hk : k < 16) : bitB B k = decide (B / 2 ^ (15 - k) % 2 = 1) := by
  unfold bitB
  rw [Nat.testBit_eq_decide_div_mod_eq]

set_option maxHeartbeats 6400000 in
theorem bursts_any (f : Fr) (v : Value) (A : Int) (B : Nat) (r : List UInt8) (w : World) (h : HiS w v f.hs) (hB : B < 65536) (hA : I64 A) :
    Calls Try.prog 7 #[f.val v, .agg #[.int .i64 A, .int .u16 (B : Nat), .string (str r)]] w fun e w' => e = .returned (.bool true) ∧ Below w.heap.size w w' := by
  obtain ⟨a, ca, rfl, _⟩ := h.form
  have hsz := str_size r
  have AW := Lib.hid awake_any
  obtain ⟨W1, hW1⟩ : ∃ W, W = w.alloc (.cells #[.int .i64 f.l, .int .i64 f.s, .int .i64 f.e, .int .i64 f.t, .slice a f.hs.length ca] 38) := ⟨_, rfl⟩
  have k1 : Below w.heap.size w W1 := by rw [hW1]; exact (Below.refl _ _).alloc (Nat.le_refl _) _
  have x1 : Box W1 w.heap.size f (.slice a f.hs.length ca) := by rw [hW1]; exact Box.fresh _ _ _
  have z1 : W1.heap.size = w.heap.size + 1 := by rw [hW1]; simp
  obtain ⟨W2, hW2⟩ : ∃ W, W = W1.alloc (.cells #[.int .i64 A, .int .u16 (B : Nat), .string (str r)] 50) := ⟨_, rfl⟩
  have k2 : Below W1.heap.size W1 W2 := by rw [hW2]; exact (Below.refl _ _).alloc (Nat.le_refl _) _
  have y2 : BurB W2 W1.heap.size A B r := by rw [hW2]; exact BurB.fresh _ _ _ _
  have X2 := Lib.hid (x1.below k2)
  rw [z1] at y2
  have Y2 := Lib.hid y2
  have H2 := Lib.hid ((h.below k1).below k2)
  have B2 := Lib.hid (Below.up k1 k2)
  rw [hW1] at hW2
  have hfa : f.val (.slice a f.hs.length ca) = .agg #[.int .i64 f.l, .int .i64 f.s, .int .i64 f.e, .int .i64 f.t, .slice a f.hs.length ca] := rfl
  have PK := Lib.hid (Pack_all f _ W2 H2.out)
  rw [show (⟨(packB f).toArray⟩ : ByteArray) = str (packB f) by unfold str; rfl, hfa] at PK
  rw [hfa]
  have HO : Hid (f.ok = true → packErr f = 0 ∧ packB f = packL f ∧ f.hs.length ≤ 4096) := Lib.hid (fun ho => ⟨by unfold packErr; rw [ho]; rfl, by unfold packB; rw [ho]; rfl, (ok_bd ho).2.2.2.2.1⟩)
  have HN : Hid (f.ok = false → packErr f = 2) := Lib.hid (fun ho => by unfold packErr; rw [ho]; rfl)
  have BS := Lib.hid (fun (ho : f.ok = true) (A : Nat) => burst_seen f r A B ho hB)
  have hlen := packL_len f
  clear hfa h k1 k2 x1 y2 z1 hW1
  obtain ⟨c0, c1, c2, c3, c4⟩ := X2.out
  go_enter Try.func7, Try.ntmps7
  go_wp2_with fail
  rw [← hW2]
  clear hW2
  go_wp2_with fail
  refine PK.out.mono ?_
  rintro e w3 ⟨rfl, b3⟩
  have B3 := Lib.hid (Below.up B2.out b3)
  obtain ⟨c0, c1, c2, c3, c4⟩ := X2.out.below b3
  obtain ⟨d0, d1, d2⟩ := Y2.out.below b3
  have X3 := Lib.hid (X2.out.below b3)
  have Y3 := Lib.hid (Y2.out.below b3)
  clear b3 PK X2 Y2 H2 B2
  by_cases hgo : f.ok = true ∧ f.hs.length ≤ 300 ∧ r.length ≤ 100 ∧ B ≠ 0 ∧ 0 ≤ A ∧ A ≤ 8 * ((packL f).length : Nat) - 16
  · obtain ⟨ho, h1, h2, h3, h4, h5⟩ := hgo
    obtain ⟨p1, p2, -⟩ := HO.out ho
    rw [p1, p2]
    have BS2 := Lib.hid (BS.out ho A.toNat h3 (by omega))
    obtain ⟨m, hm⟩ : ∃ m, m = packL f := ⟨_, rfl⟩
    rw [← hm] at BS2 hlen h5 ⊢
    have hmz := str_size m
    have HLEN := Lib.hid hlen
    have hm1 : 20 ≤ m.length ∧ m.length ≤ 1220 := by omega
    clear p1 p2 HO HN BS hm hlen
    obtain ⟨An, rfl⟩ : ∃ n : Nat, A = (n : Int) := ⟨A.toNat, by omega⟩
    rw [Int.toNat_natCast] at BS2
    have hb0 : (((B : Nat) : Int) == 0) = false := by simp; omega
    obtain ⟨W4, cap, hcv, hby, hbl⟩ : ∃ W4 cap, (convert 9 51 (.string (str m))).run Try.prog w3 = .ok (.slice (some ⟨w3.heap.size, 0, none⟩) m.length cap) W4 ∧ By w3.heap.size W4 (.slice (some ⟨w3.heap.size, 0, none⟩) m.length cap) m ∧ Below w3.heap.size w3 W4 := by
      have h := run_bytes_of_string (P := Try.prog) w3 9 51 5 (str m) str_kind u8_slice (by kernel_rfl)
      have h2 := By_conv (str m) w3 _ (grownCap_ge w3 (str m).size 0 5) (grownCap_le_maxLen w3 (str m).size 0 _ (by rw [str_size]; unfold maxLen; omega)) w3.heap.size (Nat.le_refl _)
      rw [str_size] at h h2
      rw [str_list] at h2
      exact ⟨_, _, h, h2, (Below.refl w3.heap.size w3).drew.alloc (Nat.le_refl _) _⟩
    have HBY := Lib.hid hby
    have HBL := Lib.hid hbl
    have Y4 := Lib.hid (Y3.out.below hbl)
    clear hby hbl
    go_wp2_with fail
    clear hcv
    go_loopw [8, 9] (fun i _ wr => ∃ k : Nat, k ≤ 16 ∧ i = .int .i64 k ∧ Hid (By w3.heap.size wr (.slice (some ⟨w3.heap.size, 0, none⟩) m.length cap) (fl (bitB B) (fun k => An + k) k m)) ∧ Hid (Below w3.heap.size w3 wr)) (fun i _ _ => 16 - (intOf i).toNat)
    case atStart => exact ⟨0, Nat.zero_le _, rfl, HBY, HBL⟩
    case round =>
      obtain ⟨k, hk, rfl, HR, BL⟩ := hrel
      obtain ⟨d0, d1, d2⟩ := Y3.out.below BL.out
      by_cases hlt : k < 16
      · have HT := Lib.hid (fl_succ (bitB B) (fun k => An + k) k m)
        have HD := Lib.hid (bit_div B k hlt)
        have hml := fl_len (bitB B) (fun k => An + k) m k
        generalize fl (bitB B) (fun k => An + k) k m = z at *
        obtain ⟨s, hs⟩ : ∃ s : Nat, s = B / 2 ^ (15 - k) := ⟨_, rfl⟩
        have hS : (B : Int) / 2 ^ (15 - k) = (s : Int) := by rw [hs]; simp
        rw [← hs] at HD
        have hs16 : s < 65536 := by rw [hs]; exact Nat.lt_of_le_of_lt (Nat.div_le_self _ _) hB
        clear hs
        by_cases hbit : s % 2 = 1
        · have q4 : ((s : Int) % 2 == 1) = true := by simp; omega
          have HF : Hid (fl (bitB B) (fun k => An + k) (k + 1) m = flip (An + k) z) := Lib.hid (by rw [HT.out, HD.out, decide_eq_true hbit, if_pos rfl])
          clear HT HD hbit
          obtain ⟨n, hn⟩ : ∃ n, n = An + k := ⟨_, rfl⟩
          have hj : n / 8 < z.length := by omega
          have hj2 : n / 8 < m.length := by omega
          obtain ⟨g, -, hB8, rf, hcm, -, hf⟩ := HR.out.block
          have c2 := rf.cell (i := n / 8) (by omega)
          have f2 := rf.frozen (i := n / 8) (by omega)
          rw [hf (n / 8) hj] at c2
          have R2 := Lib.hid (HR.out.set (n / 8) (flB z[n / 8] (n % 8)))
          have HE : Hid (flip n z = z.set (n / 8) (flB z[n / 8] (n % 8))) := Lib.hid (by unfold flip; rw [List.getElem?_eq_getElem hj]; rfl)
          have B2 := Lib.hid (BL.out.setCell (p := ⟨w3.heap.size, n / 8, none⟩) (Nat.le_refl _) (.int .u8 ((flB z[n / 8] (n % 8)).toNat : Nat)))
          have XF : Hid (bits .xor .u8 (z[n / 8].toNat : Int) ((128 : Int) / 2 ^ (n % 8)) = ((flB z[n / 8] (n % 8)).toNat : Int)) := Lib.hid (by
            have := bits_xor_flB z[n / 8] (n % 8)
            simpa using this)
          have hby := byte_lt z[n / 8]
          have hr8 : n % 8 < 8 := Nat.mod_lt _ (by decide)
          clear hf rf hcm hB8
          subst hn
          go_wp2_with fail
          go_roundw
          case rel => exact ⟨k + 1, by omega, by go_num, Lib.hid (by rw [XF.out, HF.out, HE.out]; exact R2.out), Lib.hid (by rw [XF.out]; exact B2.out)⟩
          case measure => simp [intOf]; omega
        · have q4 : ((s : Int) % 2 == 1) = false := by simp; omega
          have HF : Hid (fl (bitB B) (fun k => An + k) (k + 1) m = z) := Lib.hid (by rw [HT.out, HD.out, decide_eq_false hbit, if_neg nofun])
          clear HT HD hbit
          go_wp2_with fail
          go_roundw
          case rel => exact ⟨k + 1, by omega, by go_num, Lib.hid (by rw [HF.out]; exact HR.out), BL⟩
          case measure => simp [intOf]; omega
      · obtain rfl : k = 16 := by omega
        have hcv := by_string HR.out
        rw [show (⟨(fl (bitB B) (fun k => An + k) 16 m).toArray⟩ : ByteArray) = str (fl (bitB B) (fun k => An + k) 16 m) by unfold str; rfl] at hcv
        have hzl := fl_len (bitB B) (fun k => An + k) m 16
        have UN := Lib.hid (Unpack_any (fl (bitB B) (fun k => An + k) 16 m ++ r) wr (by rw [List.length_append]; omega))
        have AD := add_two (fl (bitB B) (fun k => An + k) 16 m) r (by omega)
        generalize hZ : fl (bitB B) (fun k => An + k) 16 m = z at *
        have BW := Lib.hid (Below.up B3.out BL.out)
        clear hZ hzl HR BL d0 d1 h4 h5
        go_wp2_with fail
        refine UN.out.mono ?_
        rintro e w5 ⟨-, hno, b5⟩
        obtain rfl := hno BS2.out
        have B5 := Lib.hid (Below.up BW.out b5)
        clear hno b5 BW UN hcv AD d2
        unfold nilFr
        obtain ⟨W6, hW6⟩ : ∃ W, W = w5.alloc (.cells #[.int .i64 0, .int .i64 0, .int .i64 0, .int .i64 0, .slice none 0 0] 38) := ⟨_, rfl⟩
        have k6 : Below w5.heap.size w5 W6 := by rw [hW6]; exact (Below.refl _ _).alloc (Nat.le_refl _) _
        obtain ⟨e0, e1, e2, e3, e4⟩ := Box.fresh w5 ⟨0, 0, 0, 0, []⟩ (.slice none 0 0)
        have B6 := Lib.hid (Below.up B5.out k6)
        have SF := Lib.hid (SameFrame_same ⟨0, 0, 0, 0, []⟩ (.slice none 0 0) (.slice none 0 0) W6 (HiS.nil _) (HiS.nil _) (by decide))
        unfold Fr.val at SF
        clear k6
        go_wp2_with fail
        rw [← hW6]
        clear hW6 e0 e1 e2 e3 e4
        refine SF.out.mono ?_
        rintro e w7 ⟨rfl, b7⟩
        have B7 := Lib.hid (Below.up B6.out b7)
        clear b7 SF B6
        go_wp2_with fail
        refine (AW.out _).mono ?_
        rintro e w8 ⟨rfl, b8⟩
        go_wp2_with fail
        go_ret
        exact ⟨rfl, Below.up B7.out b8⟩
  · cases ho : f.ok with
    | false =>
      rw [HN.out ho]
      clear HN HO BS hlen hgo ho
      generalize str (packB f) = pb at *
      go_wp2_with fail
      refine (AW.out _).mono ?_
      rintro e w8 ⟨rfl, b8⟩
      go_wp2_with fail
      go_ret
      exact ⟨rfl, Below.up B3.out b8⟩
    | true =>
      obtain ⟨p1, p2, p3⟩ := HO.out ho
      rw [p1, p2]
      have hmz := str_size (packL f)
      generalize packL f = m at *
      have hc : (300 : Int) < ((f.hs.length : Nat) : Int) ∨ (¬ (300 : Int) < ((f.hs.length : Nat) : Int) ∧ (100 : Int) < ((r.length : Nat) : Int)) ∨ (¬ (300 : Int) < ((f.hs.length : Nat) : Int) ∧ ¬ (100 : Int) < ((r.length : Nat) : Int) ∧ B = 0) ∨ (¬ (300 : Int) < ((f.hs.length : Nat) : Int) ∧ ¬ (100 : Int) < ((r.length : Nat) : Int) ∧ B ≠ 0 ∧ A < 0) ∨ (¬ (300 : Int) < ((f.hs.length : Nat) : Int) ∧ ¬ (100 : Int) < ((r.length : Nat) : Int) ∧ B ≠ 0 ∧ 0 ≤ A ∧ 8 * (m.length : Int) - 16 < A) := by
        simp only [ho, true_and] at hgo
        omega
      have HLEN := Lib.hid hlen
      have hm1 : 20 ≤ m.length ∧ m.length ≤ 20000 := by omega
      clear p1 p2 HN HO BS hlen hgo ho
      rcases hc with i1 | ⟨i1, i2⟩ | ⟨i1, i2, rfl⟩ | ⟨i1, i2, i3, i4⟩ | ⟨i1, i2, i3, i4, i5⟩
      · go_wp2_with fail
        all_goals
          refine (AW.out _).mono ?_
          rintro e w8 ⟨rfl, b8⟩
          have B8 := Lib.hid (Below.up B3.out b8)
          clear b8
          go_wp2_with fail
          go_ret
          exact ⟨rfl, B8.out⟩
      · go_wp2_with fail
        all_goals
          refine (AW.out _).mono ?_
          rintro e w8 ⟨rfl, b8⟩
          have B8 := Lib.hid (Below.up B3.out b8)
          clear b8
          go_wp2_with fail
          go_ret
          exact ⟨rfl, B8.out⟩
      · go_wp2_with fail
        all_goals
          refine (AW.out _).mono ?_
          rintro e w8 ⟨rfl, b8⟩
          have B8 := Lib.hid (Below.up B3.out b8)
          clear b8
          go_wp2_with fail
          go_ret
          exact ⟨rfl, B8.out⟩
      · have hb0 : (((B : Nat) : Int) == 0) = false := by simp; omega
        go_wp2_with fail
        all_goals
          refine (AW.out _).mono ?_
          rintro e w8 ⟨rfl, b8⟩
          have B8 := Lib.hid (Below.up B3.out b8)
          clear b8
          go_wp2_with fail
          go_ret
          exact ⟨rfl, B8.out⟩
      · have hb0 : (((B : Nat) : Int) == 0) = false := by simp; omega
        go_wp2_with fail
        all_goals
          refine (AW.out _).mono ?_
          rintro e w8 ⟨rfl, b8⟩
          have B8 := Lib.hid (Below.up B3.out b8)
          clear b8
          go_wp2_with fail
          go_ret
          exact ⟨rfl, B8.out⟩
end Go.Proofs.Ytanillahofohgaa
