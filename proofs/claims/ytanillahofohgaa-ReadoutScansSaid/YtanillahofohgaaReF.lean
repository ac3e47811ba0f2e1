/- Layer 5: the law ReadoutScans. -/
import Derived.Deep.RegionHeld3
import Derived.Test.YtanillahofohgaaReE
set_option linter.unusedVariables false
set_option linter.unusedSimpArgs false
set_option maxRecDepth 100000
namespace Go.Proofs.Ytanillahofohgaa
open Go.RowKit Go.Shelf

set_option maxHeartbeats 6400000 in
theorem SameFrames_same (fs : List Fr) (va vb : Value) (w : World) (ha : FrS w va fs) (hb : FrS w vb fs) (hl : fs.length ≤ 1000000) (hh : ∀ f ∈ fs, f.hs.length ≤ 65536) :
    Calls Try.prog 29 #[va, vb] w fun e w' => e = .returned (.bool true) ∧ Below w.heap.size w w' := by
  have HA := Lib.hid ha
  have HB := Lib.hid hb
  obtain ⟨a, ca, rfl, hca⟩ := ha.form
  obtain ⟨b, cb, rfl, hcb⟩ := hb.form
  clear ha hb
  have HH := Lib.hid hh
  clear hh
  have SF := Lib.hid (fun (f : Fr) (x y : Option Addr) (n c d : Nat) (W : World) (h1 : HiS W (.slice x n c) f.hs) (h2 : HiS W (.slice y n d) f.hs) (h3 : f.hs.length ≤ 1099511627776) => SameFrame_same f _ _ W h1 h2 h3)
  unfold Fr.val at SF
  go_enter Try.func29, Try.ntmps29
  go_wp2_with fail
  go_loopw [5] (fun i wr => ∃ k : Nat, k ≤ fs.length ∧ i = .int .i64 k ∧ Hid (Below w.heap.size w wr)) (fun i _ => fs.length - (intOf i).toNat)
  case atStart => exact ⟨0, Nat.zero_le _, rfl, Lib.hid (Below.refl _ _)⟩
  case round =>
    obtain ⟨k, hk, rfl, BL⟩ := hrel
    by_cases hlt : k < fs.length
    · have i0 : (k : Int) < (fs.length : Int) := by omega
      obtain ⟨b1, x1, n1, d1, rfl, hb1, c0, c1, c2, c3, c4, h5⟩ := (HA.out.below BL.out).at hlt
      obtain ⟨b2, x2, n2, d2, rfl, hb2, e0, e1, e2, e3, e4, h6⟩ := (HB.out.below BL.out).at hlt
      obtain ⟨_, _, q1, _⟩ := h5.form
      obtain ⟨_, _, q2, _⟩ := h6.form
      have hn1 : n1 = (fs[k]).hs.length := by cases q1; rfl
      have hn2 : n2 = (fs[k]).hs.length := by cases q2; rfl
      have hfl := HH.out _ (List.getElem_mem hlt)
      have h21 : n2 = n1 := by rw [hn1, hn2]
      subst h21
      clear q1 q2 hn1 hn2
      generalize fs[k] = F at *
      have H5 := Lib.hid (h5.below (Below.refl wr.heap.size wr).drew)
      have H6 := Lib.hid (h6.below (Below.refl wr.heap.size wr).drew)
      have BD := Lib.hid BL.out.drew
      have S6 := Lib.hid (SF.out F x1 x2 n2 d1 d2 wr.drew H5.out H6.out (by omega))
      have SD : Hid (wr.drew.cell? ⟨b1, k * 5, none⟩ = some (.int .i64 F.l) ∧ wr.drew.cell? ⟨b1, k * 5 + 1, none⟩ = some (.int .i64 F.s) ∧ wr.drew.cell? ⟨b1, k * 5 + 2, none⟩ = some (.int .i64 F.e) ∧ wr.drew.cell? ⟨b1, k * 5 + 3, none⟩ = some (.int .i64 F.t) ∧ wr.drew.cell? ⟨b1, k * 5 + 4, none⟩ = some (.slice x1 n2 d1) ∧
        wr.drew.cell? ⟨b2, k * 5, none⟩ = some (.int .i64 F.l) ∧ wr.drew.cell? ⟨b2, k * 5 + 1, none⟩ = some (.int .i64 F.s) ∧ wr.drew.cell? ⟨b2, k * 5 + 2, none⟩ = some (.int .i64 F.e) ∧ wr.drew.cell? ⟨b2, k * 5 + 3, none⟩ = some (.int .i64 F.t) ∧ wr.drew.cell? ⟨b2, k * 5 + 4, none⟩ = some (.slice x2 n2 d2)) := Lib.hid ⟨c0, c1, c2, c3, c4, e0, e1, e2, e3, e4⟩
      have SE : Hid (∀ W, Below wr.drew.heap.size wr.drew W → W.cell? ⟨b1, k * 5, none⟩ = some (.int .i64 F.l) ∧ W.cell? ⟨b1, k * 5 + 1, none⟩ = some (.int .i64 F.s) ∧ W.cell? ⟨b1, k * 5 + 2, none⟩ = some (.int .i64 F.e) ∧ W.cell? ⟨b1, k * 5 + 3, none⟩ = some (.int .i64 F.t) ∧ W.cell? ⟨b1, k * 5 + 4, none⟩ = some (.slice x1 n2 d1) ∧
        W.cell? ⟨b2, k * 5, none⟩ = some (.int .i64 F.l) ∧ W.cell? ⟨b2, k * 5 + 1, none⟩ = some (.int .i64 F.s) ∧ W.cell? ⟨b2, k * 5 + 2, none⟩ = some (.int .i64 F.e) ∧ W.cell? ⟨b2, k * 5 + 3, none⟩ = some (.int .i64 F.t) ∧ W.cell? ⟨b2, k * 5 + 4, none⟩ = some (.slice x2 n2 d2)) := Lib.hid (fun W h => ⟨bc h c0, bc h c1, bc h c2, bc h c3, bc h c4, bc h e0, bc h e1, bc h e2, bc h e3, bc h e4⟩)
      clear c0 c1 c2 c3 c4 e0 e1 e2 e3 e4 h5 h6 SF
      go_wp2_with fail
      go_region_held3 (fun W => (W.cell? ⟨b1, k * 5, none⟩ = some (.int .i64 F.l) ∧ W.cell? ⟨b1, k * 5 + 1, none⟩ = some (.int .i64 F.s) ∧ W.cell? ⟨b1, k * 5 + 2, none⟩ = some (.int .i64 F.e) ∧ W.cell? ⟨b1, k * 5 + 3, none⟩ = some (.int .i64 F.t) ∧ W.cell? ⟨b1, k * 5 + 4, none⟩ = some (.slice x1 n2 d1) ∧
        W.cell? ⟨b2, k * 5, none⟩ = some (.int .i64 F.l) ∧ W.cell? ⟨b2, k * 5 + 1, none⟩ = some (.int .i64 F.s) ∧ W.cell? ⟨b2, k * 5 + 2, none⟩ = some (.int .i64 F.e) ∧ W.cell? ⟨b2, k * 5 + 3, none⟩ = some (.int .i64 F.t) ∧ W.cell? ⟨b2, k * 5 + 4, none⟩ = some (.slice x2 n2 d2)))
        (first | (with_reducible exact SD.out) | (with_reducible exact SX.out))
        (first | (go_at_call 23; ((with_reducible refine S6.out.mono ?_); rintro e w5 ⟨rfl, b5⟩; have SX := Lib.hid (SE.out _ b5); have B5 := Lib.hid (Below.up BD.out b5); clear b5)))
      all_goals
        go_wp2_with fail
        go_roundw
        case rel => exact ⟨k + 1, by omega, by go_num, B5⟩
        case measure => simp [intOf]; omega
    · have i0 : ¬ (k : Int) < (fs.length : Int) := by omega
      go_wp2_with fail
      go_ret
      exact ⟨rfl, BL.out⟩

set_option maxHeartbeats 6400000 in
theorem scans_any (m : List UInt8) (w : World) :
    Calls Try.prog 8 #[.string (str m)] w fun e w' => e = .returned (.bool true) ∧ Below w.heap.size w w' := by
  have hsz := str_size m
  have AW := Lib.hid awake_any
  have hns : (1500 : Int) < (m.length : Int) ∨ ¬ (1500 : Int) < (m.length : Int) := by omega
  rcases hns with i1 | i1
  · go_enter Try.func8, Try.ntmps8
    go_wp2_with fail
    refine (AW.out _).mono ?_
    rintro e w2 ⟨rfl, b2⟩
    go_wp2_with fail
    go_ret
    exact ⟨rfl, b2⟩
  obtain ⟨fs, n, hsc⟩ := Sc_ex m.length m (Nat.le_refl _)
  obtain ⟨hsum, hok⟩ := hsc.sum
  have htl := tot_len fs
  have SC := Lib.hid (fun W => Scan_any m fs n W (by omega) hsc)
  have RS := Lib.hid (fun W => refScan_any m fs n W (by omega) hsc)
  have hhs : ∀ f ∈ fs, f.hs.length ≤ 65536 := fun f hf => by have := (ok_bd (hok f hf)).2.2.2.2.1; omega
  have SF := Lib.hid (fun W va vb h1 h2 => SameFrames_same fs va vb W h1 h2 (by omega) hhs)
  have HOK := Lib.hid hok
  have HSUM := Lib.hid hsum
  have hb : n + tot fs ≤ 1500 := by omega
  have hfl : fs.length ≤ 1500 := by omega
  clear hsc hok hhs hsum htl
  go_enter Try.func8, Try.ntmps8
  go_wp2_with fail
  refine (SC.out _).mono ?_
  rintro e w1 ⟨v1, rfl, h1, b1⟩
  have H1 := Lib.hid h1
  have B1 := Lib.hid b1
  obtain ⟨a1, k1, e1, _⟩ := h1.form
  subst e1
  clear h1 b1 SC
  go_wp2_with fail
  refine (RS.out _).mono ?_
  rintro e w2 ⟨v2, rfl, h2, b2⟩
  have H2 := Lib.hid (H1.out.below b2)
  have G2 := Lib.hid h2
  have B2 := Lib.hid (Below.up B1.out b2)
  obtain ⟨a2, k2, e2, _⟩ := h2.form
  subst e2
  clear h2 b2 RS H1 B1
  go_wp2_with fail
  refine (SF.out _ _ _ H2.out G2.out).mono ?_
  rintro e w3 ⟨rfl, b3⟩
  have H3 := Lib.hid (H2.out.below b3)
  have B3 := Lib.hid (Below.up B2.out b3)
  clear b3 SF H2 G2 B2
  go_wp2_with fail
  go_loopw [7, 8, 9, 10] (fun s i _ _ wr => ∃ k : Nat, k ≤ fs.length ∧ i = .int .i64 k ∧ s = .int .i64 ((n + tot (fs.take k) : Nat) : Int) ∧ Hid (Below w3.heap.size w3 wr)) (fun _ i _ _ _ => fs.length - (intOf i).toNat)
  case atStart => exact ⟨0, Nat.zero_le _, rfl, rfl, Lib.hid (Below.refl _ _)⟩
  case round =>
    obtain ⟨k, hk, rfl, rfl, BL⟩ := hrel
    have htk : tot (fs.take k) ≤ tot fs := by
      have := tot_append (fs.take k) (fs.drop k)
      rw [List.take_append_drop] at this
      omega
    by_cases hlt : k < fs.length
    · have i0 : (k : Int) < (fs.length : Int) := by omega
      obtain ⟨b1, x1, n1, d1, rfl, hb1, c0, c1, c2, c3, c4, h5⟩ := (H3.out.below BL.out).at hlt
      have ho := HOK.out _ (List.getElem_mem hlt)
      have htt : tot (fs.take (k + 1)) = tot (fs.take k) + (20 + 4 * (fs[k]).hs.length) := by
        rw [List.take_succ_eq_append_getElem hlt, tot_append]
        rfl
      have htk1 : tot (fs.take (k + 1)) ≤ tot fs := by
        have := tot_append (fs.take (k + 1)) (fs.drop (k + 1))
        rw [List.take_append_drop] at this
        omega
      have PK := Lib.hid (Pack_any fs[k] _ wr h5 (by have := (ok_bd ho).2.2.2.2.1; omega))
      have hpb : packB fs[k] = packL fs[k] ∧ packErr fs[k] = 0 := by unfold packB packErr; rw [ho]; exact ⟨rfl, rfl⟩
      have hpl := packL_len fs[k]
      rw [show (⟨(packB fs[k]).toArray⟩ : ByteArray) = str (packB fs[k]) by unfold str; rfl, hpb.1, hpb.2] at PK
      unfold Fr.val at PK
      have hps := str_size (packL fs[k])
      have HTT := Lib.hid (show ((n + tot (fs.take k) : Nat) : Int) + ((packL fs[k]).length : Int) = ((n + tot (fs.take (k + 1)) : Nat) : Int) by rw [htt, hpl]; omega)
      have hbd : ((packL fs[k]).length : Int) ≤ 100000 := by omega
      have hbs : ((n + tot (fs.take k) : Nat) : Int) ≤ 100000 := by omega
      clear hpb hpl htt h5 ho htk1
      generalize packL fs[k] = pl at *
      generalize fs[k] = F at *
      generalize n + tot (fs.take k) = sm at *
      go_wp2_with fail
      refine PK.out.mono ?_
      rintro e w5 ⟨rfl, b5⟩
      have B5 := Lib.hid (Below.up BL.out b5)
      clear b5 PK c0 c1 c2 c3 c4
      go_wp2_with fail
      go_roundw
      case rel => exact ⟨k + 1, by omega, by go_num, congrArg (Value.int .i64) HTT.out, B5⟩
      case measure => simp [intOf]; omega
    · obtain rfl : k = fs.length := by omega
      have i0 : ¬ (fs.length : Int) < (fs.length : Int) := by omega
      rw [List.take_length, HSUM.out]
      go_wp2_with fail
      refine (AW.out _).mono ?_
      rintro e w6 ⟨rfl, b6⟩
      go_wp2_with fail
      go_ret
      exact ⟨rfl, Below.up (Below.up B3.out BL.out) b6⟩
end Go.Proofs.Ytanillahofohgaa
