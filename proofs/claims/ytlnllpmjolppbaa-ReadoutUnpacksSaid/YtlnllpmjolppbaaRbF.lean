/- Layer 5: the law ReadoutPacks. -/
import Derived.Test.YtlnllpmjolppbaaRbE
set_option linter.unusedVariables false
set_option linter.unusedSimpArgs false
set_option maxRecDepth 100000
namespace Go.Proofs.Ytlnllpmjolppbaa
open Go.RowKit

/-- The cells of a frame that lies at block b. -/
def Box (W : World) (b : Nat) (f : Fr) (v : Value) : Prop :=
  W.cell? ⟨b, 0, none⟩ = some (.int .i64 f.l) ∧ W.cell? ⟨b, 1, none⟩ = some (.int .i64 f.s) ∧ W.cell? ⟨b, 2, none⟩ = some (.int .i64 f.e) ∧ W.cell? ⟨b, 3, none⟩ = some (.int .i64 f.t) ∧ W.cell? ⟨b, 4, none⟩ = some v
theorem Box.below {W W' : World} {b : Nat} {f : Fr} {v : Value} (h : Box W b f v) (k : Below W.heap.size W W') : Box W' b f v :=
  ⟨bc k h.1, bc k h.2.1, bc k h.2.2.1, bc k h.2.2.2.1, bc k h.2.2.2.2⟩
theorem Box.fresh (W : World) (f : Fr) (v : Value) : Box (W.alloc (.cells #[.int .i64 f.l, .int .i64 f.s, .int .i64 f.e, .int .i64 f.t, v] 38)) W.heap.size f v := new_five W _ _ _ _ _ _

set_option maxHeartbeats 3200000 in
theorem SameFrame_same (f : Fr) (va vb : Value) (w : World) (ha : HiS w va f.hs) (hb : HiS w vb f.hs) (hl : f.hs.length ≤ 1099511627776) :
    Calls Try.prog 23 #[f.val va, f.val vb] w fun e w' => e = .returned (.bool true) ∧ Below w.heap.size w w' := by
  obtain ⟨a, ca, rfl, _⟩ := ha.form
  obtain ⟨b, cb, rfl, _⟩ := hb.form
  obtain ⟨W1, hW1⟩ : ∃ W, W = w.alloc (.cells #[.int .i64 f.l, .int .i64 f.s, .int .i64 f.e, .int .i64 f.t, .slice a f.hs.length ca] 38) := ⟨_, rfl⟩
  have k1 : Below w.heap.size w W1 := by rw [hW1]; exact (Below.refl _ _).alloc (Nat.le_refl _) _
  have x1 : Box W1 w.heap.size f (.slice a f.hs.length ca) := by rw [hW1]; exact Box.fresh _ _ _
  obtain ⟨W2, hW2⟩ : ∃ W, W = W1.alloc (.cells #[.int .i64 f.l, .int .i64 f.s, .int .i64 f.e, .int .i64 f.t, .slice b f.hs.length cb] 38) := ⟨_, rfl⟩
  have k2 : Below W1.heap.size W1 W2 := by rw [hW2]; exact (Below.refl _ _).alloc (Nat.le_refl _) _
  have x2 : Box W2 W1.heap.size f (.slice b f.hs.length cb) := by rw [hW2]; exact Box.fresh _ _ _
  have z1 : W1.heap.size = w.heap.size + 1 := by rw [hW1]; simp
  obtain ⟨c0, c1, c2, c3, c4⟩ := x1.below k2
  obtain ⟨d0, d1, d2, d3, d4⟩ := x2
  have SH := Lib.hid (SameHits_any _ _ f.hs f.hs W2 ((ha.below k1).below k2) ((hb.below k1).below k2) hl)
  have B2 := Lib.hid (Below.up k1 k2)
  have hfa : f.val (.slice a f.hs.length ca) = .agg #[.int .i64 f.l, .int .i64 f.s, .int .i64 f.e, .int .i64 f.t, .slice a f.hs.length ca] := rfl
  have hfb : f.val (.slice b f.hs.length cb) = .agg #[.int .i64 f.l, .int .i64 f.s, .int .i64 f.e, .int .i64 f.t, .slice b f.hs.length cb] := rfl
  rw [hfa, hfb]
  rw [z1] at d0 d1 d2 d3 d4
  clear ha hb k1 k2 x1 hfa hfb z1
  rw [hW1] at hW2
  clear hW1
  go_enter Try.func23, Try.ntmps23
  go_wp2_with fail
  rw [← hW2]
  clear hW2
  go_wp2_with fail
  refine SH.out.mono ?_
  rintro e w3 ⟨rfl, b3⟩
  rw [show decide True = true from rfl]
  go_wp2_with fail
  go_ret
  exact ⟨rfl, Below.up B2.out b3⟩

set_option maxHeartbeats 6400000 in
theorem packs_any (f : Fr) (v : Value) (r : List UInt8) (w : World) (h : HiS w v f.hs) :
    Calls Try.prog 5 #[f.val v, .string (str r)] w fun e w' => e = .returned (.bool true) ∧ Below w.heap.size w w' := by
  obtain ⟨a, ca, rfl, _⟩ := h.form
  have hsz := str_size r
  have AW := Lib.hid awake_any
  obtain ⟨W1, hW1⟩ : ∃ W, W = w.alloc (.cells #[.int .i64 f.l, .int .i64 f.s, .int .i64 f.e, .int .i64 f.t, .slice a f.hs.length ca] 38) := ⟨_, rfl⟩
  have k1 : Below w.heap.size w W1 := by rw [hW1]; exact (Below.refl _ _).alloc (Nat.le_refl _) _
  have x1 : Box W1 w.heap.size f (.slice a f.hs.length ca) := by rw [hW1]; exact Box.fresh _ _ _
  have X1 := Lib.hid x1
  obtain ⟨c0, c1, c2, c3, c4⟩ := x1
  have H1 := Lib.hid (h.below k1)
  have B1 := Lib.hid k1
  have hfa : f.val (.slice a f.hs.length ca) = .agg #[.int .i64 f.l, .int .i64 f.s, .int .i64 f.e, .int .i64 f.t, .slice a f.hs.length ca] := rfl
  clear h k1
  have hns : (4100 : Int) < (f.hs.length : Int) ∨ ¬ (4100 : Int) < (f.hs.length : Int) ∧ (100 : Int) < (r.length : Int) ∨ (¬ (4100 : Int) < (f.hs.length : Int) ∧ ¬ (100 : Int) < (r.length : Int)) := by omega
  rcases hns with i1 | ⟨i1, i2⟩ | ⟨i1, i2⟩
  iterate 2
    · rw [hfa]
      clear hfa
      go_enter Try.func5, Try.ntmps5
      go_wp2_with fail
      rw [← hW1]
      clear hW1
      go_wp2_with (refine (AW.out _).mono ?_; rintro e w2 ⟨rfl, b2⟩)
      go_ret
      exact ⟨rfl, Below.up B1.out b2⟩
  have PK := Lib.hid (Pack_any f _ W1 H1.out (by omega))
  rw [show (⟨(packB f).toArray⟩ : ByteArray) = str (packB f) by unfold str; rfl, hfa] at PK
  have RP := Lib.hid (fun W (k : Below W1.heap.size W1 W) => refPack_any f (.slice a f.hs.length ca) W (H1.out.below k) (by omega))
  have CK := Lib.hid (fun W (k : Below W1.heap.size W1 W) => Check_any f (.slice a f.hs.length ca) W (H1.out.below k) (by omega))
  have RC := Lib.hid (fun W (k : Below W1.heap.size W1 W) => refCheck_any f (.slice a f.hs.length ca) W (H1.out.below k) (by omega))
  have SF := Lib.hid (fun W vv (k : Below W1.heap.size W1 W) (hv : HiS W vv f.hs) => SameFrame_same f vv (.slice a f.hs.length ca) W hv (H1.out.below k) (by omega))
  have UF : Hid (f.ok = true → ∀ W, Calls Try.prog 22 #[.string (str (packL f ++ r))] W (UnpPost W (packL f ++ r))) := Lib.hid (fun ho W => Unpack_of (packL f ++ r) W (by rw [List.length_append, packL_len]; omega) (fun W => unpackHead_any (packL f ++ r) W (by rw [List.length_append, packL_len]; omega) (fun _ _ => (pack_back f r ho).2.1)))
  have PB := Lib.hid (fun ho => pack_back f r ho)
  have hlen := packL_len f
  have AD := Lib.hid (add_two (packL f) r (by omega))
  rw [hfa] at RP CK RC SF ⊢
  have HV : Hid (∀ vv, f.val vv = .agg #[.int .i64 f.l, .int .i64 f.s, .int .i64 f.e, .int .i64 f.t, vv]) := Lib.hid fun _ => rfl
  clear hfa
  go_enter Try.func5, Try.ntmps5
  go_wp2_with fail
  rw [← hW1]
  clear hW1
  go_wp2_with fail
  refine PK.out.mono ?_
  rintro e w2 ⟨rfl, b2⟩
  have K2 := Lib.hid b2
  obtain ⟨c0, c1, c2, c3, c4⟩ := X1.out.below b2
  have X2 := Lib.hid (X1.out.below b2)
  clear b2 PK X1
  go_wp2_with fail
  refine (RP.out _ K2.out).mono ?_
  rintro e w3 ⟨rfl, b3⟩
  have K3 := Lib.hid (Below.up K2.out b3)
  have X3 := Lib.hid (X2.out.below b3)
  clear b3 RP X2 K2 c0 c1 c2 c3 c4
  obtain ⟨c0, c1, c2, c3, c4⟩ := X3.out
  have X4 : Hid (Box w3.drew w.heap.size f (.slice a f.hs.length ca)) := X3
  have K4 : Hid (Below W1.heap.size W1 w3.drew) := Lib.hid K3.out.drew
  generalize hok : f.ok = ok at *
  generalize hpb : packB f = pb at *
  generalize hpe : packErr f = pe at *
  go_wp2_with fail
  clear c0 c1 c2 c3 c4
  go_region_held3 (fun W => (W.cell? ⟨w.heap.size, 0, none⟩ = some (.int .i64 f.l) ∧ W.cell? ⟨w.heap.size, 1, none⟩ = some (.int .i64 f.s) ∧ W.cell? ⟨w.heap.size, 2, none⟩ = some (.int .i64 f.e) ∧ W.cell? ⟨w.heap.size, 3, none⟩ = some (.int .i64 f.t) ∧ W.cell? ⟨w.heap.size, 4, none⟩ = some (.slice a f.hs.length ca)))
    (first | exact X4.out | exact X5.out | exact X6.out)
    (first
      | (go_at_call 20; ((with_reducible refine (CK.out _ K4.out).mono ?_); rintro e w5 ⟨rfl, b5⟩; have K5 := Lib.hid (Below.up K4.out b5); have X5 := Lib.hid (X4.out.below b5); clear b5))
      | (go_at_call 21; ((with_reducible refine (RC.out _ K5.out).mono ?_); rintro e w6 ⟨rfl, b6⟩; have K6 := Lib.hid (Below.up K5.out b6); have X6 := Lib.hid (X5.out.below b6); clear b6)))
  all_goals
    clear CK RC K3 X3 K4 X4 K5 X5
    cases ok with
    | false =>
      have he : pe = 2 := by rw [← hpe]; unfold packErr; rw [hok]; rfl
      subst he
      clear UF PB AD SF
      go_wp2_with fail
      refine (AW.out _).mono ?_
      rintro e w7 ⟨rfl, b7⟩
      go_wp2_with fail
      go_ret
      exact ⟨rfl, Below.up B1.out (Below.up K6.out b7)⟩
    | true =>
      have he : pe = 0 ∧ pb = packL f := by rw [← hpe, ← hpb]; unfold packErr packB; rw [hok]; exact ⟨rfl, rfl⟩
      obtain ⟨rfl, rfl⟩ := he
      have UF2 := Lib.hid (UF.out rfl)
      have PB2 := Lib.hid (PB.out rfl)
      have ad := AD.out
      have hpl := str_size (packL f)
      rw [hlen] at hpl
      clear UF PB AD
      obtain ⟨c0, c1, c2, c3, c4⟩ := X6.out
      go_wp2_with fail
      refine (UF2.out w6).mono ?_
      rintro e w7 ⟨h7, -, b7⟩
      obtain ⟨v7, rfl, hv7⟩ := h7 PB2.out.2.2.1
      rw [PB2.out.2.2.2.1] at hv7
      rw [PB2.out.2.2.2.1, PB2.out.2.2.2.2, HV.out]
      have V7 := Lib.hid hv7.hi
      obtain ⟨a7, k7, e7, _⟩ := hv7.hi.form
      subst e7
      have K7 := Lib.hid (Below.up K6.out b7)
      have X7 := Lib.hid (X6.out.below b7)
      clear h7 hv7 b7 UF2 PB2 K6 X6 c0 c1 c2 c3 c4 ad
      obtain ⟨W8, hW8⟩ : ∃ W, W = w7.alloc (.cells #[.int .i64 f.l, .int .i64 f.s, .int .i64 f.e, .int .i64 f.t, .slice a7 f.hs.length k7] 38) := ⟨_, rfl⟩
      have k8 : Below w7.heap.size w7 W8 := by rw [hW8]; exact (Below.refl _ _).alloc (Nat.le_refl _) _
      have x8 : Box W8 w7.heap.size f (.slice a7 f.hs.length k7) := by rw [hW8]; exact Box.fresh _ _ _
      obtain ⟨d0, d1, d2, d3, d4⟩ := x8
      obtain ⟨c0, c1, c2, c3, c4⟩ := X7.out.below k8
      have V8 := Lib.hid (V7.out.below k8)
      have K8 := Lib.hid (Below.up K7.out k8)
      clear k8 V7 X7
      have SF8 := Lib.hid (SF.out W8 _ K8.out V8.out)
      rw [HV.out] at SF8
      clear SF
      rw [hW8] at c0 c1 c2 c3 c4 d0 d1 d2 d3 d4
      go_wp2_with fail
      rw [← hW8]
      clear hW8
      refine SF8.out.mono ?_
      rintro e w9 ⟨rfl, b9⟩
      have K9 := Lib.hid (Below.up K8.out b9)
      clear b9 SF8 K8 c0 c1 c2 c3 c4 d0 d1 d2 d3 d4
      go_wp2_with fail
      refine (AW.out _).mono ?_
      rintro e w10 ⟨rfl, b10⟩
      go_wp2_with fail
      go_ret
      exact ⟨rfl, Below.up B1.out (Below.up K9.out b10)⟩
end Go.Proofs.Ytlnllpmjolppbaa
