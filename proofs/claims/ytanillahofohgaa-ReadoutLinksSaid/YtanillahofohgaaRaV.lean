/- Layer 5: the laws' example. -/
import Derived.Test.YtanillahofohgaaRaU
set_option linter.unusedVariables false
set_option linter.unusedSimpArgs false
set_option maxRecDepth 100000
namespace Go.Proofs.Ytanillahofohgaa
open Go.RowKit

def exF : Fr := ⟨2, 5, 7, 150, []⟩
def exB : List UInt8 := packL exF
theorem ex_ok : exF.ok = true := by decide +kernel
theorem ex_len : exB.length = 20 := by decide +kernel
theorem ex_hd : hdOk exB = true := by decide +kernel
theorem ex_unp : unpOk exB = true := by decide +kernel
theorem ex_f : (unpF exB).e = 7 ∧ (unpF exB).t = 150 ∧ hdN exB = 0 := by decide +kernel
theorem ex_sup : supErr [5, 9, 20, 4] 4 4 = 0 ∧ supH [5, 9, 20, 4] 4 4 [2] = [(1, 5)] := by decide +kernel
theorem ex_pil : pilErr [4000, 5] [100, 1, 2] = 0 ∧ pilR [4000, 5] [100, 1, 2] = [4095, 6, 2] := by decide +kernel
theorem ex_crc : crc0 (⟨#[49, 50, 51, 52, 53, 54, 55, 56, 57]⟩ : ByteArray).data.toList = 10673 := by decide +kernel
theorem ex_flip : flL [97] [7] = [96] := by decide +kernel
attribute [irreducible] exB

/-- Two lists that were just made. -/
theorem two_fresh (w W : World) (l m : List Int) (c1 c2 : Array Value) (t : TypeId) (h1 : c1 = (l.map fun x => Value.int .i64 x).toArray) (h2 : c2 = (m.map fun x => Value.int .i64 x).toArray) (b1 : ∀ x ∈ l, I64 x) (b2 : ∀ x ∈ m, I64 x) (hW : W = (w.alloc (.cells c1 t)).alloc (.cells c2 t)) :
    InS W (.slice (some ⟨w.heap.size, 0, none⟩) l.length l.length) l ∧ InS W (.slice (some ⟨w.heap.size + 1, 0, none⟩) m.length m.length) m ∧ Below w.heap.size w W := by
  have i1 := InS.fresh w l c1 t l.length rfl h1 b1
  have k1 : Below w.heap.size w (w.alloc (.cells c1 t)) := (Below.refl _ _).alloc (Nat.le_refl _) _
  have z1 : (w.alloc (.cells c1 t)).heap.size = w.heap.size + 1 := by simp
  generalize w.alloc (.cells c1 t) = w1 at *
  have i2 := InS.fresh w1 m c2 t m.length rfl h2 b2
  have k2 : Below w1.heap.size w1 W := by rw [hW]; exact (Below.refl _ _).alloc (Nat.le_refl _) _
  rw [← hW, z1] at i2
  exact ⟨i1.below k2, i2, Below.up k1 k2⟩
theorem hits_form {W : World} {v : Value} {l : Hits} (h : HiS W v l) : ∃ a n c, v = .slice a n c := by
  obtain ⟨a, c, e, _⟩ := h.form
  exact ⟨a, _, c, e⟩
theorem ints_form {W : World} {v : Value} {l : List Int} (h : InS W v l) : ∃ a n c, v = .slice a n c := by
  obtain ⟨a, c, e, _⟩ := h.form
  exact ⟨a, _, c, e⟩

theorem HiS.one (w : World) (a b : Int) (t : TypeId) (ha : I64 a) (hb : I64 b) : HiS (w.alloc (.cells #[.int .i64 a, .int .i64 b] t)) (.slice (some ⟨w.heap.size, 0, none⟩) 1 1) [(a, b)] := by
  refine ⟨_, 1, rfl, Nat.le_refl _, (fun x hx => by simp at hx; subst hx; exact ⟨ha, hb⟩), fun _ => ⟨w.heap.size, 0, rfl, fun k hk => ?_⟩⟩
  have hk0 : k = 0 := by simpa using hk
  subst hk0
  unfold World.cell?
  rw [show (w.alloc (.cells #[.int .i64 a, .int .i64 b] t)).heap[w.heap.size]? = some (.cells #[.int .i64 a, .int .i64 b] t) from _root_.Go.heap_alloc_new w _]
  exact ⟨rfl, rfl⟩
theorem frame_cells (w : World) (a b c d e : Value) (t : TypeId) : (w.alloc (.cells #[a, b, c, d, e] t)).cell? ⟨w.heap.size, 2, none⟩ = some c ∧ (w.alloc (.cells #[a, b, c, d, e] t)).cell? ⟨w.heap.size, 3, none⟩ = some d := by
  unfold World.cell?
  rw [show (w.alloc (.cells #[a, b, c, d, e] t)).heap[w.heap.size]? = some (.cells #[a, b, c, d, e] t) from _root_.Go.heap_alloc_new w _]
  exact ⟨rfl, rfl⟩
/-- The flips of the example. -/
theorem seven_keep (w : World) (c : Array Value) (hc : c = #[.int .i64 7]) (B : Nat) : ∀ W : World, (∀ k, k < (w.alloc (.cells c 3)).heap.size → (k < B ∨ ∃ c' fz, (w.alloc (.cells c 3)).heap[k]? = some (.cells c' 3 fz)) → W.heap[k]? = (w.alloc (.cells c 3)).heap[k]?) → InS W (.slice (some ⟨w.heap.size, 0, none⟩) 1 1) [7] := by
  intro W hW
  have i := InS.fresh w [7] c 3 1 rfl hc (by simp [I64])
  have e := hW w.heap.size (by simp) (.inr ⟨c, _, _root_.Go.heap_alloc_new w _⟩)
  obtain ⟨a, cap, e1, hc1, hb, hx⟩ := i
  refine ⟨a, cap, e1, hc1, hb, fun h0 => ?_⟩
  obtain ⟨b, off, rfl, h2⟩ := hx h0
  cases e1
  exact ⟨_, _, rfl, fun k hk => (World.cell?_of_block e).trans (h2 k hk)⟩

set_option maxHeartbeats 6400000 in
theorem awake_any (w : World) : Calls Try.prog 11 #[] w fun e w' => e = .returned (.bool true) ∧ Below w.heap.size w w' := by
  obtain ⟨W0, hW0⟩ : ∃ W0, W0 = (w.alloc (.cells #[.int .i64 5, .int .i64 9, .int .i64 20, .int .i64 4] 3)).alloc (.cells #[.int .i64 2] 3) := ⟨_, rfl⟩
  obtain ⟨ia, ib, b0⟩ := two_fresh w W0 [5, 9, 20, 4] [2] _ _ _ rfl rfl (by simp [I64]) (by simp [I64]) hW0
  have HS := Lib.hid (Suppress_any _ _ [5, 9, 20, 4] [2] 4 4 W0 ia ib (by decide) (by decide) (by simp [I64]) (by simp [I64]))
  have B0 := Lib.hid b0
  clear ia ib b0
  go_enter Try.func11, Try.ntmps11
  go_wp2_with fail
  rw [← hW0]
  clear hW0
  refine HS.out.mono ?_
  rintro e w1 ⟨v1, rfl, h1, b1⟩
  rw [ex_sup.1]
  rw [ex_sup.2] at h1
  obtain ⟨a1, n1, c1, rfl⟩ := hits_form h1.hi
  have L1 := Lib.hid h1.hi
  have B1 := Lib.hid (Below.up B0.out b1)
  clear h1 b1 HS B0
  obtain ⟨W2, hW2⟩ : ∃ W2, W2 = (w1.alloc (.cells #[.int .i64 4000, .int .i64 5] 3)).alloc (.cells #[.int .i64 100, .int .i64 1, .int .i64 2] 3) := ⟨_, rfl⟩
  obtain ⟨ia, ib, b2⟩ := two_fresh w1 W2 [4000, 5] [100, 1, 2] _ _ _ rfl rfl (by simp [I64]) (by simp [I64]) hW2
  have HP := Lib.hid (Pile_any _ _ [4000, 5] [100, 1, 2] W2 ia ib (by decide) (by decide))
  have B2 := Lib.hid (Below.up B1.out b2)
  have L2 := Lib.hid (L1.out.below b2)
  clear ia ib b2 B1 L1
  go_wp2_with fail
  rw [← hW2]
  clear hW2
  refine HP.out.mono ?_
  rintro e w3 ⟨v3, rfl, h3, b3⟩
  rw [ex_pil.1]
  rw [ex_pil.2] at h3
  obtain ⟨a3, n3, c3, rfl⟩ := ints_form h3.ins
  have M3 := Lib.hid h3.ins
  have L3 := Lib.hid (L2.out.below b3)
  have B3 := Lib.hid (Below.up B2.out b3)
  clear h3 b3 HP B2 L2
  have PK := Lib.hid (Pack_any exF (.slice none 0 0) w3 (HiS.nil w3) (by decide))
  rw [show packB exF = exB by unfold packB; rw [ex_ok]; unfold exB; rfl, show packErr exF = 0 by unfold packErr; rw [ex_ok]; rfl, show (⟨exB.toArray⟩ : ByteArray) = str exB by unfold str; rfl] at PK
  have hfv : exF.val (.slice none 0 0) = .agg #[.int .i64 2, .int .i64 5, .int .i64 7, .int .i64 150, .slice none 0 0] := rfl
  rw [hfv] at PK
  clear hfv
  go_wp2_with fail
  refine PK.out.mono ?_
  rintro e w4 ⟨rfl, b4⟩
  have M4 := Lib.hid (M3.out.below b4)
  have L4 := Lib.hid (L3.out.below b4)
  have B4 := Lib.hid (Below.up B3.out b4)
  clear b4 PK B3 M3 L3
  go_wp2_with fail
  have hsz := str_size exB
  rw [ex_len] at hsz
  refine (Unpack_of exB w4 (by rw [ex_len]; decide) (fun W => unpackHead_any exB W (by rw [ex_len]; decide) (fun _ _ => ex_hd))).mono ?_
  rintro e w5 ⟨h5, -, b5⟩
  obtain ⟨v5, rfl, h5'⟩ := h5 ex_unp
  obtain ⟨a5, n5, c5, rfl⟩ := hits_form h5'.hi
  have hfu : Hid ((unpF exB).e = 7 ∧ (unpF exB).t = 150) := Lib.hid ⟨ex_f.1, ex_f.2.1⟩
  rw [ex_f.2.2]
  unfold Fr.val
  rw [hfu.out.1, hfu.out.2]
  generalize (unpF exB).l = fl
  generalize (unpF exB).s = fs
  have M5 := Lib.hid (M4.out.below b5)
  have L5 := Lib.hid (L4.out.below b5)
  have B5 := Lib.hid (Below.up B4.out b5)
  clear b5 h5 h5' B4 M4 L4 hfu
  obtain ⟨W6, hW6⟩ : ∃ W6, W6 = w5.alloc (.cells #[.int .i64 fl, .int .i64 fs, .int .i64 7, .int .i64 150, .slice a5 n5 c5] 38) := ⟨_, rfl⟩
  have k6 : Below w5.heap.size w5 W6 := by rw [hW6]; exact (Below.refl _ _).alloc (Nat.le_refl _) _
  have C6 : Hid (W6.cell? ⟨w5.heap.size, 2, none⟩ = some (.int .i64 7) ∧ W6.cell? ⟨w5.heap.size, 3, none⟩ = some (.int .i64 150)) := Lib.hid (by rw [hW6]; exact frame_cells _ _ _ _ _ _ _)
  have M6 := Lib.hid (M5.out.below k6)
  have L6 := Lib.hid (L5.out.below k6)
  have B6 := Lib.hid (Below.up B5.out k6)
  clear k6 M5 L5 B5
  have h97 := lit_str [97] ⟨#[97]⟩ rfl
  have h96 := lit_str [96] ⟨#[96]⟩ rfl
  go_wp2_with fail
  rw [← hW6]
  clear hW6
  generalize w5.heap.size = b5 at *
  refine (NewLink_yes 2 1 W6 (by decide)).mono ?_
  rintro e w7 ⟨rfl, l7, b7⟩
  have K7 := Lib.hid l7
  have T7 : Hid (∀ W, Below W6.heap.size w7 W → InS W (.slice a3 n3 c3) [4095, 6, 2] ∧ HiS W (.slice a1 n1 c1) [(1, 5)] ∧ W.cell? ⟨b5, 2, none⟩ = some (.int .i64 7) ∧ W.cell? ⟨b5, 3, none⟩ = some (.int .i64 150)) :=
    Lib.hid (fun W k => ⟨M6.out.below (b7.trans k), L6.out.below (b7.trans k), bc (b7.trans k) C6.out.1, bc (b7.trans k) C6.out.2⟩)
  have B7 := Lib.hid (Below.up B6.out b7)
  have G7 : Hid (W6.heap.size ≤ w7.heap.size ∧ w.heap.size ≤ W6.heap.size) := Lib.hid ⟨b7.size, B6.out.size⟩
  clear l7 b7 M6 L6 B6 C6
  generalize W6.heap.size = lb at *
  go_wp2_with fail
  have HO := Offer_any lb lb 2 1 [] [] [97] w7 K7.out (by decide) (by decide)
  rw [show offC 2 [] [97] = 0 from by decide, show offQ 2 [] [97] = [[97]] from by decide] at HO
  refine HO.mono ?_
  rintro e w8 ⟨rfl, l8, b8⟩
  have K8 := Lib.hid l8
  have B8 := Lib.hid b8
  have G8 : Hid (lb ≤ w8.heap.size) := Lib.hid (by have := G7.out.1; have := b8.size; omega)
  clear HO K7 l8 b8
  obtain ⟨W9, hW9⟩ : ∃ W9, W9 = w8.alloc (.cells #[.int .i64 7] 3) := ⟨_, rfl⟩
  have HV : Hid (∀ W : World, (∀ k, k < W9.heap.size → (k < lb ∨ ∃ c' fz, W9.heap[k]? = some (.cells c' 3 fz)) → W.heap[k]? = W9.heap[k]?) → InS W (.slice (some ⟨w8.heap.size, 0, none⟩) 1 1) [7]) := Lib.hid (by rw [hW9]; exact seven_keep w8 _ rfl lb)
  have k9 : Below w8.heap.size w8 W9 := by rw [hW9]; exact (Below.refl _ _).alloc (Nat.le_refl _) _
  have K9 := Lib.hid (K8.out.below k9)
  have B9 := Lib.hid (B8.out.trans (k9.mono G8.out))
  have G9 : Hid (lb ≤ W9.heap.size) := Lib.hid (by have := k9.size; have := G8.out; omega)
  clear k9 K8 B8 G8
  go_wp2_with fail
  rw [← hW9]
  clear hW9
  refine (Send_yes lb lb 2 1 [97] [] [] _ [7] W9 K9.out (by decide) (by decide) (by decide) (by decide) (HV.out W9 (fun _ _ _ => rfl)) (by decide) G9.out HV.out).mono ?_
  rintro e w10 ⟨rfl, l10, b10⟩
  have K10 := Lib.hid l10
  have B10 := Lib.hid (B9.out.trans b10)
  clear l10 b10 K9 B9 G9 HV
  rw [show ([] : Strs) ++ [flL [97] [7]] = [[96]] from by rw [ex_flip]; rfl] at K10
  go_wp2_with fail
  refine (Take_yes lb lb 2 (1 - 1) [96] [] [] w10 K10.out (by decide) (by decide)).mono ?_
  rintro e w11 ⟨rfl, -, b11⟩
  have B11 := Lib.hid (B10.out.trans b11)
  clear b11 K10 B10
  have BW := Lib.hid (B7.out.trans (B11.out.mono G7.out.2))
  obtain ⟨m11, l11, c11, d11⟩ := T7.out _ B11.out
  have M11 := Lib.hid m11
  have L11 := Lib.hid l11
  clear T7 B7 G7 B11 m11 l11
  obtain ⟨W12, hW12⟩ : ∃ W, W = w11.alloc (.cells #[.int .i64 1, .int .i64 5] 35) := ⟨_, rfl⟩
  have HR : Hid (HiS W12 (.slice (some ⟨w11.heap.size, 0, none⟩) 1 1) [(1, 5)]) := Lib.hid (by rw [hW12]; exact HiS.one _ _ _ _ (by simp [I64]) (by simp [I64]))
  have k12 : Below w11.heap.size w11 W12 := by rw [hW12]; exact (Below.refl _ _).alloc (Nat.le_refl _) _
  have L12 := Lib.hid (L11.out.below k12)
  have M12 := Lib.hid (M11.out.below k12)
  have B12 := Lib.hid (Below.up BW.out k12)
  replace c11 := bc k12 c11
  replace d11 := bc k12 d11
  clear k12 L11 M11 BW
  go_wp2_with fail
  rw [← hW12]
  clear hW12
  refine (SameHits_any _ _ [(1, 5)] [(1, 5)] W12 L12.out HR.out (by decide)).mono ?_
  rintro e w13 ⟨rfl, b13⟩
  rw [show decide ([((1 : Int), (5 : Int))] = [(1, 5)]) = true from by decide]
  have M13 := Lib.hid (M12.out.below b13)
  have B13 := Lib.hid (Below.up B12.out b13)
  replace c11 := bc b13 c11
  replace d11 := bc b13 d11
  clear b13 L12 M12 B12 HR
  obtain ⟨W14, hW14⟩ : ∃ W, W = w13.alloc (.cells #[.int .i64 4095, .int .i64 6, .int .i64 2] 3) := ⟨_, rfl⟩
  have HR : Hid (InS W14 (.slice (some ⟨w13.heap.size, 0, none⟩) 3 3) [4095, 6, 2]) := Lib.hid (by rw [hW14]; exact InS.fresh _ _ _ _ 3 rfl rfl (by simp [I64]))
  have k14 : Below w13.heap.size w13 W14 := by rw [hW14]; exact (Below.refl _ _).alloc (Nat.le_refl _) _
  have M14 := Lib.hid (M13.out.below k14)
  have B14 := Lib.hid (Below.up B13.out k14)
  replace c11 := bc k14 c11
  replace d11 := bc k14 d11
  clear k14 M13 B13
  go_wp2_with fail
  rw [← hW14]
  clear hW14
  refine (Ints_any _ _ [4095, 6, 2] [4095, 6, 2] W14 M14.out HR.out (by decide)).mono ?_
  rintro e w15 ⟨rfl, b15⟩
  rw [show decide ([(4095 : Int), 6, 2] = [4095, 6, 2]) = true from by decide]
  have B15 := Lib.hid (Below.up B14.out b15)
  replace c11 := bc b15 c11
  replace d11 := bc b15 d11
  clear b15 M14 B14 HR
  go_wp2_with fail
  refine (Crc_any ⟨#[49, 50, 51, 52, 53, 54, 55, 56, 57]⟩ w15 (by decide)).mono ?_
  rintro e w16 ⟨rfl, rfl⟩
  rw [ex_crc]
  go_wp2_with fail
  go_ret
  exact ⟨rfl, B15.out⟩
end Go.Proofs.Ytanillahofohgaa
