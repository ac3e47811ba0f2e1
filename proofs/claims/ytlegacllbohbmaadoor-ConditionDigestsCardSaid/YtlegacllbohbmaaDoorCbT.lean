/- Layer 4: the laws' awake. -/
import Derived.Test.YtlegacllbohbmaaDoorCbS
set_option linter.unusedVariables false
set_option linter.unusedSimpArgs false
namespace Go.Proofs.YtlegacllbohbmaaDoor
open Go.RowKit Go.Shelf

theorem enx_lit (B : Nat) (l : Ents) (w : World) (hb : ∀ x ∈ l, InI x) : EnX B (w.alloc (.cells (enC l).toArray 36)) (.slice (some ⟨w.heap.size, 0, none⟩) l.length l.length) l := by
  have hh := _root_.Go.heap_alloc_new w (.cells (enC l).toArray 36)
  refine ⟨⟨_, _, rfl, hb, fun h0 => ⟨w.heap.size, 0, rfl, fun k hk => ?_⟩⟩, fun b hb => .inr ?_⟩
  · obtain ⟨e1, e2⟩ := enC_get l k hk
    have get : ∀ j, (w.alloc (.cells (enC l).toArray 36)).cell? ⟨w.heap.size, j, none⟩ = (enC l)[j]? := fun j => by
      unfold World.cell?
      show (match (w.alloc (.cells (enC l).toArray 36)).heap[w.heap.size]? with | some (.cells c _ _) => c[j]? | _ => none) = _
      rw [hh]
      simp
    rw [Nat.zero_add, get, get, e1, e2]
    exact ⟨rfl, rfl⟩
  · simp [Value.ownBlock] at hb
    subst hb
    exact ⟨_, _, hh⟩
theorem hexX : (⟨(hexL (dgL dg0 (⟨#[97]⟩ : ByteArray).data.toList)).toArray⟩ : ByteArray) = ⟨#[97, 102, 54, 51, 100, 99, 52, 99, 56, 54, 48, 49, 101, 99, 56, 99]⟩ := by kernel_rfl
theorem textX : (⟨(printT ⟨#[116]⟩ 15 lsX).toArray⟩ : ByteArray) = ⟨#[115, 110, 97, 112, 115, 104, 111, 116, 32, 116, 32, 49, 53, 10, 51, 32, 48, 32, 53, 10, 101, 110, 100, 10]⟩ := by kernel_rfl

set_option maxRecDepth 100000 in
set_option maxHeartbeats 3200000 in
theorem awake_any (w : World) (hT : Lib.TabIs Tryd.prog w "internal/strconv.uint64pow10" .u64 Lib.pow10Tab) (hz : Tz16 w) : Calls Tryd.prog 4 #[] w fun e w' => e = .returned (.bool true) ∧ Below w.heap.size w w' := by
  have HP : Hid (Pow w.heap.size w) := Lib.hid (Lib.tabBelow_of_tabIs hT)
  have HT : Hid (Tz w.heap.size w) := Lib.hid ⟨cell_lt hz, hz⟩
  clear hT hz
  go_enter Tryd.func4, Tryd.ntmps4
  go_wp2_with fail
  refine (New_any _).mono ?_
  rintro e w1 ⟨bb, rfl, h1, b1⟩
  have H1 := Lib.hid h1
  have B1 := Lib.hid b1
  clear h1 b1
  go_wp2_with fail
  refine (ex_begin w.heap.size bb _ H1.out (HP.out.on B1.out) (HT.out.on B1.out)).mono ?_
  rintro e w2 ⟨rfl, h2, b2⟩
  have H2 := Lib.hid h2
  have B2 := Lib.hid (B1.out.trans b2)
  clear h2 b2 H1 B1
  have b3 : Below w2.heap.size w2 (w2.alloc (.cells #[.int .i64 0, .int .i64 5] 36)) := (Below.refl _ _).alloc (Nat.le_refl _) _
  have E3 : Hid (EnX w.heap.size (w2.alloc (.cells #[.int .i64 0, .int .i64 5] 36)) (.slice (some ⟨w2.heap.size, 0, none⟩) 1 1) [(0, 5)]) := Lib.hid (enx_lit _ [(0, 5)] w2 (by unfold InI; decide))
  have H3 := Lib.hid (H2.out.below b3)
  have B3 := Lib.hid (B2.out.trans (b3.mono B2.out.size))
  clear b3 H2 B2
  go_wp2_with fail
  generalize (w2.alloc (.cells #[.int .i64 0, .int .i64 5] 36)) = W3 at *
  refine (put_bx w.heap.size bb 0 1000 3 1 10 _ _ ⟨false, []⟩ _ [(0, 5)] _ H3.out (by rfl) (by rfl) (by rfl) E3.out (by rfl) (by rfl) rfl (fun y hy => by cases hy) (by decide) (by decide) (by decide) (HP.out.on B3.out) (HT.out.on B3.out)).mono ?_
  rintro e w4 ⟨rfl, h4, b4⟩
  have H4 : Hid (Bx w.heap.size w4 bb [((3, 1), ⟨false, [(10, [(0, 5)])]⟩)] [] 21000) := Lib.hid h4
  have B4 := Lib.hid (B3.out.trans b4)
  clear h4 b4 H3 B3 E3
  have b5 : Below w4.heap.size w4 (w4.alloc (.cells #[.int .i64 0, .int .i64 7, .int .i64 1, .int .i64 (-2)] 36)) := (Below.refl _ _).alloc (Nat.le_refl _) _
  have E5 : Hid (EnX w.heap.size (w4.alloc (.cells #[.int .i64 0, .int .i64 7, .int .i64 1, .int .i64 (-2)] 36)) (.slice (some ⟨w4.heap.size, 0, none⟩) 2 2) [(0, 7), (1, -2)]) := Lib.hid (enx_lit _ [(0, 7), (1, -2)] w4 (by unfold InI; decide))
  have H5 := Lib.hid (H4.out.below b5)
  have B5 := Lib.hid (B4.out.trans (b5.mono B4.out.size))
  clear b5 H4 B4
  go_wp2_with fail
  generalize (w4.alloc (.cells #[.int .i64 0, .int .i64 7, .int .i64 1, .int .i64 (-2)] 36)) = W5 at *
  refine (put_bx w.heap.size bb 0 21000 3 1 20 _ _ ⟨false, [(10, [(0, 5)])]⟩ _ [(0, 7), (1, -2)] _ H5.out (by rfl) (by rfl) (by rfl) E5.out (by rfl) (by rfl) rfl (by decide) (by decide) (by decide) (by decide) (HP.out.on B5.out) (HT.out.on B5.out)).mono ?_
  rintro e w6 ⟨rfl, h6, b6⟩
  have H6 : Hid (Bx w.heap.size w6 bb [((3, 1), ⟨false, spX⟩)] [] 41000) := Lib.hid h6
  have B6 := Lib.hid (B5.out.trans b6)
  clear h6 b6 H5 B5 E5
  go_wp2_with fail
  refine (close_bx w.heap.size bb 0 41000 3 1 _ _ ⟨false, spX⟩ _ H6.out (by rfl) (by rfl) (by rfl) rfl (by decide) (by decide) (HP.out.on B6.out) (HT.out.on B6.out)).mono ?_
  rintro e w7 ⟨rfl, h7, b7⟩
  have H7 : Hid (Bx w.heap.size w7 bb [((3, 1), ⟨true, spX⟩)] [] 41100) := Lib.hid h7
  have B7 := Lib.hid (B6.out.trans b7)
  clear h7 b7 H6 B6
  go_wp2_with fail
  refine (ex_tag w.heap.size bb 41100 _ H7.out (by decide) (HP.out.on B7.out) (HT.out.on B7.out)).mono ?_
  rintro e w8 ⟨rfl, h8, b8⟩
  have H8 := Lib.hid h8
  have B8 := Lib.hid (B7.out.trans b8)
  clear h8 b8 H7 B7
  go_wp2_with fail
  refine (ex_resolve w.heap.size bb 42100 _ H8.out).mono ?_
  rintro e w9 ⟨u0, u1, u2, u3, u4, u5, u6, rfl, ⟨g0, g1, g2, g3, g4, g5, g6⟩, b9⟩
  have H9 := Lib.hid (H8.out.below b9)
  have B9 := Lib.hid (B8.out.trans (b9.mono B8.out.size))
  clear b9 H8 B8
  have g3' : EntS w9 u3 [(0, 5)] := g3
  obtain ⟨a0, n0, c0, rfl⟩ := g0.form
  obtain ⟨a1, n1, c1, rfl⟩ := g1.form
  obtain ⟨a2, n2, c2, rfl⟩ := g2.form
  obtain ⟨a4, n4, c4, rfl⟩ := g4.form
  obtain ⟨a5, n5, c5, rfl⟩ := g5.form
  obtain ⟨a6, n6, c6, rfl⟩ := g6.form
  obtain ⟨a3, c3, rfl, _, _, hc3⟩ := g3'
  obtain ⟨sb, so, rfl, _, hcell⟩ := hc3 (by decide)
  obtain ⟨_, v5⟩ := hcell 0 (by decide)
  clear hc3 hcell
  simp only [Nat.mul_zero, Nat.add_zero, List.getElem_cons_zero, List.length_cons, List.length_nil, Nat.zero_add] at v5 g3
  have b10 : Below w9.heap.size w9 (w9.alloc (.cells #[.string ⟨#[116]⟩, .int .i64 15, .slice a0 n0 c0, .slice a1 n1 c1, .slice a2 n2 c2, .slice (some ⟨sb, so, none⟩) 1 c3, .slice a4 n4 c4, .slice a5 n5 c5, .slice a6 n6 c6] 43)) := (Below.refl _ _).alloc (Nat.le_refl _) _
  have X10 : Hid (RF (w9.alloc (.cells #[.string ⟨#[116]⟩, .int .i64 15, .slice a0 n0 c0, .slice a1 n1 c1, .slice a2 n2 c2, .slice (some ⟨sb, so, none⟩) 1 c3, .slice a4 n4 c4, .slice a5 n5 c5, .slice a6 n6 c6] 43)) w9.heap.size 43 9 (fun i => ((#[.string ⟨#[116]⟩, .int .i64 15, .slice a0 n0 c0, .slice a1 n1 c1, .slice a2 n2 c2, .slice (some ⟨sb, so, none⟩) 1 c3, .slice a4 n4 c4, .slice a5 n5 c5, .slice a6 n6 c6] : Array Value)[i]?).getD default)) := Lib.hid (RF_new w9 _ _ 9 _ rfl (fun i hi => by rw [Array.getElem?_eq_getElem hi]; rfl))
  have H10 := Lib.hid (H9.out.below b10)
  have B10 := Lib.hid (B9.out.trans (b10.mono B9.out.size))
  have v5 := bc b10 v5
  have G0 := Lib.hid (g0.below b10)
  have G1 := Lib.hid (g1.below b10)
  have G2 := Lib.hid (g2.below b10)
  have G3 := Lib.hid (g3.below b10)
  have G4 := Lib.hid (g4.below b10)
  have G5 := Lib.hid (g5.below b10)
  have G6 := Lib.hid (g6.below b10)
  clear b10 H9 B9 g0 g1 g2 g3 g4 g5 g6
  go_wp2_with fail
  generalize (w9.alloc (.cells #[.string ⟨#[116]⟩, .int .i64 15, .slice a0 n0 c0, .slice a1 n1 c1, .slice a2 n2 c2, .slice (some ⟨sb, so, none⟩) 1 c3, .slice a4 n4 c4, .slice a5 n5 c5, .slice a6 n6 c6] 43)) = W10 at *
  refine (ex_put w.heap.size bb _ _ H10.out).mono ?_
  rintro e w11 ⟨rfl, b11⟩
  have X11 := Lib.hid (X10.out.below b11)
  have B11 := Lib.hid (B10.out.trans (b11.mono B10.out.size))
  have v5 := bc b11 v5
  have F0 := Lib.hid (G0.out.below b11)
  have F1 := Lib.hid (G1.out.below b11)
  have F2 := Lib.hid (G2.out.below b11)
  have F3 := Lib.hid (G3.out.below b11)
  have F4 := Lib.hid (G4.out.below b11)
  have F5 := Lib.hid (G5.out.below b11)
  have F6 := Lib.hid (G6.out.below b11)
  clear b11 H10 B10 X10 G0 G1 G2 G3 G4 G5 G6
  generalize w9.heap.size = xb at *
  have q0 : w11.cell? ⟨xb, 0, none⟩ = some (.string ⟨#[116]⟩) := X11.out.cell (i := 0) (by omega)
  have q1 : w11.cell? ⟨xb, 1, none⟩ = some (.int .i64 15) := X11.out.cell (i := 1) (by omega)
  have q2 : w11.cell? ⟨xb, 2, none⟩ = some (.slice a0 n0 c0) := X11.out.cell (i := 2) (by omega)
  have q3 : w11.cell? ⟨xb, 3, none⟩ = some (.slice a1 n1 c1) := X11.out.cell (i := 3) (by omega)
  have q4 : w11.cell? ⟨xb, 4, none⟩ = some (.slice a2 n2 c2) := X11.out.cell (i := 4) (by omega)
  have q5 : w11.cell? ⟨xb, 5, none⟩ = some (.slice (some ⟨sb, so, none⟩) 1 c3) := X11.out.cell (i := 5) (by omega)
  have q6 : w11.cell? ⟨xb, 6, none⟩ = some (.slice a4 n4 c4) := X11.out.cell (i := 6) (by omega)
  have q7 : w11.cell? ⟨xb, 7, none⟩ = some (.slice a5 n5 c5) := X11.out.cell (i := 7) (by omega)
  have q8 : w11.cell? ⟨xb, 8, none⟩ = some (.slice a6 n6 c6) := X11.out.cell (i := 8) (by omega)
  go_wp2_with fail
  refine (Digest_any _ _ (by unfold maxLen; decide)).mono ?_
  rintro e w' ⟨rfl, rfl⟩
  obtain ⟨dv, hdv⟩ : ∃ dv, dv = dgL dg0 (⟨#[97]⟩ : ByteArray).data.toList := ⟨_, rfl⟩
  have hdl : dv < 18446744073709551616 := by rw [hdv]; exact dgL0_lt _
  have hdx : (⟨(hexL dv).toArray⟩ : ByteArray) = ⟨#[97, 102, 54, 51, 100, 99, 52, 99, 56, 54, 48, 49, 101, 99, 56, 99]⟩ := by rw [hdv]; exact hexX
  rw [← hdv]
  have HDX := Lib.hid hdx
  clear hdv hdx
  go_wp2_with fail
  refine (Hex_any dv _ hdl (HT.out.on B11.out).2).mono ?_
  rw [HDX.out]
  rintro e w12 ⟨rfl, b12⟩
  have B12 := Lib.hid (B11.out.trans (b12.mono B11.out.size))
  have X12 := Lib.hid (X11.out.below b12)
  have K0 := Lib.hid (F0.out.below b12)
  have K1 := Lib.hid (F1.out.below b12)
  have K2 := Lib.hid (F2.out.below b12)
  have K3 := Lib.hid (F3.out.below b12)
  have K4 := Lib.hid (F4.out.below b12)
  have K5 := Lib.hid (F5.out.below b12)
  have K6 := Lib.hid (F6.out.below b12)
  clear b12 B11 X11 v5 F0 F1 F2 F3 F4 F5 F6 q0 q1 q2 q3 q4 q5 q6 q7 q8
  have q0 : w12.cell? ⟨xb, 0, none⟩ = some (.string ⟨#[116]⟩) := X12.out.cell (i := 0) (by omega)
  have q1 : w12.cell? ⟨xb, 1, none⟩ = some (.int .i64 15) := X12.out.cell (i := 1) (by omega)
  have q2 : w12.cell? ⟨xb, 2, none⟩ = some (.slice a0 n0 c0) := X12.out.cell (i := 2) (by omega)
  have q3 : w12.cell? ⟨xb, 3, none⟩ = some (.slice a1 n1 c1) := X12.out.cell (i := 3) (by omega)
  have q4 : w12.cell? ⟨xb, 4, none⟩ = some (.slice a2 n2 c2) := X12.out.cell (i := 4) (by omega)
  have q5 : w12.cell? ⟨xb, 5, none⟩ = some (.slice (some ⟨sb, so, none⟩) 1 c3) := X12.out.cell (i := 5) (by omega)
  have q6 : w12.cell? ⟨xb, 6, none⟩ = some (.slice a4 n4 c4) := X12.out.cell (i := 6) (by omega)
  have q7 : w12.cell? ⟨xb, 7, none⟩ = some (.slice a5 n5 c5) := X12.out.cell (i := 7) (by omega)
  have q8 : w12.cell? ⟨xb, 8, none⟩ = some (.slice a6 n6 c6) := X12.out.cell (i := 8) (by omega)
  go_wp2_with fail
  refine (Print_any ⟨#[116]⟩ 15 lsX _ _ _ _ _ _ _ _ (by decide) (fun W => isName_t W) (by rfl) (by decide) ⟨K0.out, K1.out, K2.out, K3.out, K4.out, K5.out, K6.out⟩ ((HP.out.on B12.out).mono' B12.out.size)).mono ?_
  rw [textX]
  rintro e w13 ⟨rfl, b13⟩
  have B13 := Lib.hid (B12.out.trans (b13.mono B12.out.size))
  clear b13 B12 X12
  go_wp2_with fail
  go_ret
  exact ⟨rfl, B13.out⟩
end Go.Proofs.YtlegacllbohbmaaDoor
