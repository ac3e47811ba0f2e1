/- A book's log: the sum of a line, a line more. -/
import Derived.Deep.RegionHeld3
import Derived.Deep.RegionLaw
import Derived.Deep.DrawnRows
import Derived.Test.YtlegacllbohbmaaDoorCaH
set_option linter.unusedVariables false
set_option linter.unusedSimpArgs false
namespace Go.Proofs.YtlegacllbohbmaaDoor
open Go.RowKit Go.Shelf
attribute [local go_sem ↓] Go.wp_at_zero Go.wp_at_succ

def upd (f : Nat → Value) (i : Nat) (v : Value) : Nat → Value := fun j => if j = i then v else f j
theorem upd_same (f : Nat → Value) (i : Nat) (v : Value) : upd f i v i = v := if_pos rfl
theorem upd_other (f : Nat → Value) {i j : Nat} (v : Value) (h : j ≠ i) : upd f i v j = f j := if_neg h
theorem RF.upd {w : World} {b : Nat} {t : TypeId} {n : Nat} {f : Nat → Value} (h : RF w b t n f) (i : Nat) (v : Value) : RF (w.setCell ⟨b, i, none⟩ v) b t n (upd f i v) := h.set i v

theorem cat_str (a b : List UInt8) : (⟨a.toArray⟩ : ByteArray) ++ ⟨b.toArray⟩ = ⟨(a ++ b).toArray⟩ := by
  apply ByteArray.ext
  apply Array.toList_inj.1
  rw [cat_size]
theorem size_str (l : List UInt8) : (⟨l.toArray⟩ : ByteArray).size = l.length := by show l.toArray.size = _; simp

theorem _root_.Go.Lib.TabBelow.mono' {P : Program} {B B' : Nat} {w : World} {name : String} {k : IntKind} {zs : List Int} (h : Lib.TabBelow P B w name k zs) (hB : B ≤ B') : Lib.TabBelow P B' w name k zs := fun w' hw => h w' (hw.mono hB)
theorem add_str (a b c : ByteArray) (h : c = a ++ b) (hs : c.size ≤ 9223372036854775807) : ∀ W : World, (Op.stringOp .add a b).run Tryd.prog W = .ok (.string c) W := fun W => by
  rw [run_string_add_if, if_neg (by rw [h, ByteArray.size_append] at hs; omega), h]
theorem By.form {B : Nat} {W : World} {v : Value} {l : List UInt8} (h : By B W v l) : ∃ a n cap, v = .slice a n cap := by
  obtain ⟨a, cap, rfl, _⟩ := Rw.form h
  exact ⟨a, _, cap, rfl⟩
/-- The library's table, below the call's own blocks. -/
def Tz (B : Nat) (w : World) : Prop := (3 : Nat) < B ∧ Tz16 w
theorem Tz.on {B : Nat} {w w' : World} (h : Tz B w) (k : Below B w w') : Tz B w' := ⟨h.1, by
  have := h.2
  unfold Tz16 at this ⊢
  rw [k.cell (p := ⟨3, 15, none⟩) h.1]
  exact this⟩
/-- The sum of a line. -/
def sumN (s : Nat) (text : List UInt8) : Nat := dgL dg0 (hexL s ++ text)
theorem sumN_lt (s : Nat) (text : List UInt8) : sumN s text < 18446744073709551616 := dgL0_lt _

set_option maxHeartbeats 400000 in
theorem sumOf_any (bb s : Nat) (f : Nat → Value) (x : ByteArray) (w : World) (hf : RF w bb 53 12 f) (h11 : f 11 = .int .u64 s) (hs : s < 18446744073709551616) (hx : x.size ≤ 100000000) (ht : Tz16 w) :
    Calls Tryd.prog 45 #[.pointer (some ⟨bb, 0, none⟩), .string x] w fun e w' => e = .returned (.int .u64 (sumN s x.data.toList : Nat)) ∧ Below w.heap.size w w' := by
  have c11 := hf.cell (i := 11) (by omega)
  rw [h11] at c11
  have HT := Lib.hid ht
  clear ht hf h11
  go_enter Tryd.func45, Tryd.ntmps45
  go_wp2_with fail
  refine (Hex_any s _ hs HT.out).mono ?_
  rintro e w1 ⟨rfl, hB⟩
  have HB := Lib.hid hB
  clear hB c11
  obtain ⟨h, hh⟩ : ∃ h : ByteArray, h = ⟨(hexL s).toArray⟩ := ⟨_, rfl⟩
  have h16 : h.size ≤ 16 := by rw [hh, size_str, hexL_len]; exact Nat.le_refl _
  rw [← hh]
  have HH := Lib.hid hh
  clear hh
  go_wp2_with fail
  refine (Digest_any (h ++ x) _ (by unfold maxLen; rw [ByteArray.size_append]; omega)).mono ?_
  rintro e w' ⟨rfl, rfl⟩
  go_wp2_with fail
  go_ret
  exact ⟨ret_u64 (by rw [HH.out]; rfl), HB.out⟩

theorem record_end {B bb : Nat} {g : Nat → Value} {w W3 w4 w5 : World} {lv v5 : Value} {l text hx t3 : List UInt8} (hbb : B ≤ bb) (R3 : RF W3 bb 53 12 g) (L4 : By B w4 lv l) (B3 : Below B w W3) (K3 : Lib.OthersKept 5 (some bb) w W3) (B4 : Below W3.heap.size W3 w4)
    (H5 : By B w5 v5 (l ++ t3)) (G5 : w4.grownBy w5 lv.ownBlock) (E5 : w5.heap[bb]? = W3.heap[bb]?) (et : t3 = text ++ (32 :: (hx ++ [10]))) :
    ∃ lv', RF (w5.setCell ⟨bb, 10, none⟩ v5) bb 53 12 (upd g 10 lv') ∧ By B (w5.setCell ⟨bb, 10, none⟩ v5) lv' (l ++ (text ++ (32 :: (hx ++ [10])))) ∧ Below B w (w5.setCell ⟨bb, 10, none⟩ v5) ∧ Lib.OthersKept 5 (some bb) w (w5.setCell ⟨bb, 10, none⟩ v5) := by
  have R5 := R3.of_block E5
  have hB := R3.lt
  have z4 := B4.size
  have z5 := G5.size
  have ne : ∀ g, v5.ownBlock = some g → g ≠ bb := by
    rintro g hg rfl
    obtain ⟨c, fz, e1⟩ := Rw.kind H5 g hg
    obtain ⟨c2, fz2, e2⟩ := R5.kind
    rw [e1] at e2
    cases e2
  refine ⟨v5, RF.upd R5 10 v5, ?_, ?_, ?_⟩
  · rw [← et]
    exact Rw.same H5 fun g hg => Below.heap_setCell _ _ _ _ (ne g hg)
  · exact ((B3.trans (B4.mono (by omega))).trans (grown_below G5 (fun g hg => (Rw.lt L4 g hg).1) (by omega))).setCell (p := ⟨bb, 10, none⟩) hbb _
  · exact ((K3.below B4).grown G5 (Rw.kind L4)).setCell ⟨bb, 10, none⟩ rfl _

set_option maxHeartbeats 1600000 in
set_option maxRecDepth 100000 in
theorem record_any (B bb s n : Nat) (f v : Nat → Value) (v' : Nat → Int) (lv : Value) (l : List UInt8) (x : ByteArray) (nv : Value) (w : World) (hf : RF w bb 53 12 f) (hbb : B ≤ bb) (h10 : f 10 = lv) (h11 : f 11 = .int .u64 s) (hs : s < 18446744073709551616) (hl : By B w lv l) (hlen : l.length ≤ 100000000000)
    (hx : x.size ≤ 1000) (hn : n ≤ 1000) (hnv : NumS w nv n v') (hp : Pow B w) (ht : Tz B w) :
    Calls Tryd.prog 21 #[.pointer (some ⟨bb, 0, none⟩), .string x, nv] w fun e w' => e = .returned (.tuple #[]) ∧
      ∃ lv', RF w' bb 53 12 (upd (upd f 11 (.int .u64 (sumN s (x.data.toList ++ numsL v' n) : Nat))) 10 lv') ∧ By B w' lv' (l ++ ((x.data.toList ++ numsL v' n) ++ (32 :: (hexL (sumN s (x.data.toList ++ numsL v' n)) ++ [10])))) ∧ Below B w w' ∧ Lib.OthersKept 5 (some bb) w w' := by
  have hB : B ≤ w.heap.size := by have := hf.lt; omega
  have HN := Lib.hid hnv
  have HP := Lib.hid hp
  have HT := Lib.hid ht
  have HF := Lib.hid hf
  have HL := Lib.hid hl
  have H10 := Lib.hid h10
  have H11 := Lib.hid h11
  clear hnv hp ht hl h10 h11
  have hlt := hf.lt
  clear hf
  go_enter Tryd.func21, Tryd.ntmps21
  go_wp2_with fail
  refine (join_any x nv n v' w (by omega) (by omega) HN.out (HP.out.mono' hB)).mono ?_
  rintro e w1 ⟨rfl, b1⟩
  have B1 := Lib.hid b1
  clear b1
  have tl : (x.data.toList ++ numsL v' n).length ≤ 30000 := by
    have := numsL_len v' n (by obtain ⟨_, _, _, hv, _⟩ := HN.out; exact hv)
    have e : x.data.toList.length = x.size := Array.length_toList
    rw [List.length_append]; omega
  generalize hTX : x.data.toList ++ numsL v' n = text at *
  have HTX := Lib.hid hTX
  clear hTX
  obtain ⟨tx, htx⟩ : ∃ tx : ByteArray, tx = ⟨text.toArray⟩ := ⟨_, rfl⟩
  have hts : tx.size ≤ 30000 := by rw [htx, size_str]; exact tl
  have htl : tx.data.toList = text := by rw [htx]
  rw [← htx]
  have TL := Lib.hid htl
  clear htx htl HN HP
  go_wp2_with fail
  refine (sumOf_any bb s f tx _ (HF.out.below B1.out) H11.out hs (by omega) (HT.out.2.below B1.out)).mono ?_
  rw [TL.out]
  rintro e w2 ⟨rfl, b2⟩
  have hs' := sumN_lt s text
  have R2 := Lib.hid ((HF.out.below B1.out).below b2)
  have B2 : Hid (Below w.heap.size w w2) := Lib.hid (Below.up B1.out b2)
  clear b2 B1
  generalize hS : sumN s text = s' at *
  have HSX := Lib.hid hS
  clear hS
  have cc := R2.out.cell (i := 11) (by omega)
  have ff := R2.out.frozen (i := 11) (by omega)
  go_wp2_with fail
  clear cc ff
  have L2 := Lib.hid (HL.out.below B2.out)
  have R3 := Lib.hid (R2.out.upd 11 (.int .u64 (s' : Nat)))
  have b3 : Below B w (w2.setCell ⟨bb, 11, none⟩ (.int .u64 (s' : Nat))) := (B2.out.mono hB).setCell (p := ⟨bb, 11, none⟩) hbb _
  have B3 := Lib.hid b3
  have K3 : Hid (Lib.OthersKept 5 (some bb) w (w2.setCell ⟨bb, 11, none⟩ (.int .u64 (s' : Nat)))) := Lib.hid (((Lib.OthersKept.refl _ _ w).below B2.out).setCell ⟨bb, 11, none⟩ rfl _)
  have L3 : Hid (By B (w2.setCell ⟨bb, 11, none⟩ (.int .u64 (s' : Nat))) lv l) := Lib.hid (L2.out.same fun g hg => Below.heap_setCell _ _ _ _ (by
    rintro rfl
    obtain ⟨c, fz, e1⟩ := L2.out.kind _ hg
    obtain ⟨c2, fz2, e2⟩ := R2.out.kind
    rw [e1] at e2
    cases e2))
  have T3 := Lib.hid (HT.out.on B3.out).2
  have z3 : (w2.setCell ⟨bb, 11, none⟩ (.int .u64 (s' : Nat))).heap.size = w2.heap.size := by simp
  have z2 := B2.out.size
  generalize (w2.setCell ⟨bb, 11, none⟩ (.int .u64 (s' : Nat))) = W3 at *
  clear b3 R2 L2 B2 HT
  have r10 : W3.cell? ⟨bb, 10, none⟩ = some lv := by
    rw [R3.out.cell (by omega : 10 < 12), upd_other f _ (by omega), H10.out]
  have r11 : W3.cell? ⟨bb, 11, none⟩ = some (.int .u64 (s' : Nat)) := by
    rw [R3.out.cell (by omega : 11 < 12), upd_same]
  have q10 := R3.out.frozen (i := 10) (by omega)
  have S0 := Lib.hid (⟨r10, r11, q10⟩ : W3.cell? ⟨bb, 10, none⟩ = some lv ∧ W3.cell? ⟨bb, 11, none⟩ = some (.int .u64 (s' : Nat)) ∧ W3.frozen? ⟨bb, 10, none⟩ = false)
  have M := Lib.hid (show ∀ w' : World, w'.heap[bb]? = W3.heap[bb]? → w'.cell? ⟨bb, 10, none⟩ = some lv ∧ w'.cell? ⟨bb, 11, none⟩ = some (.int .u64 (s' : Nat)) ∧ w'.frozen? ⟨bb, 10, none⟩ = false from fun w' h => ⟨(World.cell?_of_block (w := W3) h).trans S0.out.1, (World.cell?_of_block (w := W3) h).trans S0.out.2.1, (World.frozen?_of_block (w := W3) h).trans S0.out.2.2⟩)
  have D := Lib.hid (Below.drew (Below.refl W3.heap.size W3))
  have TD := Lib.hid (T3.out.below D.out)
  obtain ⟨h, hh⟩ : ∃ h : ByteArray, h = ⟨(hexL s').toArray⟩ := ⟨_, rfl⟩
  have h16 : h.size ≤ 16 := by rw [hh, size_str, hexL_len]; exact Nat.le_refl _
  have HX := Lib.hid (fun W (hT : Tz16 W) => Hex_any s' W hs' hT)
  rw [← hh] at HX
  have HH := Lib.hid hh
  clear hh
  have hW : bb < W3.heap.size := R3.out.lt
  obtain ⟨t1, h1⟩ : ∃ t1 : ByteArray, t1 = tx ++ ⟨#[32]⟩ := ⟨_, rfl⟩
  obtain ⟨t2, h2⟩ : ∃ t2 : ByteArray, t2 = t1 ++ h := ⟨_, rfl⟩
  obtain ⟨t3, h3⟩ : ∃ t3 : ByteArray, t3 = t2 ++ ⟨#[10]⟩ := ⟨_, rfl⟩
  have q1 : t1.size = tx.size + 1 := by rw [h1, ByteArray.size_append]; rfl
  have q2 : t2.size = t1.size + h.size := by rw [h2, ByteArray.size_append]
  have q3 : t3.size = t2.size + 1 := by rw [h3, ByteArray.size_append]; rfl
  have e1 := add_str tx ⟨#[32]⟩ t1 h1 (by omega)
  have e2 := add_str t1 h t2 h2 (by omega)
  have e3 := add_str t2 ⟨#[10]⟩ t3 h3 (by omega)
  have ql : t3.size ≤ 40000 := by omega
  have H1 := Lib.hid h1
  have H2 := Lib.hid h2
  have H3 := Lib.hid h3
  clear h1 h2 h3 q1 q2 q3
  have ET : Hid (t3.data.toList = text ++ (32 :: (hexL s' ++ [10]))) := Lib.hid (by rw [H3.out, cat_size, H2.out, cat_size, H1.out, cat_size, TL.out, HH.out]; simp)
  clear H1 H2 H3 HH TL
  go_region_law
    (first
      | (rw [if_pos (by rfl)]; go_simp; go_at_call 7; ((with_reducible refine (HX.out _ TD.out).mono ?_); rintro e w4 ⟨rfl, b4⟩; have B4 := Lib.hid (Below.up D.out b4); have L4 := Lib.hid (L3.out.below B4.out); have z4 := B4.out.size; have c4 := (M.out _ (B4.out.block bb hW)).1; have d4 := (M.out _ (B4.out.block bb hW)).2.1; clear b4; dsimp only))
      | ((refine step_append_str rfl _ _ (by rfl) (by rfl) L4.out _ (by rfl) (by omega) (by omega) ?_); intro v5 w5 h5 g5 l5; obtain ⟨a5, m5, k5, rfl⟩ := By.form h5; have H5 := Lib.hid h5; have G5 := Lib.hid g5; have E5 : Hid (w5.heap[bb]? = W3.heap[bb]?) := Lib.hid ((g5.block bb (by omega) (fun e => by obtain ⟨c, fz, e1⟩ := L4.out.kind bb e.symm; obtain ⟨c2, fz2, e2⟩ := (R3.out.below B4.out).kind; rw [e1] at e2; cases e2)).trans (B4.out.block bb hW)); have c5 := (M.out _ E5.out).1; have f5 := (M.out _ E5.out).2.2; clear h5 g5 l5))
  all_goals
    go_end0
    rw [HTX.out, HSX.out]
    exact ⟨rfl, record_end hbb R3.out L4.out B3.out K3.out B4.out H5.out G5.out E5.out ET.out⟩
end Go.Proofs.YtlegacllbohbmaaDoor
