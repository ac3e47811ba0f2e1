/- Layer 3: the example printed. -/
import Derived.Test.YteoahbpfhfjfmaaGreatDoorDsD
import Derived.Test.YteoahbpfhfjfmaaGreatDoorDcC
import Derived.LoopN
set_option linter.unusedVariables false
set_option linter.unusedSimpArgs false
namespace Go.Proofs.YteoahbpfhfjfmaaGreatDoor
open Go.RowKit

/-- The box of a struct, and the pointers to its numbers. -/
theorem flds_new (W : World) (vals : Array Value) (T : TypeId) (hT : T ≠ 5) (m : Nat) (v : Nat → Int) (W' : World) (hB : Below (W.alloc (.cells vals T)).heap.size (W.alloc (.cells vals T)) W') (fb : Nat) (hf : W'.heap[fb]? = some (.cells (ptrs W.heap.size m) 146 (0, 0)))
    (hv : ∀ k, k < m → vals[k]? = some (.int .i64 (v k)) ∧ -9223372036854775808 ≤ v k ∧ v k ≤ 9223372036854775807) : Flds W' fb W.heap.size m v := by
  refine ⟨ptrs W.heap.size m, 146, vals, T, hf, by decide, ?_, hT, fun k hk => ⟨by simp [ptrs, hk], (hv k hk).1, (hv k hk).2⟩⟩
  rw [hB.block W.heap.size (by simp)]
  exact World.alloc_heap_new W _

theorem plane_vals (k : Nat) (hk : k < 7) : (#[.int .i64 0, .int .i64 100, .int .i64 4, .int .i64 2, .int .i64 5, .int .i64 7, .int .i64 1] : Array Value)[k]? = some (.int .i64 (exP 0 k)) ∧ -9223372036854775808 ≤ exP 0 k ∧ exP 0 k ≤ 9223372036854775807 := by
  match k, hk with
  | 0, _ | 1, _ | 2, _ | 3, _ | 4, _ | 5, _ | 6, _ => exact ⟨rfl, by decide, by decide⟩
theorem slab_vals (k : Nat) (hk : k < 4) : (#[.int .i64 0, .int .i64 10, .int .i64 20, .int .i64 3] : Array Value)[k]? = some (.int .i64 (exF 0 k)) ∧ -9223372036854775808 ≤ exF 0 k ∧ exF 0 k ≤ 9223372036854775807 := by
  match k, hk with
  | 0, _ | 1, _ | 2, _ | 3, _ => exact ⟨rfl, by decide, by decide⟩
theorem cable_vals (k : Nat) (hk : k < 9) : (#[.int .i64 2, .int .i64 5, .int .i64 0, .int .i64 1, .int .i64 0, .int .i64 3, .int .i64 2, .int .i64 100, .int .i64 200] : Array Value)[k]? = some (.int .i64 (exC 0 k)) ∧ -9223372036854775808 ≤ exC 0 k ∧ exC 0 k ≤ 9223372036854775807 := by
  match k, hk with
  | 0, _ | 1, _ | 2, _ | 3, _ | 4, _ | 5, _ | 6, _ | 7, _ | 8, _ => exact ⟨rfl, by decide, by decide⟩

/-- What stands in the text of the example. -/
def exText : List UInt8 := [100, 101, 116, 101, 99, 116, 111, 114, 32, 97, 10] ++ [112, 108, 97, 110, 101] ++ numsL (exP 0) 7 ++ [10] ++ [115, 108, 97, 98] ++ numsL (exF 0) 4 ++ [10] ++ [99, 97, 98, 108, 101] ++ numsL (exC 0) 9 ++ [10]

set_option maxRecDepth 20000 in
set_option maxHeartbeats 1600000 in
theorem Print_ex (b1 b2 b3 : Nat) (w : World) (h : Ex w b1 b2 b3) (hT : Lib.TabIs Tryz.prog w "internal/strconv.uint64pow10" .u64 Lib.pow10Tab) :
    Calls Tryz.prog 38 #[exV b1 b2 b3] w fun e w' => e = .returned (.string ⟨exText.toArray⟩) ∧ Below w.heap.size w w' := by
  have HE := Lib.hid h
  have HT := Lib.hid (Lib.tabBelow_of_tabIs hT)
  clear h hT
  go_enter Tryz.func38, Tryz.ntmps38
  go_wp2_with fail
  refine (isValid_ex b1 b2 b3 _ (HE.out.below (by repeat (first | exact Below.refl _ _ | exact Nat.le_refl _ | (apply Below.alloc) | (apply Below.drew) | (simp <;> omega))))).mono ?_
  rintro e w1 ⟨rfl, hB⟩
  have c0 := bc hB (b := w.heap.size) (o := 0) (v := .string ⟨#[97]⟩) (by simp [go_sem])
  have c1 := bc hB (b := w.heap.size) (o := 1) (v := .slice (some ⟨b1, 0, none⟩) 1 1) (by simp [go_sem])
  have c2 := bc hB (b := w.heap.size) (o := 2) (v := .slice (some ⟨b2, 0, none⟩) 1 1) (by simp [go_sem])
  have c3 := bc hB (b := w.heap.size) (o := 3) (v := .slice (some ⟨b3, 0, none⟩) 1 1) (by simp [go_sem])
  have lc := cell_lt c0
  have B1 : Hid (Below w.heap.size w w1) := Lib.hid (Below.up (u := w) (by repeat (first | exact Below.refl _ _ | exact Nat.le_refl _ | (apply Below.alloc) | (apply Below.drew) | (simp <;> omega))) hB)
  have E1 := Lib.hid (HE.out.below B1.out)
  have HB0 : Hid (Bu w1.heap.size w1.heap.size [] (w1.alloc (.cells #[.pointer none, .slice none 0 0] 112))) := Lib.hid (Lib.IsBuilderF.of (Lib.fresh_isBuilder _ _ w1))
  clear hB HE
  go_wp2_with fail
  refine (write_any w1.heap.size w1.heap.size [] _ _ HB0.out (by show 0 + 11 ≤ 1000000; omega) (by simp)).mono ?_
  rintro e w2 ⟨rfl, h2, b2', k2⟩
  have H2 : Hid (Bu w1.heap.size w1.heap.size [100, 101, 116, 101, 99, 116, 111, 114, 32, 97, 10] w2) := Lib.hid h2
  have D2 : Hid (Below w1.heap.size w1 w2) := Lib.hid (((Below.refl _ _).alloc (Nat.le_refl _) _).trans b2')
  clear h2 b2' k2 HB0
  have p2 := bc D2.out c1
  have lp2 := cell_lt p2
  have E2 := Lib.hid (E1.out.below D2.out)
  obtain ⟨x0, x1, x2, x3, x4, x5, x6, _⟩ := E2.out
  have lx := cell_lt x0
  have FN : Hid (∀ W', Below (w2.alloc (.cells #[.int .i64 0, .int .i64 100, .int .i64 4, .int .i64 2, .int .i64 5, .int .i64 7, .int .i64 1] 43)).heap.size (w2.alloc (.cells #[.int .i64 0, .int .i64 100, .int .i64 4, .int .i64 2, .int .i64 5, .int .i64 7, .int .i64 1] 43)) W' → ∀ fb, W'.heap[fb]? = some (.cells (ptrs w2.heap.size 7) 146 (0, 0)) → Flds W' fb w2.heap.size 7 (exP 0)) := Lib.hid fun W' hW fb hf => flds_new w2 _ _ (by decide) 7 (exP 0) W' hW fb hf plane_vals
  have hs1 : w1.heap.size ≤ w2.heap.size := D2.out.size
  have hs2 : w1.heap.size < w2.heap.size := (D2.out.size |> fun h => by have := H2.out.elim (fun x => x.lt) (fun x => x.lt); exact this)
  go_wp2_with fail
  refine wp_loop_rounds 2 ?_
  rw [rounds_succ]
  go_wp2_with fail
  refine (planeFields_any w2.heap.size _).mono ?_
  rintro e wa ⟨rfl, hfa, hba⟩
  have LB : Hid (([100, 101, 116, 101, 99, 116, 111, 114, 32, 97, 10]).length ≤ 1000) := Lib.hid (by have q1 := numsL_len (exP 0) 7 (fun j _ => exP_bd 0 j); have q2 := numsL_len (exF 0) 4 (fun j _ => exF_bd 0 j); simp only [List.length_append, List.length_cons, List.length_nil]; omega)
  rw [World.size_alloc] at hfa
  have F_ := Lib.hid (FN.out wa hba _ hfa)
  have BA : Hid (Below w2.heap.size w2 wa) := Lib.hid (((Below.refl _ _).alloc (Nat.le_refl _) _).trans (hba.mono (by simp)))
  have hsa : w2.heap.size < wa.heap.size := by have := hba.size; simp at this; omega
  clear hfa hba FN
  go_wp2_with fail
  have TB := HT.out.on (B1.out.trans ((D2.out.mono (by have := B1.out.size; omega)).trans (BA.out.mono (by have := B1.out.size; omega))))
  have TB2 := Lib.hid (TB.mono' (B' := w1.heap.size) (by have := B1.out.size; omega))
  clear TB
  have hlw : Hid (([100, 101, 116, 101, 99, 116, 111, 114, 32, 97, 10]).length + (⟨#[112, 108, 97, 110, 101]⟩ : ByteArray).size ≤ 100000) := Lib.hid (by rw [show (⟨#[112, 108, 97, 110, 101]⟩ : ByteArray).size = 5 from rfl]; have := LB.out; omega)
  have WL := Lib.hid (writeLine_any w1.heap.size w1.heap.size ([100, 101, 116, 101, 99, 116, 111, 114, 32, 97, 10]) ⟨#[112, 108, 97, 110, 101]⟩ (w2.heap.size + 1) w2.heap.size 7 (exP 0) wa (H2.out.old BA.out) (by omega) hlw.out (by omega) F_.out (by omega) (by omega) TB2.out)
  refine WL.out.mono ?_
  rintro e w3 ⟨rfl, h3, b3', k3⟩
  have H3 : Hid (Bu w1.heap.size w1.heap.size ([100, 101, 116, 101, 99, 116, 111, 114, 32, 97, 10] ++ [112, 108, 97, 110, 101] ++ numsL (exP 0) 7 ++ [10]) w3) := Lib.hid h3
  have D3 : Hid (Below w1.heap.size w1 w3) := Lib.hid ((D2.out.trans (BA.out.mono (by omega))).trans b3')
  clear h3 b3' k3 F_ BA WL TB2 hlw LB
  have p3 := bc D3.out c2
  have lp3 := cell_lt p3
  go_wp2_with fail
  rw [rounds_succ]
  go_wp2_with fail
  clear x0 x1 x2 x3 x4 x5 x6
  have E3 := Lib.hid (E1.out.below D3.out)
  obtain ⟨_, _, _, _, _, _, _, x0, x1, x2, x3, _⟩ := E3.out
  have lx := cell_lt x0
  have FN : Hid (∀ W', Below (w3.alloc (.cells #[.int .i64 0, .int .i64 10, .int .i64 20, .int .i64 3] 77)).heap.size (w3.alloc (.cells #[.int .i64 0, .int .i64 10, .int .i64 20, .int .i64 3] 77)) W' → ∀ fb, W'.heap[fb]? = some (.cells (ptrs w3.heap.size 4) 146 (0, 0)) → Flds W' fb w3.heap.size 4 (exF 0)) := Lib.hid fun W' hW fb hf => flds_new w3 _ _ (by decide) 4 (exF 0) W' hW fb hf slab_vals
  have hs1 : w1.heap.size ≤ w3.heap.size := D3.out.size
  have hs2 : w1.heap.size < w3.heap.size := (D3.out.size |> fun h => by have := H3.out.elim (fun x => x.lt) (fun x => x.lt); exact this)
  go_wp2_with fail
  refine wp_loop_rounds 2 ?_
  rw [rounds_succ]
  go_wp2_with fail
  refine (slabFields_any w3.heap.size _).mono ?_
  rintro e wa ⟨rfl, hfa, hba⟩
  have LB : Hid (([100, 101, 116, 101, 99, 116, 111, 114, 32, 97, 10] ++ [112, 108, 97, 110, 101] ++ numsL (exP 0) 7 ++ [10]).length ≤ 1000) := Lib.hid (by have q1 := numsL_len (exP 0) 7 (fun j _ => exP_bd 0 j); have q2 := numsL_len (exF 0) 4 (fun j _ => exF_bd 0 j); simp only [List.length_append, List.length_cons, List.length_nil]; omega)
  rw [World.size_alloc] at hfa
  have F_ := Lib.hid (FN.out wa hba _ hfa)
  have BA : Hid (Below w3.heap.size w3 wa) := Lib.hid (((Below.refl _ _).alloc (Nat.le_refl _) _).trans (hba.mono (by simp)))
  have hsa : w3.heap.size < wa.heap.size := by have := hba.size; simp at this; omega
  clear hfa hba FN
  go_wp2_with fail
  have TB := HT.out.on (B1.out.trans ((D3.out.mono (by have := B1.out.size; omega)).trans (BA.out.mono (by have := B1.out.size; omega))))
  have TB2 := Lib.hid (TB.mono' (B' := w1.heap.size) (by have := B1.out.size; omega))
  clear TB
  have hlw : Hid (([100, 101, 116, 101, 99, 116, 111, 114, 32, 97, 10] ++ [112, 108, 97, 110, 101] ++ numsL (exP 0) 7 ++ [10]).length + (⟨#[115, 108, 97, 98]⟩ : ByteArray).size ≤ 100000) := Lib.hid (by rw [show (⟨#[115, 108, 97, 98]⟩ : ByteArray).size = 4 from rfl]; have := LB.out; omega)
  have WL := Lib.hid (writeLine_any w1.heap.size w1.heap.size ([100, 101, 116, 101, 99, 116, 111, 114, 32, 97, 10] ++ [112, 108, 97, 110, 101] ++ numsL (exP 0) 7 ++ [10]) ⟨#[115, 108, 97, 98]⟩ (w3.heap.size + 1) w3.heap.size 4 (exF 0) wa (H3.out.old BA.out) (by omega) hlw.out (by omega) F_.out (by omega) (by omega) TB2.out)
  refine WL.out.mono ?_
  rintro e w4 ⟨rfl, h3, b3', k3⟩
  have H4 : Hid (Bu w1.heap.size w1.heap.size ([100, 101, 116, 101, 99, 116, 111, 114, 32, 97, 10] ++ [112, 108, 97, 110, 101] ++ numsL (exP 0) 7 ++ [10] ++ [115, 108, 97, 98] ++ numsL (exF 0) 4 ++ [10]) w4) := Lib.hid h3
  have D4 : Hid (Below w1.heap.size w1 w4) := Lib.hid ((D3.out.trans (BA.out.mono (by omega))).trans b3')
  clear h3 b3' k3 F_ BA WL TB2 hlw LB
  have p4 := bc D4.out c3
  have lp4 := cell_lt p4
  go_wp2_with fail
  rw [rounds_succ]
  go_wp2_with fail
  clear x0 x1 x2 x3
  have E4 := Lib.hid (E1.out.below D4.out)
  obtain ⟨_, _, _, _, _, _, _, _, _, _, _, x0, x1, x2, x3, x4, x5, x6, x7, x8⟩ := E4.out
  have lx := cell_lt x0
  have FN : Hid (∀ W', Below (w4.alloc (.cells #[.int .i64 2, .int .i64 5, .int .i64 0, .int .i64 1, .int .i64 0, .int .i64 3, .int .i64 2, .int .i64 100, .int .i64 200] 30)).heap.size (w4.alloc (.cells #[.int .i64 2, .int .i64 5, .int .i64 0, .int .i64 1, .int .i64 0, .int .i64 3, .int .i64 2, .int .i64 100, .int .i64 200] 30)) W' → ∀ fb, W'.heap[fb]? = some (.cells (ptrs w4.heap.size 9) 146 (0, 0)) → Flds W' fb w4.heap.size 9 (exC 0)) := Lib.hid fun W' hW fb hf => flds_new w4 _ _ (by decide) 9 (exC 0) W' hW fb hf cable_vals
  have hs1 : w1.heap.size ≤ w4.heap.size := D4.out.size
  have hs2 : w1.heap.size < w4.heap.size := (D4.out.size |> fun h => by have := H4.out.elim (fun x => x.lt) (fun x => x.lt); exact this)
  go_wp2_with fail
  refine wp_loop_rounds 2 ?_
  rw [rounds_succ]
  go_wp2_with fail
  refine (cableFields_any w4.heap.size _).mono ?_
  rintro e wa ⟨rfl, hfa, hba⟩
  have LB : Hid (([100, 101, 116, 101, 99, 116, 111, 114, 32, 97, 10] ++ [112, 108, 97, 110, 101] ++ numsL (exP 0) 7 ++ [10] ++ [115, 108, 97, 98] ++ numsL (exF 0) 4 ++ [10]).length ≤ 1000) := Lib.hid (by have q1 := numsL_len (exP 0) 7 (fun j _ => exP_bd 0 j); have q2 := numsL_len (exF 0) 4 (fun j _ => exF_bd 0 j); simp only [List.length_append, List.length_cons, List.length_nil]; omega)
  rw [World.size_alloc] at hfa
  have F_ := Lib.hid (FN.out wa hba _ hfa)
  have BA : Hid (Below w4.heap.size w4 wa) := Lib.hid (((Below.refl _ _).alloc (Nat.le_refl _) _).trans (hba.mono (by simp)))
  have hsa : w4.heap.size < wa.heap.size := by have := hba.size; simp at this; omega
  clear hfa hba FN
  go_wp2_with fail
  have TB := HT.out.on (B1.out.trans ((D4.out.mono (by have := B1.out.size; omega)).trans (BA.out.mono (by have := B1.out.size; omega))))
  have TB2 := Lib.hid (TB.mono' (B' := w1.heap.size) (by have := B1.out.size; omega))
  clear TB
  have hlw : Hid (([100, 101, 116, 101, 99, 116, 111, 114, 32, 97, 10] ++ [112, 108, 97, 110, 101] ++ numsL (exP 0) 7 ++ [10] ++ [115, 108, 97, 98] ++ numsL (exF 0) 4 ++ [10]).length + (⟨#[99, 97, 98, 108, 101]⟩ : ByteArray).size ≤ 100000) := Lib.hid (by rw [show (⟨#[99, 97, 98, 108, 101]⟩ : ByteArray).size = 5 from rfl]; have := LB.out; omega)
  have WL := Lib.hid (writeLine_any w1.heap.size w1.heap.size ([100, 101, 116, 101, 99, 116, 111, 114, 32, 97, 10] ++ [112, 108, 97, 110, 101] ++ numsL (exP 0) 7 ++ [10] ++ [115, 108, 97, 98] ++ numsL (exF 0) 4 ++ [10]) ⟨#[99, 97, 98, 108, 101]⟩ (w4.heap.size + 1) w4.heap.size 9 (exC 0) wa (H4.out.old BA.out) (by omega) hlw.out (by omega) F_.out (by omega) (by omega) TB2.out)
  refine WL.out.mono ?_
  rintro e w5 ⟨rfl, h3, b3', k3⟩
  have H5 : Hid (Bu w1.heap.size w1.heap.size ([100, 101, 116, 101, 99, 116, 111, 114, 32, 97, 10] ++ [112, 108, 97, 110, 101] ++ numsL (exP 0) 7 ++ [10] ++ [115, 108, 97, 98] ++ numsL (exF 0) 4 ++ [10] ++ [99, 97, 98, 108, 101] ++ numsL (exC 0) 9 ++ [10]) w5) := Lib.hid h3
  have D5 : Hid (Below w1.heap.size w1 w5) := Lib.hid ((D4.out.trans (BA.out.mono (by omega))).trans b3')
  clear h3 b3' k3 F_ BA WL TB2 hlw LB
  go_wp2_with fail
  rw [rounds_succ]
  go_wp2_with fail
  clear x0 x1 x2 x3 x4 x5 x6 x7 x8
  refine (string_any w1.heap.size w1.heap.size exText _ H5.out D5.out.size).mono ?_
  rintro e w6 ⟨rfl, hB⟩
  have B6 : Hid (Below w.heap.size w w6) := Lib.hid (B1.out.trans ((D5.out.trans hB).mono B1.out.size))
  clear hB
  go_wp2_with fail
  go_ret
  exact ⟨rfl, B6.out⟩
end Go.Proofs.YteoahbpfhfjfmaaGreatDoor
