/- Layer 3: contracts: words of a line. -/
import Derived.Test.YteoahbpfhfjfmaaGreatDoorDsB
import Derived.StillTailTactics
set_option linter.unusedVariables false
set_option linter.unusedSimpArgs false
namespace Go.Proofs.YteoahbpfhfjfmaaGreatDoor
open Go.RowKit Go.Shelf

/-- The library's own variable holds some integer. -/
def ML (w : World) : Prop := ∃ m : Int, w.cell? ⟨1, 0, none⟩ = some (.int .i64 m)
theorem ML.below {w w' : World} (h : ML w) (hB : Below w.heap.size w w') : ML w' := by
  obtain ⟨m, h⟩ := h
  exact ⟨m, bc hB h⟩
theorem ML.lt {w : World} (h : ML w) : 1 < w.heap.size := by
  obtain ⟨m, h⟩ := h
  exact cell_lt h
theorem ML.heap {w w' : World} (h : ML w) (e : w'.heap[1]? = w.heap[1]?) : ML w' := by
  obtain ⟨m, h⟩ := h
  refine ⟨m, ?_⟩
  rw [← h]; unfold World.cell?; simp only [e]
theorem cut_any (s sep a b : List UInt8) (f : Bool) (hs : s.length < 1000000) (he : Lib.cut s sep = (a, b, f)) (w : World) (hm : ML w) :
    Calls Tryz.prog 105 #[.string ⟨s.toArray⟩, .string ⟨sep.toArray⟩] w fun e w' => e = .returned (.tuple #[.string ⟨a.toArray⟩, .string ⟨b.toArray⟩, .bool f]) ∧ ∃ n, w' = w.drewN n := by
  obtain ⟨m, hm⟩ := hm
  have h := Any.strings_Cut lays145 ⟨s.toArray⟩ ⟨sep.toArray⟩ m w (by show s.toArray.size < _; simp; omega) (by rw [show lays145_ren.g 1 = 1 by kernel_rfl]; exact hm)
  rw [show lays145_ren.f 145 = 105 by kernel_rfl] at h
  refine h.mono fun e w' ⟨h1, h2⟩ => ⟨?_, h2⟩
  rw [h1]
  simp only [he]
theorem clone_any (s : ByteArray) (w : World) (hs : s.size ≤ 1000000) : Calls Tryz.prog 94 #[.string s] w fun e w' => e = .returned (.string s) ∧ Below w.heap.size w w' := by
  go_enter Tryz.func94, Tryz.ntmps94
  go_wp2_with fail
  have h := Any.stringslite_Clone laysM316 s w (by omega)
  rw [show laysM316_ren.f 316 = 107 by kernel_rfl] at h
  refine h.mono ?_
  rintro e w1 ⟨rfl, hB⟩
  have B1 := Lib.hid hB
  clear hB
  go_wp2_with fail
  go_ret
  exact ⟨rfl, B1.out⟩
theorem words_any (s : ByteArray) (w : World) : Calls Tryz.prog 92 #[.string s] w fun e w' => e = .returned (.func (.func 106) #[] #[.pointer (some ⟨w.heap.size + 1, 0, none⟩), .pointer (some ⟨w.heap.size, 0, none⟩)]) ∧ w' = (w.alloc (.cells #[.string s] 9)).alloc (.cells #[.bool true] 4) := by
  go_enter Tryz.func92, Tryz.ntmps92
  go_wp2_with fail
  go_ret
  exact ⟨rfl, rfl⟩
theorem lines_any (s : ByteArray) (w : World) : Calls Tryz.prog 91 #[.string s] w fun e w' => e = .returned (.func (.func 104) #[] #[.pointer (some ⟨w.heap.size, 0, none⟩)]) ∧ w' = w.alloc (.cells #[.string s] 9) := by
  go_enter Tryz.func91, Tryz.ntmps91
  go_wp2_with fail
  go_ret
  exact ⟨rfl, rfl⟩
/-- What a call of next leaves: the line's box holds what is left, the other one whether there is more. -/
theorem next_more (pm ps : Nat) (s a b : List UInt8) (f : Bool) (w : World) (hm : ML w) (hs : s.length < 1000000) (he : Lib.cut s [32] = (a, b, f)) (c1 : w.cell? ⟨pm, 0, none⟩ = some (.bool true)) (c2 : w.cell? ⟨ps, 0, none⟩ = some (.string ⟨s.toArray⟩)) (f1 : w.frozen? ⟨pm, 0, none⟩ = false) (f2 : w.frozen? ⟨ps, 0, none⟩ = false) (hne : pm ≠ ps) :
    Calls Tryz.prog 106 #[.pointer (some ⟨pm, 0, none⟩), .pointer (some ⟨ps, 0, none⟩)] w fun e w' => e = .returned (.tuple #[.string ⟨a.toArray⟩, .bool true]) ∧ ∃ n, w' = ((w.setCell ⟨ps, 0, none⟩ (.string ⟨b.toArray⟩)).setCell ⟨pm, 0, none⟩ (.bool f)).drewN n := by
  have C := Lib.hid (cut_any s [32] a b f hs he w hm)
  have l1 := cell_lt c1
  have l2 := cell_lt c2
  have hne' : ps ≠ pm := Ne.symm hne
  go_enter Tryz.func106, Tryz.ntmps106
  go_wp2_with fail
  refine C.out.mono ?_
  rintro e w1 ⟨rfl, n, rfl⟩
  go_wp2_with fail
  go_ret2
  exact ⟨rfl, n, rfl⟩
theorem next_none (pm ps : Nat) (w : World) (c1 : w.cell? ⟨pm, 0, none⟩ = some (.bool false)) :
    Calls Tryz.prog 106 #[.pointer (some ⟨pm, 0, none⟩), .pointer (some ⟨ps, 0, none⟩)] w fun e w' => e = .returned (.tuple #[.string ⟨#[]⟩, .bool false]) ∧ w = w' := by
  go_enter Tryz.func106, Tryz.ntmps106
  go_wp2_with fail
  go_ret2
  exact ⟨rfl, rfl⟩
theorem grow_none (p : Addr) (w : World) : Calls Tryz.prog 95 #[.pointer (some p), .int .i64 0] w fun e w' => e = .returned (.slice none 0 0) ∧ w = w' := by
  go_enter Tryz.func95, Tryz.ntmps95
  go_wp2_with fail
  go_ret
  exact ⟨rfl, rfl⟩
theorem part0 (w : World) : Calls Tryz.prog 93 #[.string ⟨#[100, 101, 116, 101, 99, 116, 111, 114]⟩] w fun e w' => e = .returned (.int .i64 0) ∧ w = w' := by
  go_enter Tryz.func93, Tryz.ntmps93
  go_wp2_with fail
  go_ret
  exact ⟨rfl, rfl⟩
theorem part1 (w : World) : Calls Tryz.prog 93 #[.string ⟨#[112, 108, 97, 110, 101]⟩] w fun e w' => e = .returned (.int .i64 1) ∧ w = w' := by
  go_enter Tryz.func93, Tryz.ntmps93
  go_wp2_with fail
  go_ret
  exact ⟨rfl, rfl⟩
end Go.Proofs.YteoahbpfhfjfmaaGreatDoor
