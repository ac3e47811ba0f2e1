/- Layer 3: what the rows' list gives, and the world's shape. -/
import Derived.Test.YteoahbpfhfjfmaaGreatDoorDgB
import Derived.Test.YteoahbpfhfjfmaaGreatDoorRows
import Derived.Test.YteoahbpfhfjfmaaGreatDoorTie
import Derived.Test.YteoahbpfhfjfmaaGreatDoorCards
import Derived.ProofKit
import Derived.LaidMore
import Derived.OpenShut
import Derived.Lib.SmallJoins
import Derived.Lib.LaidTab
import Derived.Lib.LaidU8
import Derived.Stop.Joined
import Derived.SevenTiedAt
import Derived.Deep.DeepHandedRow
import Derived.Shelf.Vars
set_option linter.unusedVariables false
set_option linter.unusedSimpArgs false
namespace Go.Proofs.YteoahbpfhfjfmaaGreatDoor
open Go Go.ChangeShapes Go.WideShapes Go.ChangeAt Go.RowKit

theorem deOwn : ownKnob Tryz.prog.godebug = none := by kernel_rfl
theorem deLaidOut : laidOutB Tryz.prog = true := by kernel_rfl
theorem deInt1 : Tryz.prog.cellsOf 3 = 1 := by kernel_rfl
theorem deAr3 : Tryz.prog.cellsOf 35 = 3 := by kernel_rfl
theorem deFr6 : Tryz.prog.cellsOf 84 = 6 := by kernel_rfl
abbrev Laid : List (String × DataW Unit) := [("math/bits.deBruijn32tab", Rows.laid_math_bits_deBruijn32tab), ("math/bits.deBruijn64tab", Rows.laid_math_bits_deBruijn64tab), ("internal/strconv.uint64pow10", Rows.laid_internal_strconv_uint64pow10), ("strconv.ErrRange", Rows.laid_strconv_ErrRange), ("strconv.ErrSyntax", Rows.laid_strconv_ErrSyntax), ("hodoscope/detector.frames", Rows.laid_hodoscope_detector_frames)]

/-- The table of powers. -/
theorem pow_of_laid {W : World} (h : laidMetH Tryz.prog Laid W) : Lib.TabIs Tryz.prog W "internal/strconv.uint64pow10" .u64 Lib.pow10Tab := by
  rw [MakeChecks.laidMetH_plain _ _ _ (by kernel_rfl)] at h
  obtain ⟨g, t, cs, fuel, p, hg, ht, hv, hd⟩ := Lib.laidMet.reads h (n := "internal/strconv.uint64pow10") (d := Rows.laid_internal_strconv_uint64pow10) (.tail _ (.tail _ (.head _)))
  have hg' : Tryz.prog.globalNamed "internal/strconv.uint64pow10" = some 4 := by kernel_rfl
  have ht' : (Tryz.prog.globals[4]?).map (·.type) = some 180 := by kernel_rfl
  obtain rfl := Option.some.inj (hg'.symm.trans hg)
  obtain rfl := Option.some.inj (ht'.symm.trans ht)
  have e : (Rows.laid_internal_strconv_uint64pow10 : DataW Unit) = Lib.tabData .u64 Lib.pow10Tab := by rfl
  rw [e] at hd
  unfold Lib.TabIs
  rw [hv, ← Lib.cells_of_tab Tryz.underlying180 Tryz.underlying167 (by kernel_rfl) (by kernel_rfl) hd]

/-- One frame's cells. -/
theorem frame_cells {W : World} {fuel : Nat} {cs : List Value} {A S : List Int} {q : List MemPlace} (hA : A.length = 3) (h : DataW.trod (fun _ => ()) Tryz.prog W 0 (fun _ => true) false fuel 84 cs = some (.agg [Lib.tabData .i64 A, Lib.tabData .i64 S], q)) : cs = (A ++ S).map fun z => Value.int .i64 z := by
  obtain ⟨y0, y1, n, hx, hl, h0, h1⟩ := trod_struct2 Tryz.underlying84 h
  rw [deAr3] at h0 h1
  obtain ⟨e1, e2⟩ := Prod.mk.inj hx
  simp only [DataW.agg.injEq, List.cons.injEq, and_true] at e1
  obtain ⟨e3, e4⟩ := e1
  obtain ⟨d0, p0⟩ := y0
  obtain ⟨d1, p1⟩ := y1
  simp only at e3 e4
  subst e3 e4
  have c0 := Lib.cells_of_tab Tryz.underlying35 Tryz.underlying3 deInt1 deAr3 h0
  have c1 := Lib.cells_of_tab Tryz.underlying35 Tryz.underlying3 deInt1 deAr3 h1
  rw [List.map_append, ← c0, ← c1]
  rw [deFr6] at hl
  simp only [List.drop_zero]
  rw [List.take_of_length_le (l := cs.drop 3) (by simp; omega)]
  exact (List.take_append_drop 3 cs).symm

theorem frames_of_laid {W : World} (h : laidMetH Tryz.prog Laid W) : FT W := by
  rw [MakeChecks.laidMetH_plain _ _ _ (by kernel_rfl)] at h
  obtain ⟨g, t, cs, fuel, p, hg, ht, hv, hd⟩ := Lib.laidMet.reads h (n := "hodoscope/detector.frames") (d := Rows.laid_hodoscope_detector_frames) (.tail _ (.tail _ (.tail _ (.tail _ (.tail _ (.head _))))))
  have hg' : Tryz.prog.globalNamed "hodoscope/detector.frames" = some 0 := by kernel_rfl
  have ht' : (Tryz.prog.globals[0]?).map (·.type) = some 85 := by kernel_rfl
  obtain rfl := Option.some.inj (hg'.symm.trans hg)
  obtain rfl := Option.some.inj (ht'.symm.trans ht)
  have key : ∀ (f : Nat) (A S : List Int), f < 6 → A.length = 3 → (frN.getD f []) = A ++ S → S.length = 3 → (∀ d : DataW Unit, (match (Rows.laid_hodoscope_detector_frames : DataW Unit) with | .agg ds => ds[f]? | _ => none) = some d → d = .agg [Lib.tabData .i64 A, Lib.tabData .i64 S]) → ∀ k, k < 6 → W.cell? ⟨0, 6 * f + k, none⟩ = some (.int .i64 ((frN.getD f []).getD k 0)) := by
    intro f A S hf hA hfr hS hds k hk
    unfold Rows.laid_hodoscope_detector_frames at hd hds
    obtain ⟨fuel', d, q, h1, h2⟩ := Lib.array_elem Tryz.underlying85 hd f hf
    obtain rfl := hds d h1
    rw [deFr6] at h2
    have hc := frame_cells hA h2
    rw [World.var?_cell hg hv, hfr]
    have h3 := congrArg (·[k]?) hc
    simp only [List.getElem?_take, List.getElem?_drop, hk, if_true, List.getElem?_map, Array.getElem?_toList] at h3
    rw [show 6 * f + k = f * 6 + k by omega, h3, List.getElem?_eq_getElem (by simp; omega), List.getD_eq_getElem?_getD, List.getElem?_eq_getElem (by simp; omega)]
    rfl
  intro f k hf hk
  match f, hf with
  | 0, _ => exact key 0 [0, 1, 2] [1, 1, 1] (by omega) rfl rfl rfl (fun d hd => (Option.some.inj hd).symm) k hk
  | 1, _ => exact key 1 [1, 0, 2] [1, -1, 1] (by omega) rfl rfl rfl (fun d hd => (Option.some.inj hd).symm) k hk
  | 2, _ => exact key 2 [0, 1, 2] [-1, -1, 1] (by omega) rfl rfl rfl (fun d hd => (Option.some.inj hd).symm) k hk
  | 3, _ => exact key 3 [1, 0, 2] [-1, 1, 1] (by omega) rfl rfl rfl (fun d hd => (Option.some.inj hd).symm) k hk
  | 4, _ => exact key 4 [2, 0, 1] [1, 1, 1] (by omega) rfl rfl rfl (fun d hd => (Option.some.inj hd).symm) k hk
  | 5, _ => exact key 5 [2, 1, 0] [-1, 1, 1] (by omega) rfl rfl rfl (fun d hd => (Option.some.inj hd).symm) k hk

theorem ml_of_shape {W : World} (h : W.ShapedOpen Tryz.prog) : ML W :=
  cell_of_shapedOpen_int (t := 3) (zero := #[.int .i64 0]) h (of_decide_eq_true (by kernel_rfl)) (by kernel_rfl) rfl (by kernel_rfl) (by kernel_rfl) Tryz.underlying3

theorem deDoor (os : Os) (args : Array Value) : laidMetH Tryz.prog Laid ((World.doorLaid Tryz.prog 400 os).forCall (fun _ _ => 0) ⟨#[], args, []⟩).memory :=
  laidMetH_of_parts3 (fuel := 8) (laidMet_of_run' 8 (by kernel_rfl) (by kernel_rfl)) (by kernel_rfl) (by kernel_rfl)
end Go.Proofs.YteoahbpfhfjfmaaGreatDoor
