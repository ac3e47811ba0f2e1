/- Layer 5: Unpack. -/
import Derived.Test.YtanillahofohgaaRaQ
set_option linter.unusedVariables false
set_option linter.unusedSimpArgs false
namespace Go.Proofs.Ytanillahofohgaa
open Go.RowKit

theorem FrB.set4 {W : World} {g : Nat} {a b c d : Int} {x : Value} (h : FrB W g a b c d x) (y : Value) : FrB (W.setCell ⟨g, 4, none⟩ y) g a b c d y := (RF.set h 4 _).congr (fun i hi => by
  match i, hi with
  | 0, _ => rfl
  | 1, _ => rfl
  | 2, _ => rfl
  | 3, _ => rfl
  | 4, _ => rfl)
theorem five_frb {W : World} {g : Nat} {a b c d : Int} {x : Value} (h : FrB W g a b c d x) (l s e t : Int) (y : Value) :
    FrB (((((W.setCell ⟨g, 0, none⟩ (.int .i64 (l))).setCell ⟨g, 1, none⟩ (.int .i64 (s))).setCell ⟨g, 2, none⟩ (.int .i64 (e))).setCell ⟨g, 3, none⟩ (.int .i64 (t))).setCell ⟨g, 4, none⟩ (y)) g l s e t y ∧ OnB g W (((((W.setCell ⟨g, 0, none⟩ (.int .i64 (l))).setCell ⟨g, 1, none⟩ (.int .i64 (s))).setCell ⟨g, 2, none⟩ (.int .i64 (e))).setCell ⟨g, 3, none⟩ (.int .i64 (t))).setCell ⟨g, 4, none⟩ (y)) :=
  ⟨((((h.set0 l).set1 s).set2 e).set3 t).set4 y, ((((OnB.setA _ _ _ _).trans (OnB.setA _ _ _ _)).trans (OnB.setA _ _ _ _)).trans (OnB.setA _ _ _ _)).trans (OnB.setA _ _ _ _)⟩
theorem FrB.facts {W : World} {g : Nat} {a b c d : Int} {x : Value} (h : FrB W g a b c d x) : (W.cell? ⟨g, 0, none⟩ = some (.int .i64 a) ∧ W.cell? ⟨g, 1, none⟩ = some (.int .i64 b) ∧ W.cell? ⟨g, 2, none⟩ = some (.int .i64 c) ∧ W.cell? ⟨g, 3, none⟩ = some (.int .i64 d) ∧ W.cell? ⟨g, 4, none⟩ = some x) ∧
    (W.frozen? ⟨g, 0, none⟩ = false ∧ W.frozen? ⟨g, 1, none⟩ = false ∧ W.frozen? ⟨g, 2, none⟩ = false ∧ W.frozen? ⟨g, 3, none⟩ = false ∧ W.frozen? ⟨g, 4, none⟩ = false) := ⟨h.cells, h.selfs.1⟩
theorem FrB.fresh (w : World) : FrB (w.alloc (.cells #[.int .i64 0, .int .i64 0, .int .i64 0, .int .i64 0, .slice none 0 0] 38)) w.heap.size 0 0 0 0 (.slice none 0 0) :=
  RF_new w _ _ 5 _ rfl (fun i hi => by unfold frC; rw [Array.getElem?_eq_getElem hi]; rfl)

def unpF (m : List UInt8) : Fr := ⟨(hdF m).l, (hdF m).s, (hdF m).e, (hdF m).t, rawL (m.drop 18) (hdN m)⟩
def unpOk (m : List UInt8) : Bool := headIs m && thereB (m.drop 18) (hdN m)
def nilFr : Value := .agg #[.int .i64 0, .int .i64 0, .int .i64 0, .int .i64 0, .slice none 0 0]
def UnpPost (w : World) (m : List UInt8) (e : Ending) (w' : World) : Prop :=
  (unpOk m = true → ∃ v, e = .returned (.tuple #[(unpF m).val v, .int .i64 ((20 + 4 * hdN m : Nat) : Int), .int .i64 0]) ∧ Ho w.heap.size w' v (unpF m).hs) ∧
  (unpOk m = false → e = .returned (.tuple #[nilFr, .int .i64 0, .int .i64 5])) ∧ Below w.heap.size w w'
theorem headIs_bd {m : List UInt8} (h : headIs m = true) : 18 ≤ m.length ∧ hdN m ≤ 4096 := by
  unfold headIs hdOk headB at h
  simp only [Bool.and_eq_true, decide_eq_true_eq] at h
  exact ⟨h.1, by have := h.2.2.1.2; omega⟩

set_option maxRecDepth 100000 in
set_option maxHeartbeats 3200000 in
theorem Unpack_of (m : List UInt8) (w : World) (hm : m.length ≤ 1099511627776) (HU0 : ∀ W, Calls Try.prog 50 #[.string (str m)] W (HeadPost W m)) :
    Calls Try.prog 22 #[.string (str m)] w (UnpPost w m) := by
  have HU := Lib.hid HU0
  have hsz := str_size m
  have hf0 := FrB.fresh w
  have b0 : Below w.heap.size w (w.alloc (.cells #[.int .i64 0, .int .i64 0, .int .i64 0, .int .i64 0, .slice none 0 0] 38)) := (Below.refl _ _).alloc (Nat.le_refl _) _
  have hz0 : (w.alloc (.cells #[.int .i64 0, .int .i64 0, .int .i64 0, .int .i64 0, .slice none 0 0] 38)).heap.size = w.heap.size + 1 := by simp
  have F0 := Lib.hid hf0
  have B0 := Lib.hid b0
  clear HU0 hf0 b0
  go_enter Try.func22, Try.ntmps22
  go_wp2_with fail
  generalize (w.alloc (.cells #[.int .i64 0, .int .i64 0, .int .i64 0, .int .i64 0, .slice none 0 0] 38)) = w0 at *
  refine (HU.out w0).mono ?_
  rintro en w1 ⟨l, s, v, t, n, rfl, hv, b1⟩
  have F1 := Lib.hid (F0.out.below b1)
  have hz1 := b1.size
  have B1 := Lib.hid (Below.up B0.out b1)
  have HV := Lib.hid hv
  clear hv b1 F0 B0 HU
  obtain ⟨W1, hW1⟩ : ∃ W1, W1 = (((((w1.setCell ⟨w.heap.size, 0, none⟩ (.int .i64 (l))).setCell ⟨w.heap.size, 1, none⟩ (.int .i64 (s))).setCell ⟨w.heap.size, 2, none⟩ (.int .i64 (v))).setCell ⟨w.heap.size, 3, none⟩ (.int .i64 (t))).setCell ⟨w.heap.size, 4, none⟩ (.slice none 0 0)) := ⟨_, rfl⟩
  obtain ⟨hf1, ho1⟩ := five_frb F1.out l s v t (.slice none 0 0)
  rw [← hW1] at hf1 ho1
  have G1 := Lib.hid hf1
  have B2 := Lib.hid (B1.out.trans (ho1.below (Nat.le_refl _)))
  have hzW1 : W1.heap.size = w1.heap.size := ho1.2.1
  obtain ⟨⟨q0, q1, q2, q3, q4⟩, z0, z1, z2, z3, z4⟩ := F1.out.facts
  clear hf1 ho1
  cases hh : headIs m with
  | false =>
    have hf : Hid (unpOk m = false) := Lib.hid (by unfold unpOk; rw [hh]; rfl)
    go_wp2_with fail
    rw [← hW1]
    obtain ⟨W9, hW9⟩ : ∃ W9, W9 = (((((W1.setCell ⟨w.heap.size, 0, none⟩ (.int .i64 (0))).setCell ⟨w.heap.size, 1, none⟩ (.int .i64 (0))).setCell ⟨w.heap.size, 2, none⟩ (.int .i64 (0))).setCell ⟨w.heap.size, 3, none⟩ (.int .i64 (0))).setCell ⟨w.heap.size, 4, none⟩ (.slice none 0 0)) := ⟨_, rfl⟩
    obtain ⟨hf9, ho9⟩ := five_frb G1.out 0 0 0 0 (.slice none 0 0)
    rw [← hW9] at hf9 ho9 ⊢
    obtain ⟨r0, r1, r2, r3, r4⟩ := hf9.cells
    refine bodyPost_ret (v := .tuple #[.agg #[.int .i64 0, .int .i64 0, .int .i64 0, .int .i64 0, .slice none 0 0], .int .i64 0, .int .i64 5]) (by simp [results, Try.results22, go_sem, r0, r1, r2, r3, r4]) rfl ⟨(fun h => by rw [hf.out] at h; cases h), (fun _ => rfl), B2.out.trans (ho9.below (Nat.le_refl _))⟩
  | true =>
    obtain ⟨h18, hn⟩ := headIs_bd hh
    obtain ⟨rfl, rfl, rfl, rfl, rfl⟩ := HV.out hh
    have i18 : (18 : Int) ≤ (m.length : Int) := by omega
    have SL : ∀ W, (Instr.slice 9 (.string (str m)) (some (.int .i64 18)) none none).run Try.prog W = .ok (.string (str (m.drop 18))) W := fun W => by
      rw [run_slice_string_l W 9 (str m) str_kind .i64 18 (by omega) (by omega), show (18 : Int).toNat = 18 from rfl, str_drop]
    have HK := Lib.hid (unpackHits_any (m.drop 18) (hdN m) W1 (by omega) (by rw [List.length_drop]; omega))
    have HUP : Hid (unpOk m = thereB (m.drop 18) (hdN m)) := Lib.hid (by unfold unpOk; rw [hh]; rfl)
    have HUF : Hid (unpF m = ⟨(hdF m).l, (hdF m).s, (hdF m).e, (hdF m).t, rawL (m.drop 18) (hdN m)⟩) := Lib.hid rfl
    clear HV hh
    obtain ⟨N, hN⟩ : ∃ N, N = hdN m := ⟨_, rfl⟩
    rw [← hN] at HK HUP HUF hn ⊢
    have HN := Lib.hid hN
    generalize (hdF m).l = l at *
    generalize (hdF m).s = s at *
    generalize (hdF m).e = v at *
    generalize (hdF m).t = t at *
    generalize str (m.drop 18) = sd at *
    clear hN
    go_wp2_with fail
    rw [← hW1]
    clear hW1
    refine HK.out.mono ?_
    rintro en w2 ⟨a, c, d, rfl, hho, b2⟩
    have F2 := Lib.hid (G1.out.below b2)
    have B3 := Lib.hid (Below.up B2.out b2)
    have HHO := Lib.hid hho
    have hz2 := b2.size
    have c4 := F2.out.facts.1.2.2.2.2
    have y4 := F2.out.facts.2.2.2.2.2
    have F3 := Lib.hid (F2.out.set4 (.slice a c d))
    have O3 := Lib.hid (OnB.setA w.heap.size 4 w2 (.slice a c d))
    have B4 := Lib.hid (B3.out.trans (O3.out.below (Nat.le_refl _)))
    obtain ⟨W3, hW3⟩ : ∃ W3, W3 = w2.setCell ⟨w.heap.size, 4, none⟩ (.slice a c d) := ⟨_, rfl⟩
    rw [← hW3] at F3 O3 B4
    clear q0 q1 q2 q3 q4 z0 z1 z2 z3 z4 hho b2
    obtain ⟨⟨q0, q1, q2, q3, q4⟩, z0, z1, z2, z3, z4⟩ := F3.out.facts
    cases ht : thereB (m.drop 18) N with
    | false =>
      have hf : Hid (unpOk m = false) := Lib.hid (by rw [HUP.out, ht])
      rw [hW3] at q0 q1 q2 q3 q4 z0 z1 z2 z3 z4
      go_wp2_with fail
      rw [← hW3]
      obtain ⟨W9, hW9⟩ : ∃ W9, W9 = (((((W3.setCell ⟨w.heap.size, 0, none⟩ (.int .i64 (0))).setCell ⟨w.heap.size, 1, none⟩ (.int .i64 (0))).setCell ⟨w.heap.size, 2, none⟩ (.int .i64 (0))).setCell ⟨w.heap.size, 3, none⟩ (.int .i64 (0))).setCell ⟨w.heap.size, 4, none⟩ (.slice none 0 0)) := ⟨_, rfl⟩
      obtain ⟨hf9, ho9⟩ := five_frb F3.out 0 0 0 0 (.slice none 0 0)
      rw [← hW9] at hf9 ho9 ⊢
      obtain ⟨r0, r1, r2, r3, r4⟩ := hf9.cells
      refine bodyPost_ret (v := .tuple #[.agg #[.int .i64 0, .int .i64 0, .int .i64 0, .int .i64 0, .slice none 0 0], .int .i64 0, .int .i64 5]) (by simp [results, Try.results22, go_sem, r0, r1, r2, r3, r4]) rfl ⟨(fun h => by rw [hf.out] at h; cases h), (fun _ => rfl), B4.out.trans (ho9.below (Nat.le_refl _))⟩
    | true =>
      have hf : Hid (unpOk m = true) := Lib.hid (by rw [HUP.out, ht])
      obtain ⟨_, s0, s1, s2, s3, s4⟩ := F3.out.selfs
      have hn' : (N : Int) ≤ 4096 := by omega
      rw [hW3] at q0 q1 q2 q3 q4 z0 z1 z2 z3 z4 s0 s1 s2 s3 s4
      go_wp2_with fail
      rw [← hW3] at q0 q1 q2 q3 q4
      rw [← hW3]
      refine bodyPost_ret (v := .tuple #[.agg #[.int .i64 l, .int .i64 s, .int .i64 v, .int .i64 t, .slice a c d], .int .i64 (18 + (N : Int) * 4 + 2), .int .i64 0]) (by simp [results, Try.results22, go_sem, q0, q1, q2, q3, q4]) rfl ⟨fun _ => ⟨.slice a c d, ?_, ?_⟩, (fun h => by rw [hf.out] at h; cases h), B4.out⟩
      · have e : ((20 + 4 * N : Nat) : Int) = 18 + (N : Int) * 4 + 2 := by omega
        rw [HUF.out, ← HN.out, e]
        rfl
      · rw [HUF.out]
        exact ((HHO.out ht).onb O3.out (by omega)).mono (by omega)
end Go.Proofs.Ytanillahofohgaa
