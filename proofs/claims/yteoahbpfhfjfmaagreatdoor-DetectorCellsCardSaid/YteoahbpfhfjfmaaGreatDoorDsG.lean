/- Layer 3: the range over two lines. -/
import Derived.RangeFuncNested
import Derived.RangeFuncBound
import Derived.RangeFuncCalls
import Derived.RangeFuncLeaves
import Derived.OwnWalkIn
import Derived.TacticsInMore
import Derived.LoopNIn
import Derived.LoopIn
import Derived.Test.YteoahbpfhfjfmaaGreatDoorDsF
import Derived.Test.YteoahbpfhfjfmaaGreatDoorDbH
set_option linter.unusedVariables false
set_option linter.unusedSimpArgs false
namespace Go.Proofs.YteoahbpfhfjfmaaGreatDoor
open Go.RowKit
attribute [local go_sem] Oper.semAt_some

abbrev TXT : List UInt8 := [100, 101, 116, 101, 99, 116, 111, 114, 32, 97, 10, 112, 108, 97, 110, 101, 32, 48, 32, 49, 32, 49, 32, 49, 32, 49, 32, 49, 32, 48]
abbrev LN0 : List UInt8 := [100, 101, 116, 101, 99, 116, 111, 114, 32, 97]
abbrev LN1 : List UInt8 := [112, 108, 97, 110, 101, 32, 48, 32, 49, 32, 49, 32, 49, 32, 49, 32, 49, 32, 48]
theorem cut0 : Lib.cut TXT [10] = (LN0, LN1, true) := by decide
theorem cut1 : Lib.cut LN1 [10] = (LN1, [], false) := by decide

set_option maxRecDepth 20000 in
set_option maxHeartbeats 800000 in
theorem lines_in (l pb : Nat) (w : World) (J0 M J1 Jx : World → Prop) (cw : w.cell? ⟨pb, 0, none⟩ = some (.string ⟨TXT.toArray⟩)) (mw : ML w) (h0 : ∀ n, J0 (w.drewN n))
    (Y0 : ∀ W, J0 W → YieldAt Fence.wide 3 Tryz.prog l #[.string ⟨LN0.toArray⟩, .bool true] W fun e W' => e = .returned (.bool true) ∧ M W')
    (hM : ∀ W, M W → W.cell? ⟨pb, 0, none⟩ = some (.string ⟨TXT.toArray⟩) ∧ W.frozen? ⟨pb, 0, none⟩ = false ∧ ML (W.setCell ⟨pb, 0, none⟩ (.string ⟨LN1.toArray⟩)) ∧ ∀ n, J1 ((W.setCell ⟨pb, 0, none⟩ (.string ⟨LN1.toArray⟩)).drewN n))
    (Y1 : ∀ W, J1 W → YieldAt Fence.wide 3 Tryz.prog l #[.string ⟨LN1.toArray⟩, .bool false] W fun e W' => e = .returned (.bool false) ∧ Jx W') :
    CallsIn Fence.wide 4 Tryz.prog 104 #[.func (.yield l) #[] #[], .pointer (some ⟨pb, 0, none⟩)] w fun e w' => e = .returned (.tuple #[]) ∧ Jx w' := by
  refine callsIn_of_wp Tryz.func104 rfl trivial ?_ rfl
  simp only [Tryz.ntmps104, List.size_toArray, List.length_cons, List.length_nil, Nat.reduceAdd, Nat.reduceSub, Array.replicate_succ, Array.replicate_zero, List.push_toArray, List.append_toArray, List.nil_append, List.cons_append]
  have C0 := Lib.hid (cut_any TXT [10] LN0 LN1 true (by decide) cut0 w mw)
  have H0 := Lib.hid h0
  have HY0 := Lib.hid Y0
  have HY1 := Lib.hid Y1
  have HM := Lib.hid hM
  clear h0 Y0 Y1 hM mw
  gi_wp2_with fail
  refine wpIn_loop_rounds 2 ?_
  rw [roundsIn_succ]
  gi_wp2_with fail
  refine ⟨trivial, callsIn_wide.2 (C0.out.mono ?_)⟩
  rintro e w1 ⟨rfl, n, rfl⟩
  obtain ⟨fn, tmps, assign, body, hy, hRd⟩ := HY0.out _ (H0.out n)
  have HRd := Lib.hid hRd
  clear hRd
  gi_wp2
  refine HRd.out.mono ?_
  rintro e w2 ⟨rfl, hm⟩
  obtain ⟨p0, p1, p2, p3⟩ := HM.out w2 hm
  have C1 := Lib.hid (cut_any LN1 [10] LN1 [] false (by decide) cut1 _ p2)
  have P3 := Lib.hid p3
  have lp := cell_lt p0
  clear p2 p3 hm HRd hy cw C0 H0 HY0 HM
  gi_wp2_with fail
  rw [roundsIn_succ]
  gi_wp2_with fail
  refine ⟨trivial, callsIn_wide.2 (C1.out.mono ?_)⟩
  rintro e w3 ⟨rfl, n2, rfl⟩
  obtain ⟨fn2, tmps2, assign2, body2, hy2, hRd2⟩ := HY1.out _ (P3.out n2)
  have HRd2 := Lib.hid hRd2
  clear hRd2
  gi_wp2
  refine HRd2.out.mono ?_
  rintro e w4 ⟨rfl, hx⟩
  have HX := Lib.hid hx
  clear hx HRd2 hy2 p0 p1
  gi_wp2_with fail
  exact bodyPost_ret (results_none rfl _ _ _) rfl ⟨rfl, HX.out⟩
end Go.Proofs.YteoahbpfhfjfmaaGreatDoor
