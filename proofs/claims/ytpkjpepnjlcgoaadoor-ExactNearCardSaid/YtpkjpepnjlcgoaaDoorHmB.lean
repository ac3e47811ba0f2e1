/- The law of nearness: numbers below 0. The law of nearness: numbers not below 0, and long ones. -/
import Derived.Deep.CutRange
import Derived.Test.YtpkjpepnjlcgoaaDoorExW
import Derived.Test.YtpkjpepnjlcgoaaDoorExX
import Derived.Test.YtpkjpepnjlcgoaaDoorHmA

section
set_option linter.unusedVariables false
set_option linter.unusedSimpArgs false
set_option maxRecDepth 100000
namespace Go.Proofs.YtpkjpepnjlcgoaaDoor
open Go.RowKit

theorem ord_le {a b : Int} (h : a ≤ b) : ord a b ≤ 0 := by
  have := ord_not_pos h
  omega
set_option maxHeartbeats 12800000 in
theorem near_neg (g1 h1 : Bool) (a1 b1 : Option Addr) (n1 m1 c1 d1 : Nat) (p q : Int) (ga : Bool) (aa : Option Addr) (la ca k : Nat) (z : Int) (w : World) (hT : Tab w) (hr : AR w (.agg #[.bool g1, .slice a1 n1 c1, .bool h1, .slice b1 m1 d1]) n1 m1 p q) (ha : AI w (.agg #[.bool ga, .slice aa la ca]) la z) (hk : k ≤ 255) (hn1 : n1 ≤ 8) (hm1 : m1 ≤ 8) (hla : la ≤ 8) (hneg : tP p q < 0) :
    Calls Tryd.prog 4 #[.agg #[.bool g1, .slice a1 n1 c1, .bool h1, .slice b1 m1 d1], .agg #[.bool ga, .slice aa la ca], .int .u8 k] w fun e w' => e = .returned (.bool true) ∧ Below w.heap.size w w' := by
  have H_0 := Lib.hid (show Below w.heap.size w ((w.alloc (.cells #[.bool g1, .slice a1 n1 c1, .bool h1, .slice b1 m1 d1] 26)).alloc (.cells #[.bool ga, .slice aa la ca] 24)) from Below.alloc2 _ _ _)
  have Vr_0 := Lib.hid (show RV ((w.alloc (.cells #[.bool g1, .slice a1 n1 c1, .bool h1, .slice b1 m1 d1] 26)).alloc (.cells #[.bool ga, .slice aa la ca] 24)) w.heap.size g1 a1 n1 c1 h1 b1 m1 d1 p q from (RV.new hr).below (Below.alloc' (Below.refl _ _) _))
  have Vn_0 := Lib.hid (show IV ((w.alloc (.cells #[.bool g1, .slice a1 n1 c1, .bool h1, .slice b1 m1 d1] 26)).alloc (.cells #[.bool ga, .slice aa la ca] 24)) (w.heap.size + 1) ga aa la ca z from IV.new' (ha.below (w' := w.alloc (.cells #[.bool g1, .slice a1 n1 c1, .bool h1, .slice b1 m1 d1] 26)) (Below.alloc' (Below.refl _ _) _)) (by simp))
  have T_0 := Lib.hid (TB.of hT H_0.out)
  clear hT hr ha
  go_enter Tryd.func4, Tryd.ntmps4
  go_wp2_with fail
  refine calls_at (fun W => Below w.heap.size w W ∧ TB W ∧ RV W w.heap.size g1 a1 n1 c1 h1 b1 m1 d1 p q ∧ IV W (w.heap.size + 1) ga aa la ca z) ⟨H_0.out, T_0.out, Vr_0.out, Vn_0.out⟩ ?_
  clear H_0 T_0 Vr_0 Vn_0
  rintro w0 ⟨hB, hT', hr, hn'⟩
  have H_0 := Lib.hid hB
  have T_0 := Lib.hid hT'
  have Vr_0 := Lib.hid hr
  have Vn_0 := Lib.hid hn'
  clear hB hT' hr hn'
  refine (alive_any _ (T_0.out.tab (Below.refl _ _))).mono ?_
  rintro e w1 ⟨rfl, hB⟩
  have Vr_1 := Lib.hid (Vr_0.out.below hB)
  have Vn_1 := Lib.hid (Vn_0.out.below hB)
  have T_1 := Lib.hid (T_0.out.below hB)
  have H_1 := Lib.hid (Below.up H_0.out hB)
  clear hB Vr_0 Vn_0 T_0 H_0
  obtain ⟨or0, or1, or2, or3, or4, _⟩ := Vr_1.out
  go_wp2_with fail
  refine (Wide_any _ n1 m1 p q _ Vr_1.out.2.2.2.2.2).mono ?_
  rintro e w2 ⟨⟨L, rfl, hL⟩, hB⟩
  have Vr_2 := Lib.hid (Vr_1.out.below hB)
  have Vn_2 := Lib.hid (Vn_1.out.below hB)
  have T_2 := Lib.hid (T_1.out.below hB)
  have H_2 := Lib.hid (Below.up H_1.out hB)
  clear hB Vr_1 Vn_1 T_1 H_1
  clear or0 or1 or2 or3 or4
  obtain ⟨on0, on1, on2, _⟩ := Vn_2.out
  obtain ⟨or0, or1, or2, or3, or4, _⟩ := Vr_2.out
  have dL : decide ((8 : Int) < (L : Int)) = false := decide_eq_false (by omega)
  have da : decide ((8 : Int) < (la : Int)) = false := decide_eq_false (by omega)
  have hY := Lib.hid (tQ_pos q)
  have hK := Lib.hid (show (0 : Int) < (2 ^ k) from Int.pow_pos (by decide))
  have wk : IntKind.i64.wrap (k : Int) = (k : Int) := IntWalk.i64_in _ (by omega)
  go_wp2_with fail
  refine (Fixed_any g1 h1 a1 b1 n1 m1 c1 d1 k p q _ Vr_2.out.2.2.2.2.2 (by omega) (by omega) (by omega)).mono ?_
  rintro e w3 ⟨gA, xA, yA, kA, QA, RA, rfl, hR, hDA, hkA, hB⟩
  have NA := Lib.hid hR
  have DA := Lib.hid hDA
  clear hR hDA
  have Vr_3 := Lib.hid (Vr_2.out.below hB)
  have Vn_3 := Lib.hid (Vn_2.out.below hB)
  have T_3 := Lib.hid (T_2.out.below hB)
  have H_3 := Lib.hid (Below.up H_2.out hB)
  clear hB Vr_2 Vn_2 T_2 H_2
  clear or0 or1 or2 or3 or4 on0 on1 on2
  obtain ⟨oa0, oa1, oa2, _⟩ := (show IV (w3.alloc (.cells #[.bool gA, .slice xA kA yA] 24)) w3.heap.size gA xA kA yA QA from IV.new NA.out)
  go_wp2_with fail
  refine calls_at (fun W => Below w.heap.size w W ∧ TB W ∧ RV W w.heap.size g1 a1 n1 c1 h1 b1 m1 d1 p q ∧ IV W (w.heap.size + 1) ga aa la ca z ∧ IV W w3.heap.size gA xA kA yA QA) ⟨Below.up H_3.out (Below.alloc' (Below.refl w3.heap.size w3) (.cells #[.bool gA, .slice xA kA yA] 24)), T_3.out.below (Below.alloc' (Below.refl w3.heap.size w3) (.cells #[.bool gA, .slice xA kA yA] 24)), Vr_3.out.below (Below.alloc' (Below.refl w3.heap.size w3) (.cells #[.bool gA, .slice xA kA yA] 24)), Vn_3.out.below (Below.alloc' (Below.refl w3.heap.size w3) (.cells #[.bool gA, .slice xA kA yA] 24)), IV.new NA.out⟩ ?_
  rintro w4 ⟨hB, hT', hr, hn, ha⟩
  have H_4 := Lib.hid hB
  have T_4 := Lib.hid hT'
  have Vr_4 := Lib.hid hr
  have Vn_4 := Lib.hid hn
  have Va_4 := Lib.hid ha
  clear hB hT' hr hn ha Vr_3 Vn_3 T_3 H_3
  clear oa0 oa1 oa2
  refine (FromFixed_vr gA xA kA yA k QA _ (T_4.out.tab (Below.refl _ _)) Va_4.out.2.2.2 (by omega) (by omega)).mono ?_
  rintro e w5 ⟨gB, xB, yB, gC, xC, yC, kB, kC, rfl, hR, hkB, hkC, hB⟩
  have NB := Lib.hid hR
  clear hR NA
  have Vr_5 := Lib.hid (Vr_4.out.below hB)
  have Vn_5 := Lib.hid (Vn_4.out.below hB)
  have Va_5 := Lib.hid (Va_4.out.below hB)
  have T_5 := Lib.hid (T_4.out.below hB)
  have H_5 := Lib.hid (Below.up H_4.out hB)
  clear hB Vr_4 Vn_4 Va_4 T_4 H_4
  go_wp2_with fail
  refine calls_at (fun W => Below w.heap.size w W ∧ TB W ∧ RV W w.heap.size g1 a1 n1 c1 h1 b1 m1 d1 p q ∧ IV W (w.heap.size + 1) ga aa la ca z ∧ IV W w3.heap.size gA xA kA yA QA ∧ RW W w5.heap.size gB xB kB yB gC xC kC yC QA (2 ^ k)) ⟨Below.up H_5.out (Below.alloc' (Below.refl w5.heap.size w5) (.cells #[.bool gB, .slice xB kB yB, .bool gC, .slice xC kC yC] 26)), T_5.out.below (Below.alloc' (Below.refl w5.heap.size w5) (.cells #[.bool gB, .slice xB kB yB, .bool gC, .slice xC kC yC] 26)), Vr_5.out.below (Below.alloc' (Below.refl w5.heap.size w5) (.cells #[.bool gB, .slice xB kB yB, .bool gC, .slice xC kC yC] 26)), Vn_5.out.below (Below.alloc' (Below.refl w5.heap.size w5) (.cells #[.bool gB, .slice xB kB yB, .bool gC, .slice xC kC yC] 26)), Va_5.out.below (Below.alloc' (Below.refl w5.heap.size w5) (.cells #[.bool gB, .slice xB kB yB, .bool gC, .slice xC kC yC] 26)), RW.new NB.out⟩ ?_
  rintro w6 ⟨hB, hT', hr, hn, ha, hb⟩
  have H_6 := Lib.hid hB
  have T_6 := Lib.hid hT'
  have Vr_6 := Lib.hid hr
  have Vn_6 := Lib.hid hn
  have Va_6 := Lib.hid ha
  have Vb_6 := Lib.hid hb
  clear hB hT' hr hn ha hb Vr_5 Vn_5 Va_5 T_5 H_5
  refine (of_gf 1 (by omega) _).mono ?_
  rintro e w7 ⟨gD, xD, yD, kD, rfl, hR, hkD, hB⟩
  have ND := Lib.hid hR
  clear hR NB
  have Vr_7 := Lib.hid (Vr_6.out.below hB)
  have Vn_7 := Lib.hid (Vn_6.out.below hB)
  have Va_7 := Lib.hid (Va_6.out.below hB)
  have Vb_7 := Lib.hid (Vb_6.out.below hB)
  have T_7 := Lib.hid (T_6.out.below hB)
  have H_7 := Lib.hid (Below.up H_6.out hB)
  clear hB Vr_6 Vn_6 Va_6 Vb_6 T_6 H_6
  go_wp2_with fail
  refine (FromFixed_vr gD xD kD yD k 1 _ (T_7.out.tab (Below.refl _ _)) ND.out (by omega) (by omega)).mono ?_
  rintro e w8 ⟨gE, xE, yE, gF, xF, yF, kE, kF, rfl, hR, hkE, hkF, hB⟩
  have NE := Lib.hid hR
  clear hR ND
  have Vr_8 := Lib.hid (Vr_7.out.below hB)
  have Vn_8 := Lib.hid (Vn_7.out.below hB)
  have Va_8 := Lib.hid (Va_7.out.below hB)
  have Vb_8 := Lib.hid (Vb_7.out.below hB)
  have T_8 := Lib.hid (T_7.out.below hB)
  have H_8 := Lib.hid (Below.up H_7.out hB)
  clear hB Vr_7 Vn_7 Va_7 Vb_7 T_7 H_7
  obtain ⟨ob0, ob1, ob2, ob3, ob4, _⟩ := Vb_8.out.below (Below.alloc' (Below.refl w8.heap.size w8) (.cells #[.bool gE, .slice xE kE yE, .bool gF, .slice xF kF yF] 26))
  obtain ⟨or0, or1, or2, or3, or4, _⟩ := Vr_8.out.below (Below.alloc' (Below.refl w8.heap.size w8) (.cells #[.bool gE, .slice xE kE yE, .bool gF, .slice xF kF yF] 26))
  go_wp2_with fail
  refine calls_at (fun W => Below w.heap.size w W ∧ TB W ∧ RV W w.heap.size g1 a1 n1 c1 h1 b1 m1 d1 p q ∧ IV W (w.heap.size + 1) ga aa la ca z ∧ IV W w3.heap.size gA xA kA yA QA ∧ RW W w5.heap.size gB xB kB yB gC xC kC yC QA (2 ^ k) ∧ RW W w8.heap.size gE xE kE yE gF xF kF yF 1 (2 ^ k)) ⟨Below.up H_8.out (Below.alloc' (Below.refl w8.heap.size w8) (.cells #[.bool gE, .slice xE kE yE, .bool gF, .slice xF kF yF] 26)), T_8.out.below (Below.alloc' (Below.refl w8.heap.size w8) (.cells #[.bool gE, .slice xE kE yE, .bool gF, .slice xF kF yF] 26)), Vr_8.out.below (Below.alloc' (Below.refl w8.heap.size w8) (.cells #[.bool gE, .slice xE kE yE, .bool gF, .slice xF kF yF] 26)), Vn_8.out.below (Below.alloc' (Below.refl w8.heap.size w8) (.cells #[.bool gE, .slice xE kE yE, .bool gF, .slice xF kF yF] 26)), Va_8.out.below (Below.alloc' (Below.refl w8.heap.size w8) (.cells #[.bool gE, .slice xE kE yE, .bool gF, .slice xF kF yF] 26)), Vb_8.out.below (Below.alloc' (Below.refl w8.heap.size w8) (.cells #[.bool gE, .slice xE kE yE, .bool gF, .slice xF kF yF] 26)), RW.new NE.out⟩ ?_
  rintro w9 ⟨hB, hT', hr, hn, ha, hb, hu⟩
  have H_9 := Lib.hid hB
  have T_9 := Lib.hid hT'
  have Vr_9 := Lib.hid hr
  have Vn_9 := Lib.hid hn
  have Va_9 := Lib.hid ha
  have Vb_9 := Lib.hid hb
  have Vu_9 := Lib.hid hu
  clear hB hT' hr hn ha hb hu Vr_8 Vn_8 Va_8 Vb_8 T_8 H_8
  clear ob0 ob1 ob2 ob3 ob4 or0 or1 or2 or3 or4
  refine (minus_vr _ _ kB kC n1 m1 QA (2 ^ k) (tP p q) (tQ q) _ (T_9.out.tab (Below.refl _ _)) Vb_9.out.2.2.2.2.2 (AR.vr Vr_9.out.2.2.2.2.2) (by omega) (by omega) (by omega) (by omega)).mono ?_
  rintro e w10 hVi
  obtain ⟨gG, xG, yG, gH, xH, yH, kG, kH, rfl, hR, hkG, hkH, hB⟩ := hVi.open
  have NG := Lib.hid hR
  clear hR hVi NE
  have Vr_10 := Lib.hid (Vr_9.out.below hB)
  have Vn_10 := Lib.hid (Vn_9.out.below hB)
  have Va_10 := Lib.hid (Va_9.out.below hB)
  have Vb_10 := Lib.hid (Vb_9.out.below hB)
  have Vu_10 := Lib.hid (Vu_9.out.below hB)
  have T_10 := Lib.hid (T_9.out.below hB)
  have H_10 := Lib.hid (Below.up H_9.out hB)
  clear hB Vr_9 Vn_9 Va_9 Vb_9 Vu_9 T_9 H_9
  obtain ⟨of0, of1, of2, of3, of4, _⟩ := (show RW (w10.alloc (.cells #[.bool gG, .slice xG kG yG, .bool gH, .slice xH kH yH] 26)) w10.heap.size gG xG kG yG gH xH kH yH (QA * (tQ q) - (tP p q) * (2 ^ k)) ((2 ^ k) * (tQ q)) from RW.new NG.out)
  go_wp2_with fail
  refine calls_at (fun W => Below w.heap.size w W ∧ TB W ∧ RV W w.heap.size g1 a1 n1 c1 h1 b1 m1 d1 p q ∧ IV W (w.heap.size + 1) ga aa la ca z ∧ IV W w3.heap.size gA xA kA yA QA ∧ RW W w5.heap.size gB xB kB yB gC xC kC yC QA (2 ^ k) ∧ RW W w8.heap.size gE xE kE yE gF xF kF yF 1 (2 ^ k) ∧ RW W w10.heap.size gG xG kG yG gH xH kH yH (QA * (tQ q) - (tP p q) * (2 ^ k)) ((2 ^ k) * (tQ q))) ⟨Below.up H_10.out (Below.alloc' (Below.refl w10.heap.size w10) (.cells #[.bool gG, .slice xG kG yG, .bool gH, .slice xH kH yH] 26)), T_10.out.below (Below.alloc' (Below.refl w10.heap.size w10) (.cells #[.bool gG, .slice xG kG yG, .bool gH, .slice xH kH yH] 26)), Vr_10.out.below (Below.alloc' (Below.refl w10.heap.size w10) (.cells #[.bool gG, .slice xG kG yG, .bool gH, .slice xH kH yH] 26)), Vn_10.out.below (Below.alloc' (Below.refl w10.heap.size w10) (.cells #[.bool gG, .slice xG kG yG, .bool gH, .slice xH kH yH] 26)), Va_10.out.below (Below.alloc' (Below.refl w10.heap.size w10) (.cells #[.bool gG, .slice xG kG yG, .bool gH, .slice xH kH yH] 26)), Vb_10.out.below (Below.alloc' (Below.refl w10.heap.size w10) (.cells #[.bool gG, .slice xG kG yG, .bool gH, .slice xH kH yH] 26)), Vu_10.out.below (Below.alloc' (Below.refl w10.heap.size w10) (.cells #[.bool gG, .slice xG kG yG, .bool gH, .slice xH kH yH] 26)), RW.new NG.out⟩ ?_
  rintro w11 ⟨hB, hT', hr, hn, ha, hb, hu, hf⟩
  have H_11 := Lib.hid hB
  have T_11 := Lib.hid hT'
  have Vr_11 := Lib.hid hr
  have Vn_11 := Lib.hid hn
  have Va_11 := Lib.hid ha
  have Vb_11 := Lib.hid hb
  have Vu_11 := Lib.hid hu
  have Vf_11 := Lib.hid hf
  clear hB hT' hr hn ha hb hu hf Vr_10 Vn_10 Va_10 Vb_10 Vu_10 T_10 H_10
  clear of0 of1 of2 of3 of4
  refine (plus_vr _ _ kG kH kG kH (QA * (tQ q) - (tP p q) * (2 ^ k)) ((2 ^ k) * (tQ q)) (QA * (tQ q) - (tP p q) * (2 ^ k)) ((2 ^ k) * (tQ q)) _ (T_11.out.tab (Below.refl _ _)) Vf_11.out.2.2.2.2.2 Vf_11.out.2.2.2.2.2 (by omega) (by omega) (by omega) (by omega)).mono ?_
  rintro e w12 hVi
  obtain ⟨gI, xI, yI, gJ, xJ, yJ, kI, kJ, rfl, hR, hkI, hkJ, hB⟩ := hVi.open
  have NI := Lib.hid hR
  clear hR hVi NG
  have Vr_12 := Lib.hid (Vr_11.out.below hB)
  have Vn_12 := Lib.hid (Vn_11.out.below hB)
  have Va_12 := Lib.hid (Va_11.out.below hB)
  have Vb_12 := Lib.hid (Vb_11.out.below hB)
  have Vu_12 := Lib.hid (Vu_11.out.below hB)
  have Vf_12 := Lib.hid (Vf_11.out.below hB)
  have T_12 := Lib.hid (T_11.out.below hB)
  have H_12 := Lib.hid (Below.up H_11.out hB)
  clear hB Vr_11 Vn_11 Va_11 Vb_11 Vu_11 Vf_11 T_11 H_11
  go_wp2_with fail
  refine wp_at (fun W => Below w.heap.size w W ∧ TB W ∧ RV W w.heap.size g1 a1 n1 c1 h1 b1 m1 d1 p q ∧ IV W (w.heap.size + 1) ga aa la ca z ∧ IV W w3.heap.size gA xA kA yA QA ∧ RW W w5.heap.size gB xB kB yB gC xC kC yC QA (2 ^ k) ∧ RW W w8.heap.size gE xE kE yE gF xF kF yF 1 (2 ^ k) ∧ RW W w10.heap.size gG xG kG yG gH xH kH yH (QA * (tQ q) - (tP p q) * (2 ^ k)) ((2 ^ k) * (tQ q)) ∧ RW W w12.heap.size gI xI kI yI gJ xJ kJ yJ ((QA * (tQ q) - (tP p q) * (2 ^ k)) * ((2 ^ k) * (tQ q)) + (QA * (tQ q) - (tP p q) * (2 ^ k)) * ((2 ^ k) * (tQ q))) (((2 ^ k) * (tQ q)) * ((2 ^ k) * (tQ q)))) ⟨Below.up H_12.out (Below.alloc' (Below.refl w12.heap.size w12) (.cells #[.bool gI, .slice xI kI yI, .bool gJ, .slice xJ kJ yJ] 26)), T_12.out.below (Below.alloc' (Below.refl w12.heap.size w12) (.cells #[.bool gI, .slice xI kI yI, .bool gJ, .slice xJ kJ yJ] 26)), Vr_12.out.below (Below.alloc' (Below.refl w12.heap.size w12) (.cells #[.bool gI, .slice xI kI yI, .bool gJ, .slice xJ kJ yJ] 26)), Vn_12.out.below (Below.alloc' (Below.refl w12.heap.size w12) (.cells #[.bool gI, .slice xI kI yI, .bool gJ, .slice xJ kJ yJ] 26)), Va_12.out.below (Below.alloc' (Below.refl w12.heap.size w12) (.cells #[.bool gI, .slice xI kI yI, .bool gJ, .slice xJ kJ yJ] 26)), Vb_12.out.below (Below.alloc' (Below.refl w12.heap.size w12) (.cells #[.bool gI, .slice xI kI yI, .bool gJ, .slice xJ kJ yJ] 26)), Vu_12.out.below (Below.alloc' (Below.refl w12.heap.size w12) (.cells #[.bool gI, .slice xI kI yI, .bool gJ, .slice xJ kJ yJ] 26)), Vf_12.out.below (Below.alloc' (Below.refl w12.heap.size w12) (.cells #[.bool gI, .slice xI kI yI, .bool gJ, .slice xJ kJ yJ] 26)), RW.new NI.out⟩ ?_
  rintro w13 ⟨hB, hT', hr, hn, ha, hb, hu, hf, ht⟩
  have H_13 := Lib.hid hB
  have T_13 := Lib.hid hT'
  have Vr_13 := Lib.hid hr
  have Vn_13 := Lib.hid hn
  have Va_13 := Lib.hid ha
  have Vb_13 := Lib.hid hb
  have Vu_13 := Lib.hid hu
  have Vf_13 := Lib.hid hf
  have Vt_13 := Lib.hid ht
  clear hB hT' hr hn ha hb hu hf ht Vr_12 Vn_12 Va_12 Vb_12 Vu_12 Vf_12 T_12 H_12
  clear NI
  obtain ⟨o1, ho1⟩ : ∃ o, ord (((QA * (tQ q) - (tP p q) * (2 ^ k)) * ((2 ^ k) * (tQ q)) + (QA * (tQ q) - (tP p q) * (2 ^ k)) * ((2 ^ k) * (tQ q))) * (2 ^ k)) (1 * (((2 ^ k) * (tQ q)) * ((2 ^ k) * (tQ q)))) = o := ⟨_, rfl⟩
  have e1 : decide (o1 ≤ (0 : Int)) = true := decide_eq_true (ho1 ▸ ord_le (near_le hY.out hK.out DA.out))
  have ho1 := Lib.hid ho1
  obtain ⟨o2, ho2⟩ : ∃ o, ord ((0 * (2 ^ k) - 1 * 1) * (((2 ^ k) * (tQ q)) * ((2 ^ k) * (tQ q)))) (((QA * (tQ q) - (tP p q) * (2 ^ k)) * ((2 ^ k) * (tQ q)) + (QA * (tQ q) - (tP p q) * (2 ^ k)) * ((2 ^ k) * (tQ q))) * (1 * (2 ^ k))) = o := ⟨_, rfl⟩
  have e2 : decide (o2 < (0 : Int)) = true := decide_eq_true (by rw [← ho2, ord_lt (near_gt hY.out hK.out DA.out)]; omega)
  have ho2 := Lib.hid ho2
  go_cut [17] from 28 to 174 (fun s0 W => s0 = .bool true ∧ Hid (Below w13.heap.size w13 W))
  case first =>
    rename_i hJ hK'
    have B_ := Lib.hid (Below.refl w13.heap.size w13)
    have D_ := Lib.hid (Below.drew B_.out)
    have M_ := Lib.hid (show ∀ w', Below w13.heap.size w13 w' → w'.cell? ⟨w12.heap.size, 0, none⟩ = some (.bool gI) ∧ w'.cell? ⟨w12.heap.size, 1, none⟩ = some (.slice xI kI yI) ∧ w'.cell? ⟨w12.heap.size, 2, none⟩ = some (.bool gJ) ∧ w'.cell? ⟨w12.heap.size, 3, none⟩ = some (.slice xJ kJ yJ) ∧ w'.cell? ⟨w8.heap.size, 0, none⟩ = some (.bool gE) ∧ w'.cell? ⟨w8.heap.size, 1, none⟩ = some (.slice xE kE yE) ∧ w'.cell? ⟨w8.heap.size, 2, none⟩ = some (.bool gF) ∧ w'.cell? ⟨w8.heap.size, 3, none⟩ = some (.slice xF kF yF) from fun w' h => ⟨(Vt_13.out.below h).1, (Vt_13.out.below h).2.1, (Vt_13.out.below h).2.2.1, (Vt_13.out.below h).2.2.2.1, (Vu_13.out.below h).1, (Vu_13.out.below h).2.1, (Vu_13.out.below h).2.2.1, (Vu_13.out.below h).2.2.2.1⟩)
    obtain ⟨ot0, ot1, ot2, ot3, ot4, _⟩ := Vt_13.out
    obtain ⟨ou0, ou1, ou2, ou3, ou4, _⟩ := Vu_13.out
    have s0 : kI ≤ 300 := by omega
    have s1 : kJ ≤ 300 := by omega
    have s2 : kE ≤ 300 := by omega
    have s3 : kF ≤ 300 := by omega
    have s4 : kI < 40 ∨ kF < 38 := by omega
    have s5 : kE < 40 ∨ kJ < 38 := by omega
    have s6 : (-9223372036854775808 : Int) ≤ 0 ∧ (0 : Int) ≤ 9223372036854775807 := by omega
    have s7 : kE ≤ 39 := by omega
    have s8 : kF ≤ 37 := by omega
    go_region_held3 (fun w' => w'.cell? ⟨w12.heap.size, 0, none⟩ = some (.bool gI) ∧ w'.cell? ⟨w12.heap.size, 1, none⟩ = some (.slice xI kI yI) ∧ w'.cell? ⟨w12.heap.size, 2, none⟩ = some (.bool gJ) ∧ w'.cell? ⟨w12.heap.size, 3, none⟩ = some (.slice xJ kJ yJ) ∧ w'.cell? ⟨w8.heap.size, 0, none⟩ = some (.bool gE) ∧ w'.cell? ⟨w8.heap.size, 1, none⟩ = some (.slice xE kE yE) ∧ w'.cell? ⟨w8.heap.size, 2, none⟩ = some (.bool gF) ∧ w'.cell? ⟨w8.heap.size, 3, none⟩ = some (.slice xF kF yF))
      (first | (with_reducible exact M_.out _ D_.out) | (with_reducible exact M_.out _ T0.out) | (with_reducible exact M_.out _ T1.out) | (with_reducible exact M_.out _ T2.out) | (with_reducible exact M_.out _ T3.out) | (with_reducible exact M_.out _ T4.out))
      (first
      | (go_at_call 23; ((with_reducible refine (compare_vr2 (.agg #[.bool gI, .slice xI kI yI, .bool gJ, .slice xJ kJ yJ]) (.agg #[.bool gE, .slice xE kE yE, .bool gF, .slice xF kF yF]) kI kJ kE kF ((QA * (tQ q) - (tP p q) * (2 ^ k)) * ((2 ^ k) * (tQ q)) + (QA * (tQ q) - (tP p q) * (2 ^ k)) * ((2 ^ k) * (tQ q))) (((2 ^ k) * (tQ q)) * ((2 ^ k) * (tQ q))) 1 (2 ^ k) o1 _ (Vt_13.out.up D_.out) (Vu_13.out.up D_.out) s0 s1 s2 s3 s4 s5 ho1.out).mono ?_); rintro e v0 ⟨rfl, hB⟩; have T0 := Lib.hid (Below.up D_.out hB); clear hB))
      | (go_at_call 20; ((with_reducible refine (of_gf 0 s6 _).mono ?_); rintro e v1 ⟨gO, xO, yO, kO, rfl, hR, hkO, hB⟩; have N1 := Lib.hid hR; have t1 : kO ≤ 900 := (by omega); have T1 := Lib.hid (Below.up T0.out hB); clear hB hR))
      | (go_at_call 24; ((with_reducible refine (Whole_any gO xO kO yO 0 _ N1.out t1).mono ?_); rintro e v2 ⟨gP, xP, yP, gQ, xQ, yQ, kP, kQ, rfl, hR, hkP, hkQ, hB⟩; have N2 := Lib.hid hR; have t2 : kP ≤ 39 := (by omega); have t3 : kQ ≤ 37 := (by omega); have T2 := Lib.hid (Below.up T1.out hB); clear hB hR))
      | (go_at_call 21; ((with_reducible refine (minus_vr _ (.agg #[.bool gE, .slice xE kE yE, .bool gF, .slice xF kF yF]) kP kQ kE kF 0 1 1 (2 ^ k) _ (T_13.out.tab T2.out) N2.out (Vu_13.out.up T2.out) t2 t3 s7 s8).mono ?_); rintro e v3 hVi; obtain ⟨gR, xR, yR, gS, xS, yS, kR, kS, rfl, hR, hkR, hkS, hB⟩ := hVi.open; have N3 := Lib.hid hR; have t4 : kR ≤ 300 := (by omega); have t5 : kS ≤ 300 := (by omega); have t6 : kR < 40 ∨ kJ < 38 := (by omega); have t7 : kI < 40 ∨ kS < 38 := (by omega); have T3 := Lib.hid (Below.up T2.out hB); clear hB hR hVi))
      | (go_at_call 23; ((with_reducible refine (compare_vr2 _ (.agg #[.bool gI, .slice xI kI yI, .bool gJ, .slice xJ kJ yJ]) kR kS kI kJ (0 * (2 ^ k) - 1 * 1) (1 * (2 ^ k)) ((QA * (tQ q) - (tP p q) * (2 ^ k)) * ((2 ^ k) * (tQ q)) + (QA * (tQ q) - (tP p q) * (2 ^ k)) * ((2 ^ k) * (tQ q))) (((2 ^ k) * (tQ q)) * ((2 ^ k) * (tQ q))) o2 _ N3.out (Vt_13.out.up T3.out) t4 t5 s0 s1 t6 t7 ho2.out).mono ?_); rintro e v4 ⟨rfl, hB⟩; have T4 := Lib.hid (Below.up T3.out hB); clear hB)))
    refine hK' _ _ (Met.intro (hJ _ _ ?_))
    (repeat apply Exists.intro)
    exact ⟨⟨rfl, Lib.hid T4.out⟩, rfl⟩
  case rest =>
    obtain ⟨rfl, hF⟩ := hcut
    generalize wc = w14 at *
    have hB := hF.out
    clear hF ho1 ho2 e1 e2
    have Vr_14 := Lib.hid (Vr_13.out.below hB)
    have Vn_14 := Lib.hid (Vn_13.out.below hB)
    have Va_14 := Lib.hid (Va_13.out.below hB)
    have Vb_14 := Lib.hid (Vb_13.out.below hB)
    have Vu_14 := Lib.hid (Vu_13.out.below hB)
    have Vf_14 := Lib.hid (Vf_13.out.below hB)
    have Vt_14 := Lib.hid (Vt_13.out.below hB)
    have T_14 := Lib.hid (T_13.out.below hB)
    have H_14 := Lib.hid (Below.up H_13.out hB)
    clear hB Vr_13 Vn_13 Va_13 Vb_13 Vu_13 Vf_13 Vt_13 T_13 H_13
    clear Va_14 Vb_14 Vf_14 Vt_14
    obtain ⟨on0, on1, on2, _⟩ := Vn_14.out
    go_wp2_with fail
    refine (FromFixed_any ga aa la ca k z _ (T_14.out.tab (Below.refl _ _)) Vn_14.out.2.2.2 (by omega) (by omega)).mono ?_
    rintro e w15 ⟨gB, xB, yB, gC, xC, yC, kB', kC', PW, QW, rfl, hR, hPQ, hkB', hkC', hB⟩
    have NB := Lib.hid hR
    have PQ := Lib.hid hPQ
    clear hR hPQ
    have Vr_15 := Lib.hid (Vr_14.out.below hB)
    have Vn_15 := Lib.hid (Vn_14.out.below hB)
    have Vu_15 := Lib.hid (Vu_14.out.below hB)
    have T_15 := Lib.hid (T_14.out.below hB)
    have H_15 := Lib.hid (Below.up H_14.out hB)
    clear hB Vr_14 Vn_14 Vu_14 T_14 H_14
    clear on0 on1 on2
    obtain ⟨oh0, oh1, oh2, oh3, oh4, _⟩ := (show RV (w15.alloc (.cells #[.bool gB, .slice xB kB' yB, .bool gC, .slice xC kC' yC] 26)) w15.heap.size gB xB kB' yB gC xC kC' yC PW QW from RV.new NB.out)
    go_wp2_with fail
    refine calls_at (fun W => Below w.heap.size w W ∧ TB W ∧ RV W w.heap.size g1 a1 n1 c1 h1 b1 m1 d1 p q ∧ IV W (w.heap.size + 1) ga aa la ca z ∧ RW W w8.heap.size gE xE kE yE gF xF kF yF 1 (2 ^ k) ∧ RV W w15.heap.size gB xB kB' yB gC xC kC' yC PW QW) ⟨Below.up H_15.out (Below.alloc' (Below.refl w15.heap.size w15) (.cells #[.bool gB, .slice xB kB' yB, .bool gC, .slice xC kC' yC] 26)), T_15.out.below (Below.alloc' (Below.refl w15.heap.size w15) (.cells #[.bool gB, .slice xB kB' yB, .bool gC, .slice xC kC' yC] 26)), Vr_15.out.below (Below.alloc' (Below.refl w15.heap.size w15) (.cells #[.bool gB, .slice xB kB' yB, .bool gC, .slice xC kC' yC] 26)), Vn_15.out.below (Below.alloc' (Below.refl w15.heap.size w15) (.cells #[.bool gB, .slice xB kB' yB, .bool gC, .slice xC kC' yC] 26)), Vu_15.out.below (Below.alloc' (Below.refl w15.heap.size w15) (.cells #[.bool gB, .slice xB kB' yB, .bool gC, .slice xC kC' yC] 26)), RV.new NB.out⟩ ?_
    rintro w16 ⟨hB, hT', hr, hn, hu, hh⟩
    have H_16 := Lib.hid hB
    have T_16 := Lib.hid hT'
    have Vr_16 := Lib.hid hr
    have Vn_16 := Lib.hid hn
    have Vu_16 := Lib.hid hu
    have Vh_16 := Lib.hid hh
    clear hB hT' hr hn hu hh Vr_15 Vn_15 Vu_15 T_15 H_15
    clear oh0 oh1 oh2 oh3 oh4
    clear NB
    refine (Fixed_any gB gC xB xC kB' kC' yB yC k PW QW _ Vh_16.out.2.2.2.2.2 (by omega) (by omega) (by omega)).mono ?_
    rintro e w17 ⟨gM, xM, yM, kM, QM, RM, rfl, hR, hDM, hkM, hB⟩
    have NM := Lib.hid hR
    have hPW := pos_forms (P := PW) PQ.out.1
    rw [hPW.1, hPW.2] at hDM
    have hQM := fixed_same PQ.out.1 PQ.out.2 hDM
    clear hR hDM hPW
    have Vr_17 := Lib.hid (Vr_16.out.below hB)
    have Vn_17 := Lib.hid (Vn_16.out.below hB)
    have Vu_17 := Lib.hid (Vu_16.out.below hB)
    have Vh_17 := Lib.hid (Vh_16.out.below hB)
    have T_17 := Lib.hid (T_16.out.below hB)
    have H_17 := Lib.hid (Below.up H_16.out hB)
    clear hB Vr_16 Vn_16 Vu_16 Vh_16 T_16 H_16
    subst hQM
    obtain ⟨om0, om1, om2, _⟩ := (show IV (w17.alloc (.cells #[.bool gM, .slice xM kM yM] 24)) w17.heap.size gM xM kM yM QM from IV.new NM.out)
    obtain ⟨on0, on1, on2, _⟩ := Vn_17.out.below (Below.alloc' (Below.refl w17.heap.size w17) (.cells #[.bool gM, .slice xM kM yM] 24))
    go_wp2_with fail
    refine calls_at (fun W => Below w.heap.size w W ∧ TB W ∧ RV W w.heap.size g1 a1 n1 c1 h1 b1 m1 d1 p q ∧ IV W (w.heap.size + 1) ga aa la ca QM ∧ RW W w8.heap.size gE xE kE yE gF xF kF yF 1 (2 ^ k) ∧ RV W w15.heap.size gB xB kB' yB gC xC kC' yC PW QW ∧ IV W w17.heap.size gM xM kM yM QM) ⟨Below.up H_17.out (Below.alloc' (Below.refl w17.heap.size w17) (.cells #[.bool gM, .slice xM kM yM] 24)), T_17.out.below (Below.alloc' (Below.refl w17.heap.size w17) (.cells #[.bool gM, .slice xM kM yM] 24)), Vr_17.out.below (Below.alloc' (Below.refl w17.heap.size w17) (.cells #[.bool gM, .slice xM kM yM] 24)), Vn_17.out.below (Below.alloc' (Below.refl w17.heap.size w17) (.cells #[.bool gM, .slice xM kM yM] 24)), Vu_17.out.below (Below.alloc' (Below.refl w17.heap.size w17) (.cells #[.bool gM, .slice xM kM yM] 24)), Vh_17.out.below (Below.alloc' (Below.refl w17.heap.size w17) (.cells #[.bool gM, .slice xM kM yM] 24)), IV.new NM.out⟩ ?_
    rintro w18 ⟨hB, hT', hr, hn, hu, hh, hm⟩
    have H_18 := Lib.hid hB
    have T_18 := Lib.hid hT'
    have Vr_18 := Lib.hid hr
    have Vn_18 := Lib.hid hn
    have Vu_18 := Lib.hid hu
    have Vh_18 := Lib.hid hh
    have Vm_18 := Lib.hid hm
    clear hB hT' hr hn hu hh hm Vr_17 Vn_17 Vu_17 Vh_17 T_17 H_17
    clear om0 om1 om2 on0 on1 on2
    clear NM
    refine (equal_true _ _ kM la QM QM _ Vm_18.out.2.2.2 Vn_18.out.2.2.2 (by omega) (by omega) rfl).mono ?_
    rintro e w19 ⟨rfl, hB⟩
    have Vr_19 := Lib.hid (Vr_18.out.below hB)
    have Vn_19 := Lib.hid (Vn_18.out.below hB)
    have Vu_19 := Lib.hid (Vu_18.out.below hB)
    have Vh_19 := Lib.hid (Vh_18.out.below hB)
    have Vm_19 := Lib.hid (Vm_18.out.below hB)
    have T_19 := Lib.hid (T_18.out.below hB)
    have H_19 := Lib.hid (Below.up H_18.out hB)
    clear hB Vr_18 Vn_18 Vu_18 Vh_18 Vm_18 T_18 H_18
    clear Vh_19 Vm_19
    obtain ⟨or0, or1, or2, or3, or4, _⟩ := Vr_19.out
    go_wp2_with fail
    refine (RootFixed_no g1 h1 a1 b1 n1 m1 c1 d1 k p q _ Vr_19.out.2.2.2.2.2 (by omega) (by omega) (by omega) hneg).mono ?_
    rintro e w20 ⟨rfl, hB⟩
    have Vr_20 := Lib.hid (Vr_19.out.below hB)
    have Vn_20 := Lib.hid (Vn_19.out.below hB)
    have Vu_20 := Lib.hid (Vu_19.out.below hB)
    have T_20 := Lib.hid (T_19.out.below hB)
    have H_20 := Lib.hid (Below.up H_19.out hB)
    clear hB Vr_19 Vn_19 Vu_19 T_19 H_19
    clear or0 or1 or2 or3 or4
    obtain ⟨or0, or1, or2, or3, or4, _⟩ := Vr_20.out.below (Below.alloc' (Below.refl w20.heap.size w20) (.cells #[.bool false, .slice none 0 0] 24))
    go_wp2_with fail
    refine calls_at (fun W => Below w.heap.size w W ∧ TB W ∧ RV W w.heap.size g1 a1 n1 c1 h1 b1 m1 d1 p q ∧ IV W (w.heap.size + 1) ga aa la ca QM ∧ RW W w8.heap.size gE xE kE yE gF xF kF yF 1 (2 ^ k) ∧ IV W w20.heap.size false none 0 0 0) ⟨Below.up H_20.out (Below.alloc' (Below.refl w20.heap.size w20) (.cells #[.bool false, .slice none 0 0] 24)), T_20.out.below (Below.alloc' (Below.refl w20.heap.size w20) (.cells #[.bool false, .slice none 0 0] 24)), Vr_20.out.below (Below.alloc' (Below.refl w20.heap.size w20) (.cells #[.bool false, .slice none 0 0] 24)), Vn_20.out.below (Below.alloc' (Below.refl w20.heap.size w20) (.cells #[.bool false, .slice none 0 0] 24)), Vu_20.out.below (Below.alloc' (Below.refl w20.heap.size w20) (.cells #[.bool false, .slice none 0 0] 24)), IV.new ⟨false, none, 0, fun _ => 0, rfl, Nat.le_refl _, Dg_zero, fun h => absurd h (by omega), rfl⟩⟩ ?_
    rintro w21 ⟨hB, hT', hr, hn, hu, hz⟩
    have H_21 := Lib.hid hB
    have T_21 := Lib.hid hT'
    have Vr_21 := Lib.hid hr
    have Vn_21 := Lib.hid hn
    have Vu_21 := Lib.hid hu
    have Vz_21 := Lib.hid hz
    clear hB hT' hr hn hu hz Vr_20 Vn_20 Vu_20 T_20 H_20
    clear or0 or1 or2 or3 or4
    refine (Signum_any _ n1 m1 p q _ Vr_21.out.2.2.2.2.2 (by omega) (by omega)).mono ?_
    rintro e w22 ⟨rfl, hB⟩
    have ds : decide (ord (tP p q) 0 < (0 : Int)) = true := decide_eq_true (by rw [ord_lt hneg]; omega)
    have Vr_22 := Lib.hid (Vr_21.out.below hB)
    have Vn_22 := Lib.hid (Vn_21.out.below hB)
    have Vu_22 := Lib.hid (Vu_21.out.below hB)
    have Vz_22 := Lib.hid (Vz_21.out.below hB)
    have T_22 := Lib.hid (T_21.out.below hB)
    have H_22 := Lib.hid (Below.up H_21.out hB)
    clear hB Vr_21 Vn_21 Vu_21 Vz_21 T_21 H_21
    go_wp2_with fail
    go_ret
    exact ⟨rfl, H_22.out⟩
end Go.Proofs.YtpkjpepnjlcgoaaDoor
end

section
set_option linter.unusedVariables false
set_option linter.unusedSimpArgs false
set_option maxRecDepth 100000
namespace Go.Proofs.YtpkjpepnjlcgoaaDoor
open Go.RowKit

set_option maxHeartbeats 12800000 in
theorem near_long1 (g1 h1 : Bool) (a1 b1 : Option Addr) (n1 m1 c1 d1 : Nat) (p q : Int) (ga : Bool) (aa : Option Addr) (la ca k : Nat) (z : Int) (w : World) (hT : Tab w) (hr : AR w (.agg #[.bool g1, .slice a1 n1 c1, .bool h1, .slice b1 m1 d1]) n1 m1 p q) (ha : AI w (.agg #[.bool ga, .slice aa la ca]) la z) (hk : k ≤ 255) (hlong : 8 < max n1 m1) :
    Calls Tryd.prog 4 #[.agg #[.bool g1, .slice a1 n1 c1, .bool h1, .slice b1 m1 d1], .agg #[.bool ga, .slice aa la ca], .int .u8 k] w fun e w' => e = .returned (.bool true) ∧ Below w.heap.size w w' := by
  have H_0 := Lib.hid (show Below w.heap.size w ((w.alloc (.cells #[.bool g1, .slice a1 n1 c1, .bool h1, .slice b1 m1 d1] 26)).alloc (.cells #[.bool ga, .slice aa la ca] 24)) from Below.alloc2 _ _ _)
  have Vr_0 := Lib.hid (show RV ((w.alloc (.cells #[.bool g1, .slice a1 n1 c1, .bool h1, .slice b1 m1 d1] 26)).alloc (.cells #[.bool ga, .slice aa la ca] 24)) w.heap.size g1 a1 n1 c1 h1 b1 m1 d1 p q from (RV.new hr).below (Below.alloc' (Below.refl _ _) _))
  have Vn_0 := Lib.hid (show IV ((w.alloc (.cells #[.bool g1, .slice a1 n1 c1, .bool h1, .slice b1 m1 d1] 26)).alloc (.cells #[.bool ga, .slice aa la ca] 24)) (w.heap.size + 1) ga aa la ca z from IV.new' (ha.below (w' := w.alloc (.cells #[.bool g1, .slice a1 n1 c1, .bool h1, .slice b1 m1 d1] 26)) (Below.alloc' (Below.refl _ _) _)) (by simp))
  have T_0 := Lib.hid (TB.of hT H_0.out)
  clear hT hr ha
  go_enter Tryd.func4, Tryd.ntmps4
  go_wp2_with fail
  refine calls_at (fun W => Below w.heap.size w W ∧ TB W ∧ RV W w.heap.size g1 a1 n1 c1 h1 b1 m1 d1 p q ∧ IV W (w.heap.size + 1) ga aa la ca z) ⟨H_0.out, T_0.out, Vr_0.out, Vn_0.out⟩ ?_
  clear H_0 T_0 Vr_0 Vn_0
  rintro w0 ⟨hB, hT', hr, hn'⟩
  have H_0 := Lib.hid hB
  have T_0 := Lib.hid hT'
  have Vr_0 := Lib.hid hr
  have Vn_0 := Lib.hid hn'
  clear hB hT' hr hn'
  refine (alive_any _ (T_0.out.tab (Below.refl _ _))).mono ?_
  rintro e w1 ⟨rfl, hB⟩
  have Vr_1 := Lib.hid (Vr_0.out.below hB)
  have Vn_1 := Lib.hid (Vn_0.out.below hB)
  have T_1 := Lib.hid (T_0.out.below hB)
  have H_1 := Lib.hid (Below.up H_0.out hB)
  clear hB Vr_0 Vn_0 T_0 H_0
  obtain ⟨or0, or1, or2, or3, or4, _⟩ := Vr_1.out
  go_wp2_with fail
  refine (Wide_any _ n1 m1 p q _ Vr_1.out.2.2.2.2.2).mono ?_
  rintro e w2 ⟨⟨L, rfl, hL⟩, hB⟩
  have Vr_2 := Lib.hid (Vr_1.out.below hB)
  have Vn_2 := Lib.hid (Vn_1.out.below hB)
  have T_2 := Lib.hid (T_1.out.below hB)
  have H_2 := Lib.hid (Below.up H_1.out hB)
  clear hB Vr_1 Vn_1 T_1 H_1
  clear or0 or1 or2 or3 or4
  obtain ⟨on0, on1, on2, _⟩ := Vn_2.out
  obtain ⟨or0, or1, or2, or3, or4, _⟩ := Vr_2.out
  have dL : decide ((8 : Int) < (L : Int)) = true := decide_eq_true (by omega)
  go_wp2_with fail
  go_ret
  exact ⟨rfl, H_2.out⟩

set_option maxHeartbeats 12800000 in
theorem near_long2 (g1 h1 : Bool) (a1 b1 : Option Addr) (n1 m1 c1 d1 : Nat) (p q : Int) (ga : Bool) (aa : Option Addr) (la ca k : Nat) (z : Int) (w : World) (hT : Tab w) (hr : AR w (.agg #[.bool g1, .slice a1 n1 c1, .bool h1, .slice b1 m1 d1]) n1 m1 p q) (ha : AI w (.agg #[.bool ga, .slice aa la ca]) la z) (hk : k ≤ 255) (hn1 : n1 ≤ 8) (hm1 : m1 ≤ 8) (hlong : 8 < la) :
    Calls Tryd.prog 4 #[.agg #[.bool g1, .slice a1 n1 c1, .bool h1, .slice b1 m1 d1], .agg #[.bool ga, .slice aa la ca], .int .u8 k] w fun e w' => e = .returned (.bool true) ∧ Below w.heap.size w w' := by
  have H_0 := Lib.hid (show Below w.heap.size w ((w.alloc (.cells #[.bool g1, .slice a1 n1 c1, .bool h1, .slice b1 m1 d1] 26)).alloc (.cells #[.bool ga, .slice aa la ca] 24)) from Below.alloc2 _ _ _)
  have Vr_0 := Lib.hid (show RV ((w.alloc (.cells #[.bool g1, .slice a1 n1 c1, .bool h1, .slice b1 m1 d1] 26)).alloc (.cells #[.bool ga, .slice aa la ca] 24)) w.heap.size g1 a1 n1 c1 h1 b1 m1 d1 p q from (RV.new hr).below (Below.alloc' (Below.refl _ _) _))
  have Vn_0 := Lib.hid (show IV ((w.alloc (.cells #[.bool g1, .slice a1 n1 c1, .bool h1, .slice b1 m1 d1] 26)).alloc (.cells #[.bool ga, .slice aa la ca] 24)) (w.heap.size + 1) ga aa la ca z from IV.new' (ha.below (w' := w.alloc (.cells #[.bool g1, .slice a1 n1 c1, .bool h1, .slice b1 m1 d1] 26)) (Below.alloc' (Below.refl _ _) _)) (by simp))
  have T_0 := Lib.hid (TB.of hT H_0.out)
  clear hT hr ha
  go_enter Tryd.func4, Tryd.ntmps4
  go_wp2_with fail
  refine calls_at (fun W => Below w.heap.size w W ∧ TB W ∧ RV W w.heap.size g1 a1 n1 c1 h1 b1 m1 d1 p q ∧ IV W (w.heap.size + 1) ga aa la ca z) ⟨H_0.out, T_0.out, Vr_0.out, Vn_0.out⟩ ?_
  clear H_0 T_0 Vr_0 Vn_0
  rintro w0 ⟨hB, hT', hr, hn'⟩
  have H_0 := Lib.hid hB
  have T_0 := Lib.hid hT'
  have Vr_0 := Lib.hid hr
  have Vn_0 := Lib.hid hn'
  clear hB hT' hr hn'
  refine (alive_any _ (T_0.out.tab (Below.refl _ _))).mono ?_
  rintro e w1 ⟨rfl, hB⟩
  have Vr_1 := Lib.hid (Vr_0.out.below hB)
  have Vn_1 := Lib.hid (Vn_0.out.below hB)
  have T_1 := Lib.hid (T_0.out.below hB)
  have H_1 := Lib.hid (Below.up H_0.out hB)
  clear hB Vr_0 Vn_0 T_0 H_0
  obtain ⟨or0, or1, or2, or3, or4, _⟩ := Vr_1.out
  go_wp2_with fail
  refine (Wide_any _ n1 m1 p q _ Vr_1.out.2.2.2.2.2).mono ?_
  rintro e w2 ⟨⟨L, rfl, hL⟩, hB⟩
  have Vr_2 := Lib.hid (Vr_1.out.below hB)
  have Vn_2 := Lib.hid (Vn_1.out.below hB)
  have T_2 := Lib.hid (T_1.out.below hB)
  have H_2 := Lib.hid (Below.up H_1.out hB)
  clear hB Vr_1 Vn_1 T_1 H_1
  clear or0 or1 or2 or3 or4
  obtain ⟨on0, on1, on2, _⟩ := Vn_2.out
  obtain ⟨or0, or1, or2, or3, or4, _⟩ := Vr_2.out
  have dL : decide ((8 : Int) < (L : Int)) = false := decide_eq_false (by omega)
  have da : decide ((8 : Int) < (la : Int)) = true := decide_eq_true (by omega)
  go_wp2_with fail
  go_ret
  exact ⟨rfl, H_2.out⟩

set_option maxHeartbeats 12800000 in
theorem near_pos (g1 h1 : Bool) (a1 b1 : Option Addr) (n1 m1 c1 d1 : Nat) (p q : Int) (ga : Bool) (aa : Option Addr) (la ca k : Nat) (z : Int) (w : World) (hT : Tab w) (hr : AR w (.agg #[.bool g1, .slice a1 n1 c1, .bool h1, .slice b1 m1 d1]) n1 m1 p q) (ha : AI w (.agg #[.bool ga, .slice aa la ca]) la z) (hk : k ≤ 255) (hn1 : n1 ≤ 8) (hm1 : m1 ≤ 8) (hla : la ≤ 8) (hpos : 0 ≤ tP p q) :
    Calls Tryd.prog 4 #[.agg #[.bool g1, .slice a1 n1 c1, .bool h1, .slice b1 m1 d1], .agg #[.bool ga, .slice aa la ca], .int .u8 k] w fun e w' => e = .returned (.bool true) ∧ Below w.heap.size w w' := by
  have H_0 := Lib.hid (show Below w.heap.size w ((w.alloc (.cells #[.bool g1, .slice a1 n1 c1, .bool h1, .slice b1 m1 d1] 26)).alloc (.cells #[.bool ga, .slice aa la ca] 24)) from Below.alloc2 _ _ _)
  have Vr_0 := Lib.hid (show RV ((w.alloc (.cells #[.bool g1, .slice a1 n1 c1, .bool h1, .slice b1 m1 d1] 26)).alloc (.cells #[.bool ga, .slice aa la ca] 24)) w.heap.size g1 a1 n1 c1 h1 b1 m1 d1 p q from (RV.new hr).below (Below.alloc' (Below.refl _ _) _))
  have Vn_0 := Lib.hid (show IV ((w.alloc (.cells #[.bool g1, .slice a1 n1 c1, .bool h1, .slice b1 m1 d1] 26)).alloc (.cells #[.bool ga, .slice aa la ca] 24)) (w.heap.size + 1) ga aa la ca z from IV.new' (ha.below (w' := w.alloc (.cells #[.bool g1, .slice a1 n1 c1, .bool h1, .slice b1 m1 d1] 26)) (Below.alloc' (Below.refl _ _) _)) (by simp))
  have T_0 := Lib.hid (TB.of hT H_0.out)
  clear hT hr ha
  go_enter Tryd.func4, Tryd.ntmps4
  go_wp2_with fail
  refine calls_at (fun W => Below w.heap.size w W ∧ TB W ∧ RV W w.heap.size g1 a1 n1 c1 h1 b1 m1 d1 p q ∧ IV W (w.heap.size + 1) ga aa la ca z) ⟨H_0.out, T_0.out, Vr_0.out, Vn_0.out⟩ ?_
  clear H_0 T_0 Vr_0 Vn_0
  rintro w0 ⟨hB, hT', hr, hn'⟩
  have H_0 := Lib.hid hB
  have T_0 := Lib.hid hT'
  have Vr_0 := Lib.hid hr
  have Vn_0 := Lib.hid hn'
  clear hB hT' hr hn'
  refine (alive_any _ (T_0.out.tab (Below.refl _ _))).mono ?_
  rintro e w1 ⟨rfl, hB⟩
  have Vr_1 := Lib.hid (Vr_0.out.below hB)
  have Vn_1 := Lib.hid (Vn_0.out.below hB)
  have T_1 := Lib.hid (T_0.out.below hB)
  have H_1 := Lib.hid (Below.up H_0.out hB)
  clear hB Vr_0 Vn_0 T_0 H_0
  obtain ⟨or0, or1, or2, or3, or4, _⟩ := Vr_1.out
  go_wp2_with fail
  refine (Wide_any _ n1 m1 p q _ Vr_1.out.2.2.2.2.2).mono ?_
  rintro e w2 ⟨⟨L, rfl, hL⟩, hB⟩
  have Vr_2 := Lib.hid (Vr_1.out.below hB)
  have Vn_2 := Lib.hid (Vn_1.out.below hB)
  have T_2 := Lib.hid (T_1.out.below hB)
  have H_2 := Lib.hid (Below.up H_1.out hB)
  clear hB Vr_1 Vn_1 T_1 H_1
  clear or0 or1 or2 or3 or4
  obtain ⟨on0, on1, on2, _⟩ := Vn_2.out
  obtain ⟨or0, or1, or2, or3, or4, _⟩ := Vr_2.out
  have dL : decide ((8 : Int) < (L : Int)) = false := decide_eq_false (by omega)
  have da : decide ((8 : Int) < (la : Int)) = false := decide_eq_false (by omega)
  have hY := Lib.hid (tQ_pos q)
  have hK := Lib.hid (show (0 : Int) < (2 ^ k) from Int.pow_pos (by decide))
  have wk : IntKind.i64.wrap (k : Int) = (k : Int) := IntWalk.i64_in _ (by omega)
  go_wp2_with fail
  refine (Fixed_any g1 h1 a1 b1 n1 m1 c1 d1 k p q _ Vr_2.out.2.2.2.2.2 (by omega) (by omega) (by omega)).mono ?_
  rintro e w3 ⟨gA, xA, yA, kA, QA, RA, rfl, hR, hDA, hkA, hB⟩
  have NA := Lib.hid hR
  have DA := Lib.hid hDA
  clear hR hDA
  have Vr_3 := Lib.hid (Vr_2.out.below hB)
  have Vn_3 := Lib.hid (Vn_2.out.below hB)
  have T_3 := Lib.hid (T_2.out.below hB)
  have H_3 := Lib.hid (Below.up H_2.out hB)
  clear hB Vr_2 Vn_2 T_2 H_2
  clear or0 or1 or2 or3 or4 on0 on1 on2
  obtain ⟨oa0, oa1, oa2, _⟩ := (show IV (w3.alloc (.cells #[.bool gA, .slice xA kA yA] 24)) w3.heap.size gA xA kA yA QA from IV.new NA.out)
  go_wp2_with fail
  refine calls_at (fun W => Below w.heap.size w W ∧ TB W ∧ RV W w.heap.size g1 a1 n1 c1 h1 b1 m1 d1 p q ∧ IV W (w.heap.size + 1) ga aa la ca z ∧ IV W w3.heap.size gA xA kA yA QA) ⟨Below.up H_3.out (Below.alloc' (Below.refl w3.heap.size w3) (.cells #[.bool gA, .slice xA kA yA] 24)), T_3.out.below (Below.alloc' (Below.refl w3.heap.size w3) (.cells #[.bool gA, .slice xA kA yA] 24)), Vr_3.out.below (Below.alloc' (Below.refl w3.heap.size w3) (.cells #[.bool gA, .slice xA kA yA] 24)), Vn_3.out.below (Below.alloc' (Below.refl w3.heap.size w3) (.cells #[.bool gA, .slice xA kA yA] 24)), IV.new NA.out⟩ ?_
  rintro w4 ⟨hB, hT', hr, hn, ha⟩
  have H_4 := Lib.hid hB
  have T_4 := Lib.hid hT'
  have Vr_4 := Lib.hid hr
  have Vn_4 := Lib.hid hn
  have Va_4 := Lib.hid ha
  clear hB hT' hr hn ha Vr_3 Vn_3 T_3 H_3
  clear oa0 oa1 oa2
  refine (FromFixed_vr gA xA kA yA k QA _ (T_4.out.tab (Below.refl _ _)) Va_4.out.2.2.2 (by omega) (by omega)).mono ?_
  rintro e w5 ⟨gB, xB, yB, gC, xC, yC, kB, kC, rfl, hR, hkB, hkC, hB⟩
  have NB := Lib.hid hR
  clear hR NA
  have Vr_5 := Lib.hid (Vr_4.out.below hB)
  have Vn_5 := Lib.hid (Vn_4.out.below hB)
  have Va_5 := Lib.hid (Va_4.out.below hB)
  have T_5 := Lib.hid (T_4.out.below hB)
  have H_5 := Lib.hid (Below.up H_4.out hB)
  clear hB Vr_4 Vn_4 Va_4 T_4 H_4
  go_wp2_with fail
  refine calls_at (fun W => Below w.heap.size w W ∧ TB W ∧ RV W w.heap.size g1 a1 n1 c1 h1 b1 m1 d1 p q ∧ IV W (w.heap.size + 1) ga aa la ca z ∧ IV W w3.heap.size gA xA kA yA QA ∧ RW W w5.heap.size gB xB kB yB gC xC kC yC QA (2 ^ k)) ⟨Below.up H_5.out (Below.alloc' (Below.refl w5.heap.size w5) (.cells #[.bool gB, .slice xB kB yB, .bool gC, .slice xC kC yC] 26)), T_5.out.below (Below.alloc' (Below.refl w5.heap.size w5) (.cells #[.bool gB, .slice xB kB yB, .bool gC, .slice xC kC yC] 26)), Vr_5.out.below (Below.alloc' (Below.refl w5.heap.size w5) (.cells #[.bool gB, .slice xB kB yB, .bool gC, .slice xC kC yC] 26)), Vn_5.out.below (Below.alloc' (Below.refl w5.heap.size w5) (.cells #[.bool gB, .slice xB kB yB, .bool gC, .slice xC kC yC] 26)), Va_5.out.below (Below.alloc' (Below.refl w5.heap.size w5) (.cells #[.bool gB, .slice xB kB yB, .bool gC, .slice xC kC yC] 26)), RW.new NB.out⟩ ?_
  rintro w6 ⟨hB, hT', hr, hn, ha, hb⟩
  have H_6 := Lib.hid hB
  have T_6 := Lib.hid hT'
  have Vr_6 := Lib.hid hr
  have Vn_6 := Lib.hid hn
  have Va_6 := Lib.hid ha
  have Vb_6 := Lib.hid hb
  clear hB hT' hr hn ha hb Vr_5 Vn_5 Va_5 T_5 H_5
  refine (of_gf 1 (by omega) _).mono ?_
  rintro e w7 ⟨gD, xD, yD, kD, rfl, hR, hkD, hB⟩
  have ND := Lib.hid hR
  clear hR NB
  have Vr_7 := Lib.hid (Vr_6.out.below hB)
  have Vn_7 := Lib.hid (Vn_6.out.below hB)
  have Va_7 := Lib.hid (Va_6.out.below hB)
  have Vb_7 := Lib.hid (Vb_6.out.below hB)
  have T_7 := Lib.hid (T_6.out.below hB)
  have H_7 := Lib.hid (Below.up H_6.out hB)
  clear hB Vr_6 Vn_6 Va_6 Vb_6 T_6 H_6
  go_wp2_with fail
  refine (FromFixed_vr gD xD kD yD k 1 _ (T_7.out.tab (Below.refl _ _)) ND.out (by omega) (by omega)).mono ?_
  rintro e w8 ⟨gE, xE, yE, gF, xF, yF, kE, kF, rfl, hR, hkE, hkF, hB⟩
  have NE := Lib.hid hR
  clear hR ND
  have Vr_8 := Lib.hid (Vr_7.out.below hB)
  have Vn_8 := Lib.hid (Vn_7.out.below hB)
  have Va_8 := Lib.hid (Va_7.out.below hB)
  have Vb_8 := Lib.hid (Vb_7.out.below hB)
  have T_8 := Lib.hid (T_7.out.below hB)
  have H_8 := Lib.hid (Below.up H_7.out hB)
  clear hB Vr_7 Vn_7 Va_7 Vb_7 T_7 H_7
  obtain ⟨ob0, ob1, ob2, ob3, ob4, _⟩ := Vb_8.out.below (Below.alloc' (Below.refl w8.heap.size w8) (.cells #[.bool gE, .slice xE kE yE, .bool gF, .slice xF kF yF] 26))
  obtain ⟨or0, or1, or2, or3, or4, _⟩ := Vr_8.out.below (Below.alloc' (Below.refl w8.heap.size w8) (.cells #[.bool gE, .slice xE kE yE, .bool gF, .slice xF kF yF] 26))
  go_wp2_with fail
  refine calls_at (fun W => Below w.heap.size w W ∧ TB W ∧ RV W w.heap.size g1 a1 n1 c1 h1 b1 m1 d1 p q ∧ IV W (w.heap.size + 1) ga aa la ca z ∧ IV W w3.heap.size gA xA kA yA QA ∧ RW W w5.heap.size gB xB kB yB gC xC kC yC QA (2 ^ k) ∧ RW W w8.heap.size gE xE kE yE gF xF kF yF 1 (2 ^ k)) ⟨Below.up H_8.out (Below.alloc' (Below.refl w8.heap.size w8) (.cells #[.bool gE, .slice xE kE yE, .bool gF, .slice xF kF yF] 26)), T_8.out.below (Below.alloc' (Below.refl w8.heap.size w8) (.cells #[.bool gE, .slice xE kE yE, .bool gF, .slice xF kF yF] 26)), Vr_8.out.below (Below.alloc' (Below.refl w8.heap.size w8) (.cells #[.bool gE, .slice xE kE yE, .bool gF, .slice xF kF yF] 26)), Vn_8.out.below (Below.alloc' (Below.refl w8.heap.size w8) (.cells #[.bool gE, .slice xE kE yE, .bool gF, .slice xF kF yF] 26)), Va_8.out.below (Below.alloc' (Below.refl w8.heap.size w8) (.cells #[.bool gE, .slice xE kE yE, .bool gF, .slice xF kF yF] 26)), Vb_8.out.below (Below.alloc' (Below.refl w8.heap.size w8) (.cells #[.bool gE, .slice xE kE yE, .bool gF, .slice xF kF yF] 26)), RW.new NE.out⟩ ?_
  rintro w9 ⟨hB, hT', hr, hn, ha, hb, hu⟩
  have H_9 := Lib.hid hB
  have T_9 := Lib.hid hT'
  have Vr_9 := Lib.hid hr
  have Vn_9 := Lib.hid hn
  have Va_9 := Lib.hid ha
  have Vb_9 := Lib.hid hb
  have Vu_9 := Lib.hid hu
  clear hB hT' hr hn ha hb hu Vr_8 Vn_8 Va_8 Vb_8 T_8 H_8
  clear ob0 ob1 ob2 ob3 ob4 or0 or1 or2 or3 or4
  refine (minus_vr _ _ kB kC n1 m1 QA (2 ^ k) (tP p q) (tQ q) _ (T_9.out.tab (Below.refl _ _)) Vb_9.out.2.2.2.2.2 (AR.vr Vr_9.out.2.2.2.2.2) (by omega) (by omega) (by omega) (by omega)).mono ?_
  rintro e w10 hVi
  obtain ⟨gG, xG, yG, gH, xH, yH, kG, kH, rfl, hR, hkG, hkH, hB⟩ := hVi.open
  have NG := Lib.hid hR
  clear hR hVi NE
  have Vr_10 := Lib.hid (Vr_9.out.below hB)
  have Vn_10 := Lib.hid (Vn_9.out.below hB)
  have Va_10 := Lib.hid (Va_9.out.below hB)
  have Vb_10 := Lib.hid (Vb_9.out.below hB)
  have Vu_10 := Lib.hid (Vu_9.out.below hB)
  have T_10 := Lib.hid (T_9.out.below hB)
  have H_10 := Lib.hid (Below.up H_9.out hB)
  clear hB Vr_9 Vn_9 Va_9 Vb_9 Vu_9 T_9 H_9
  obtain ⟨of0, of1, of2, of3, of4, _⟩ := (show RW (w10.alloc (.cells #[.bool gG, .slice xG kG yG, .bool gH, .slice xH kH yH] 26)) w10.heap.size gG xG kG yG gH xH kH yH (QA * (tQ q) - (tP p q) * (2 ^ k)) ((2 ^ k) * (tQ q)) from RW.new NG.out)
  go_wp2_with fail
  refine calls_at (fun W => Below w.heap.size w W ∧ TB W ∧ RV W w.heap.size g1 a1 n1 c1 h1 b1 m1 d1 p q ∧ IV W (w.heap.size + 1) ga aa la ca z ∧ IV W w3.heap.size gA xA kA yA QA ∧ RW W w5.heap.size gB xB kB yB gC xC kC yC QA (2 ^ k) ∧ RW W w8.heap.size gE xE kE yE gF xF kF yF 1 (2 ^ k) ∧ RW W w10.heap.size gG xG kG yG gH xH kH yH (QA * (tQ q) - (tP p q) * (2 ^ k)) ((2 ^ k) * (tQ q))) ⟨Below.up H_10.out (Below.alloc' (Below.refl w10.heap.size w10) (.cells #[.bool gG, .slice xG kG yG, .bool gH, .slice xH kH yH] 26)), T_10.out.below (Below.alloc' (Below.refl w10.heap.size w10) (.cells #[.bool gG, .slice xG kG yG, .bool gH, .slice xH kH yH] 26)), Vr_10.out.below (Below.alloc' (Below.refl w10.heap.size w10) (.cells #[.bool gG, .slice xG kG yG, .bool gH, .slice xH kH yH] 26)), Vn_10.out.below (Below.alloc' (Below.refl w10.heap.size w10) (.cells #[.bool gG, .slice xG kG yG, .bool gH, .slice xH kH yH] 26)), Va_10.out.below (Below.alloc' (Below.refl w10.heap.size w10) (.cells #[.bool gG, .slice xG kG yG, .bool gH, .slice xH kH yH] 26)), Vb_10.out.below (Below.alloc' (Below.refl w10.heap.size w10) (.cells #[.bool gG, .slice xG kG yG, .bool gH, .slice xH kH yH] 26)), Vu_10.out.below (Below.alloc' (Below.refl w10.heap.size w10) (.cells #[.bool gG, .slice xG kG yG, .bool gH, .slice xH kH yH] 26)), RW.new NG.out⟩ ?_
  rintro w11 ⟨hB, hT', hr, hn, ha, hb, hu, hf⟩
  have H_11 := Lib.hid hB
  have T_11 := Lib.hid hT'
  have Vr_11 := Lib.hid hr
  have Vn_11 := Lib.hid hn
  have Va_11 := Lib.hid ha
  have Vb_11 := Lib.hid hb
  have Vu_11 := Lib.hid hu
  have Vf_11 := Lib.hid hf
  clear hB hT' hr hn ha hb hu hf Vr_10 Vn_10 Va_10 Vb_10 Vu_10 T_10 H_10
  clear of0 of1 of2 of3 of4
  refine (plus_vr _ _ kG kH kG kH (QA * (tQ q) - (tP p q) * (2 ^ k)) ((2 ^ k) * (tQ q)) (QA * (tQ q) - (tP p q) * (2 ^ k)) ((2 ^ k) * (tQ q)) _ (T_11.out.tab (Below.refl _ _)) Vf_11.out.2.2.2.2.2 Vf_11.out.2.2.2.2.2 (by omega) (by omega) (by omega) (by omega)).mono ?_
  rintro e w12 hVi
  obtain ⟨gI, xI, yI, gJ, xJ, yJ, kI, kJ, rfl, hR, hkI, hkJ, hB⟩ := hVi.open
  have NI := Lib.hid hR
  clear hR hVi NG
  have Vr_12 := Lib.hid (Vr_11.out.below hB)
  have Vn_12 := Lib.hid (Vn_11.out.below hB)
  have Va_12 := Lib.hid (Va_11.out.below hB)
  have Vb_12 := Lib.hid (Vb_11.out.below hB)
  have Vu_12 := Lib.hid (Vu_11.out.below hB)
  have Vf_12 := Lib.hid (Vf_11.out.below hB)
  have T_12 := Lib.hid (T_11.out.below hB)
  have H_12 := Lib.hid (Below.up H_11.out hB)
  clear hB Vr_11 Vn_11 Va_11 Vb_11 Vu_11 Vf_11 T_11 H_11
  go_wp2_with fail
  refine wp_at (fun W => Below w.heap.size w W ∧ TB W ∧ RV W w.heap.size g1 a1 n1 c1 h1 b1 m1 d1 p q ∧ IV W (w.heap.size + 1) ga aa la ca z ∧ IV W w3.heap.size gA xA kA yA QA ∧ RW W w5.heap.size gB xB kB yB gC xC kC yC QA (2 ^ k) ∧ RW W w8.heap.size gE xE kE yE gF xF kF yF 1 (2 ^ k) ∧ RW W w10.heap.size gG xG kG yG gH xH kH yH (QA * (tQ q) - (tP p q) * (2 ^ k)) ((2 ^ k) * (tQ q)) ∧ RW W w12.heap.size gI xI kI yI gJ xJ kJ yJ ((QA * (tQ q) - (tP p q) * (2 ^ k)) * ((2 ^ k) * (tQ q)) + (QA * (tQ q) - (tP p q) * (2 ^ k)) * ((2 ^ k) * (tQ q))) (((2 ^ k) * (tQ q)) * ((2 ^ k) * (tQ q)))) ⟨Below.up H_12.out (Below.alloc' (Below.refl w12.heap.size w12) (.cells #[.bool gI, .slice xI kI yI, .bool gJ, .slice xJ kJ yJ] 26)), T_12.out.below (Below.alloc' (Below.refl w12.heap.size w12) (.cells #[.bool gI, .slice xI kI yI, .bool gJ, .slice xJ kJ yJ] 26)), Vr_12.out.below (Below.alloc' (Below.refl w12.heap.size w12) (.cells #[.bool gI, .slice xI kI yI, .bool gJ, .slice xJ kJ yJ] 26)), Vn_12.out.below (Below.alloc' (Below.refl w12.heap.size w12) (.cells #[.bool gI, .slice xI kI yI, .bool gJ, .slice xJ kJ yJ] 26)), Va_12.out.below (Below.alloc' (Below.refl w12.heap.size w12) (.cells #[.bool gI, .slice xI kI yI, .bool gJ, .slice xJ kJ yJ] 26)), Vb_12.out.below (Below.alloc' (Below.refl w12.heap.size w12) (.cells #[.bool gI, .slice xI kI yI, .bool gJ, .slice xJ kJ yJ] 26)), Vu_12.out.below (Below.alloc' (Below.refl w12.heap.size w12) (.cells #[.bool gI, .slice xI kI yI, .bool gJ, .slice xJ kJ yJ] 26)), Vf_12.out.below (Below.alloc' (Below.refl w12.heap.size w12) (.cells #[.bool gI, .slice xI kI yI, .bool gJ, .slice xJ kJ yJ] 26)), RW.new NI.out⟩ ?_
  rintro w13 ⟨hB, hT', hr, hn, ha, hb, hu, hf, ht⟩
  have H_13 := Lib.hid hB
  have T_13 := Lib.hid hT'
  have Vr_13 := Lib.hid hr
  have Vn_13 := Lib.hid hn
  have Va_13 := Lib.hid ha
  have Vb_13 := Lib.hid hb
  have Vu_13 := Lib.hid hu
  have Vf_13 := Lib.hid hf
  have Vt_13 := Lib.hid ht
  clear hB hT' hr hn ha hb hu hf ht Vr_12 Vn_12 Va_12 Vb_12 Vu_12 Vf_12 T_12 H_12
  clear NI
  obtain ⟨o1, ho1⟩ : ∃ o, ord (((QA * (tQ q) - (tP p q) * (2 ^ k)) * ((2 ^ k) * (tQ q)) + (QA * (tQ q) - (tP p q) * (2 ^ k)) * ((2 ^ k) * (tQ q))) * (2 ^ k)) (1 * (((2 ^ k) * (tQ q)) * ((2 ^ k) * (tQ q)))) = o := ⟨_, rfl⟩
  have e1 : decide (o1 ≤ (0 : Int)) = true := decide_eq_true (ho1 ▸ ord_le (near_le hY.out hK.out DA.out))
  have ho1 := Lib.hid ho1
  obtain ⟨o2, ho2⟩ : ∃ o, ord ((0 * (2 ^ k) - 1 * 1) * (((2 ^ k) * (tQ q)) * ((2 ^ k) * (tQ q)))) (((QA * (tQ q) - (tP p q) * (2 ^ k)) * ((2 ^ k) * (tQ q)) + (QA * (tQ q) - (tP p q) * (2 ^ k)) * ((2 ^ k) * (tQ q))) * (1 * (2 ^ k))) = o := ⟨_, rfl⟩
  have e2 : decide (o2 < (0 : Int)) = true := decide_eq_true (by rw [← ho2, ord_lt (near_gt hY.out hK.out DA.out)]; omega)
  have ho2 := Lib.hid ho2
  go_cut [17] from 28 to 174 (fun s0 W => s0 = .bool true ∧ Hid (Below w13.heap.size w13 W))
  case first =>
    rename_i hJ hK'
    have B_ := Lib.hid (Below.refl w13.heap.size w13)
    have D_ := Lib.hid (Below.drew B_.out)
    have M_ := Lib.hid (show ∀ w', Below w13.heap.size w13 w' → w'.cell? ⟨w12.heap.size, 0, none⟩ = some (.bool gI) ∧ w'.cell? ⟨w12.heap.size, 1, none⟩ = some (.slice xI kI yI) ∧ w'.cell? ⟨w12.heap.size, 2, none⟩ = some (.bool gJ) ∧ w'.cell? ⟨w12.heap.size, 3, none⟩ = some (.slice xJ kJ yJ) ∧ w'.cell? ⟨w8.heap.size, 0, none⟩ = some (.bool gE) ∧ w'.cell? ⟨w8.heap.size, 1, none⟩ = some (.slice xE kE yE) ∧ w'.cell? ⟨w8.heap.size, 2, none⟩ = some (.bool gF) ∧ w'.cell? ⟨w8.heap.size, 3, none⟩ = some (.slice xF kF yF) from fun w' h => ⟨(Vt_13.out.below h).1, (Vt_13.out.below h).2.1, (Vt_13.out.below h).2.2.1, (Vt_13.out.below h).2.2.2.1, (Vu_13.out.below h).1, (Vu_13.out.below h).2.1, (Vu_13.out.below h).2.2.1, (Vu_13.out.below h).2.2.2.1⟩)
    obtain ⟨ot0, ot1, ot2, ot3, ot4, _⟩ := Vt_13.out
    obtain ⟨ou0, ou1, ou2, ou3, ou4, _⟩ := Vu_13.out
    have s0 : kI ≤ 300 := by omega
    have s1 : kJ ≤ 300 := by omega
    have s2 : kE ≤ 300 := by omega
    have s3 : kF ≤ 300 := by omega
    have s4 : kI < 40 ∨ kF < 38 := by omega
    have s5 : kE < 40 ∨ kJ < 38 := by omega
    have s6 : (-9223372036854775808 : Int) ≤ 0 ∧ (0 : Int) ≤ 9223372036854775807 := by omega
    have s7 : kE ≤ 39 := by omega
    have s8 : kF ≤ 37 := by omega
    go_region_held3 (fun w' => w'.cell? ⟨w12.heap.size, 0, none⟩ = some (.bool gI) ∧ w'.cell? ⟨w12.heap.size, 1, none⟩ = some (.slice xI kI yI) ∧ w'.cell? ⟨w12.heap.size, 2, none⟩ = some (.bool gJ) ∧ w'.cell? ⟨w12.heap.size, 3, none⟩ = some (.slice xJ kJ yJ) ∧ w'.cell? ⟨w8.heap.size, 0, none⟩ = some (.bool gE) ∧ w'.cell? ⟨w8.heap.size, 1, none⟩ = some (.slice xE kE yE) ∧ w'.cell? ⟨w8.heap.size, 2, none⟩ = some (.bool gF) ∧ w'.cell? ⟨w8.heap.size, 3, none⟩ = some (.slice xF kF yF))
      (first | (with_reducible exact M_.out _ D_.out) | (with_reducible exact M_.out _ T0.out) | (with_reducible exact M_.out _ T1.out) | (with_reducible exact M_.out _ T2.out) | (with_reducible exact M_.out _ T3.out) | (with_reducible exact M_.out _ T4.out))
      (first
      | (go_at_call 23; ((with_reducible refine (compare_vr2 (.agg #[.bool gI, .slice xI kI yI, .bool gJ, .slice xJ kJ yJ]) (.agg #[.bool gE, .slice xE kE yE, .bool gF, .slice xF kF yF]) kI kJ kE kF ((QA * (tQ q) - (tP p q) * (2 ^ k)) * ((2 ^ k) * (tQ q)) + (QA * (tQ q) - (tP p q) * (2 ^ k)) * ((2 ^ k) * (tQ q))) (((2 ^ k) * (tQ q)) * ((2 ^ k) * (tQ q))) 1 (2 ^ k) o1 _ (Vt_13.out.up D_.out) (Vu_13.out.up D_.out) s0 s1 s2 s3 s4 s5 ho1.out).mono ?_); rintro e v0 ⟨rfl, hB⟩; have T0 := Lib.hid (Below.up D_.out hB); clear hB))
      | (go_at_call 20; ((with_reducible refine (of_gf 0 s6 _).mono ?_); rintro e v1 ⟨gO, xO, yO, kO, rfl, hR, hkO, hB⟩; have N1 := Lib.hid hR; have t1 : kO ≤ 900 := (by omega); have T1 := Lib.hid (Below.up T0.out hB); clear hB hR))
      | (go_at_call 24; ((with_reducible refine (Whole_any gO xO kO yO 0 _ N1.out t1).mono ?_); rintro e v2 ⟨gP, xP, yP, gQ, xQ, yQ, kP, kQ, rfl, hR, hkP, hkQ, hB⟩; have N2 := Lib.hid hR; have t2 : kP ≤ 39 := (by omega); have t3 : kQ ≤ 37 := (by omega); have T2 := Lib.hid (Below.up T1.out hB); clear hB hR))
      | (go_at_call 21; ((with_reducible refine (minus_vr _ (.agg #[.bool gE, .slice xE kE yE, .bool gF, .slice xF kF yF]) kP kQ kE kF 0 1 1 (2 ^ k) _ (T_13.out.tab T2.out) N2.out (Vu_13.out.up T2.out) t2 t3 s7 s8).mono ?_); rintro e v3 hVi; obtain ⟨gR, xR, yR, gS, xS, yS, kR, kS, rfl, hR, hkR, hkS, hB⟩ := hVi.open; have N3 := Lib.hid hR; have t4 : kR ≤ 300 := (by omega); have t5 : kS ≤ 300 := (by omega); have t6 : kR < 40 ∨ kJ < 38 := (by omega); have t7 : kI < 40 ∨ kS < 38 := (by omega); have T3 := Lib.hid (Below.up T2.out hB); clear hB hR hVi))
      | (go_at_call 23; ((with_reducible refine (compare_vr2 _ (.agg #[.bool gI, .slice xI kI yI, .bool gJ, .slice xJ kJ yJ]) kR kS kI kJ (0 * (2 ^ k) - 1 * 1) (1 * (2 ^ k)) ((QA * (tQ q) - (tP p q) * (2 ^ k)) * ((2 ^ k) * (tQ q)) + (QA * (tQ q) - (tP p q) * (2 ^ k)) * ((2 ^ k) * (tQ q))) (((2 ^ k) * (tQ q)) * ((2 ^ k) * (tQ q))) o2 _ N3.out (Vt_13.out.up T3.out) t4 t5 s0 s1 t6 t7 ho2.out).mono ?_); rintro e v4 ⟨rfl, hB⟩; have T4 := Lib.hid (Below.up T3.out hB); clear hB)))
    refine hK' _ _ (Met.intro (hJ _ _ ?_))
    (repeat apply Exists.intro)
    exact ⟨⟨rfl, Lib.hid T4.out⟩, rfl⟩
  case rest =>
    obtain ⟨rfl, hF⟩ := hcut
    generalize wc = w14 at *
    have hB := hF.out
    clear hF ho1 ho2 e1 e2
    have Vr_14 := Lib.hid (Vr_13.out.below hB)
    have Vn_14 := Lib.hid (Vn_13.out.below hB)
    have Va_14 := Lib.hid (Va_13.out.below hB)
    have Vb_14 := Lib.hid (Vb_13.out.below hB)
    have Vu_14 := Lib.hid (Vu_13.out.below hB)
    have Vf_14 := Lib.hid (Vf_13.out.below hB)
    have Vt_14 := Lib.hid (Vt_13.out.below hB)
    have T_14 := Lib.hid (T_13.out.below hB)
    have H_14 := Lib.hid (Below.up H_13.out hB)
    clear hB Vr_13 Vn_13 Va_13 Vb_13 Vu_13 Vf_13 Vt_13 T_13 H_13
    clear Va_14 Vb_14 Vf_14 Vt_14
    obtain ⟨on0, on1, on2, _⟩ := Vn_14.out
    go_wp2_with fail
    refine (FromFixed_any ga aa la ca k z _ (T_14.out.tab (Below.refl _ _)) Vn_14.out.2.2.2 (by omega) (by omega)).mono ?_
    rintro e w15 ⟨gB, xB, yB, gC, xC, yC, kB', kC', PW, QW, rfl, hR, hPQ, hkB', hkC', hB⟩
    have NB := Lib.hid hR
    have PQ := Lib.hid hPQ
    clear hR hPQ
    have Vr_15 := Lib.hid (Vr_14.out.below hB)
    have Vn_15 := Lib.hid (Vn_14.out.below hB)
    have Vu_15 := Lib.hid (Vu_14.out.below hB)
    have T_15 := Lib.hid (T_14.out.below hB)
    have H_15 := Lib.hid (Below.up H_14.out hB)
    clear hB Vr_14 Vn_14 Vu_14 T_14 H_14
    clear on0 on1 on2
    obtain ⟨oh0, oh1, oh2, oh3, oh4, _⟩ := (show RV (w15.alloc (.cells #[.bool gB, .slice xB kB' yB, .bool gC, .slice xC kC' yC] 26)) w15.heap.size gB xB kB' yB gC xC kC' yC PW QW from RV.new NB.out)
    go_wp2_with fail
    refine calls_at (fun W => Below w.heap.size w W ∧ TB W ∧ RV W w.heap.size g1 a1 n1 c1 h1 b1 m1 d1 p q ∧ IV W (w.heap.size + 1) ga aa la ca z ∧ RW W w8.heap.size gE xE kE yE gF xF kF yF 1 (2 ^ k) ∧ RV W w15.heap.size gB xB kB' yB gC xC kC' yC PW QW) ⟨Below.up H_15.out (Below.alloc' (Below.refl w15.heap.size w15) (.cells #[.bool gB, .slice xB kB' yB, .bool gC, .slice xC kC' yC] 26)), T_15.out.below (Below.alloc' (Below.refl w15.heap.size w15) (.cells #[.bool gB, .slice xB kB' yB, .bool gC, .slice xC kC' yC] 26)), Vr_15.out.below (Below.alloc' (Below.refl w15.heap.size w15) (.cells #[.bool gB, .slice xB kB' yB, .bool gC, .slice xC kC' yC] 26)), Vn_15.out.below (Below.alloc' (Below.refl w15.heap.size w15) (.cells #[.bool gB, .slice xB kB' yB, .bool gC, .slice xC kC' yC] 26)), Vu_15.out.below (Below.alloc' (Below.refl w15.heap.size w15) (.cells #[.bool gB, .slice xB kB' yB, .bool gC, .slice xC kC' yC] 26)), RV.new NB.out⟩ ?_
    rintro w16 ⟨hB, hT', hr, hn, hu, hh⟩
    have H_16 := Lib.hid hB
    have T_16 := Lib.hid hT'
    have Vr_16 := Lib.hid hr
    have Vn_16 := Lib.hid hn
    have Vu_16 := Lib.hid hu
    have Vh_16 := Lib.hid hh
    clear hB hT' hr hn hu hh Vr_15 Vn_15 Vu_15 T_15 H_15
    clear oh0 oh1 oh2 oh3 oh4
    clear NB
    refine (Fixed_any gB gC xB xC kB' kC' yB yC k PW QW _ Vh_16.out.2.2.2.2.2 (by omega) (by omega) (by omega)).mono ?_
    rintro e w17 ⟨gM, xM, yM, kM, QM, RM, rfl, hR, hDM, hkM, hB⟩
    have NM := Lib.hid hR
    have hPW := pos_forms (P := PW) PQ.out.1
    rw [hPW.1, hPW.2] at hDM
    have hQM := fixed_same PQ.out.1 PQ.out.2 hDM
    clear hR hDM hPW
    have Vr_17 := Lib.hid (Vr_16.out.below hB)
    have Vn_17 := Lib.hid (Vn_16.out.below hB)
    have Vu_17 := Lib.hid (Vu_16.out.below hB)
    have Vh_17 := Lib.hid (Vh_16.out.below hB)
    have T_17 := Lib.hid (T_16.out.below hB)
    have H_17 := Lib.hid (Below.up H_16.out hB)
    clear hB Vr_16 Vn_16 Vu_16 Vh_16 T_16 H_16
    subst hQM
    obtain ⟨om0, om1, om2, _⟩ := (show IV (w17.alloc (.cells #[.bool gM, .slice xM kM yM] 24)) w17.heap.size gM xM kM yM QM from IV.new NM.out)
    obtain ⟨on0, on1, on2, _⟩ := Vn_17.out.below (Below.alloc' (Below.refl w17.heap.size w17) (.cells #[.bool gM, .slice xM kM yM] 24))
    go_wp2_with fail
    refine calls_at (fun W => Below w.heap.size w W ∧ TB W ∧ RV W w.heap.size g1 a1 n1 c1 h1 b1 m1 d1 p q ∧ IV W (w.heap.size + 1) ga aa la ca QM ∧ RW W w8.heap.size gE xE kE yE gF xF kF yF 1 (2 ^ k) ∧ RV W w15.heap.size gB xB kB' yB gC xC kC' yC PW QW ∧ IV W w17.heap.size gM xM kM yM QM) ⟨Below.up H_17.out (Below.alloc' (Below.refl w17.heap.size w17) (.cells #[.bool gM, .slice xM kM yM] 24)), T_17.out.below (Below.alloc' (Below.refl w17.heap.size w17) (.cells #[.bool gM, .slice xM kM yM] 24)), Vr_17.out.below (Below.alloc' (Below.refl w17.heap.size w17) (.cells #[.bool gM, .slice xM kM yM] 24)), Vn_17.out.below (Below.alloc' (Below.refl w17.heap.size w17) (.cells #[.bool gM, .slice xM kM yM] 24)), Vu_17.out.below (Below.alloc' (Below.refl w17.heap.size w17) (.cells #[.bool gM, .slice xM kM yM] 24)), Vh_17.out.below (Below.alloc' (Below.refl w17.heap.size w17) (.cells #[.bool gM, .slice xM kM yM] 24)), IV.new NM.out⟩ ?_
    rintro w18 ⟨hB, hT', hr, hn, hu, hh, hm⟩
    have H_18 := Lib.hid hB
    have T_18 := Lib.hid hT'
    have Vr_18 := Lib.hid hr
    have Vn_18 := Lib.hid hn
    have Vu_18 := Lib.hid hu
    have Vh_18 := Lib.hid hh
    have Vm_18 := Lib.hid hm
    clear hB hT' hr hn hu hh hm Vr_17 Vn_17 Vu_17 Vh_17 T_17 H_17
    clear om0 om1 om2 on0 on1 on2
    clear NM
    refine (equal_true _ _ kM la QM QM _ Vm_18.out.2.2.2 Vn_18.out.2.2.2 (by omega) (by omega) rfl).mono ?_
    rintro e w19 ⟨rfl, hB⟩
    have Vr_19 := Lib.hid (Vr_18.out.below hB)
    have Vn_19 := Lib.hid (Vn_18.out.below hB)
    have Vu_19 := Lib.hid (Vu_18.out.below hB)
    have Vh_19 := Lib.hid (Vh_18.out.below hB)
    have Vm_19 := Lib.hid (Vm_18.out.below hB)
    have T_19 := Lib.hid (T_18.out.below hB)
    have H_19 := Lib.hid (Below.up H_18.out hB)
    clear hB Vr_18 Vn_18 Vu_18 Vh_18 Vm_18 T_18 H_18
    clear Vh_19 Vm_19
    obtain ⟨or0, or1, or2, or3, or4, _⟩ := Vr_19.out
    go_wp2_with fail
    refine (RootFixed_yes g1 h1 a1 b1 n1 m1 c1 d1 k p q _ Vr_19.out.2.2.2.2.2 (by omega) (by omega) (by omega) hpos).mono ?_
    rintro e w20 ⟨gN, xN, yN, kN, QN, RN, ZN, rfl, hR, hRt, hDN, hkN, hB⟩
    have NN := Lib.hid hR
    have RT := Lib.hid hRt
    have DN := Lib.hid (show DvS ((tP p q) * ((2 ^ k) * (2 ^ k))) (tQ q) QN RN from by rw [← Int.pow_add, show k + k = 2 * k by omega]; exact hDN)
    clear hR hRt hDN
    have Vr_20 := Lib.hid (Vr_19.out.below hB)
    have Vn_20 := Lib.hid (Vn_19.out.below hB)
    have Vu_20 := Lib.hid (Vu_19.out.below hB)
    have T_20 := Lib.hid (T_19.out.below hB)
    have H_20 := Lib.hid (Below.up H_19.out hB)
    clear hB Vr_19 Vn_19 Vu_19 T_19 H_19
    clear or0 or1 or2 or3 or4
    obtain ⟨or0, or1, or2, or3, or4, _⟩ := Vr_20.out.below (Below.alloc' (Below.refl w20.heap.size w20) (.cells #[.bool gN, .slice xN kN yN] 24))
    go_wp2_with fail
    refine calls_at (fun W => Below w.heap.size w W ∧ TB W ∧ RV W w.heap.size g1 a1 n1 c1 h1 b1 m1 d1 p q ∧ IV W (w.heap.size + 1) ga aa la ca QM ∧ RW W w8.heap.size gE xE kE yE gF xF kF yF 1 (2 ^ k) ∧ IV W w20.heap.size gN xN kN yN ZN) ⟨Below.up H_20.out (Below.alloc' (Below.refl w20.heap.size w20) (.cells #[.bool gN, .slice xN kN yN] 24)), T_20.out.below (Below.alloc' (Below.refl w20.heap.size w20) (.cells #[.bool gN, .slice xN kN yN] 24)), Vr_20.out.below (Below.alloc' (Below.refl w20.heap.size w20) (.cells #[.bool gN, .slice xN kN yN] 24)), Vn_20.out.below (Below.alloc' (Below.refl w20.heap.size w20) (.cells #[.bool gN, .slice xN kN yN] 24)), Vu_20.out.below (Below.alloc' (Below.refl w20.heap.size w20) (.cells #[.bool gN, .slice xN kN yN] 24)), IV.new NN.out⟩ ?_
    rintro w21 ⟨hB, hT', hr, hn, hu, ho⟩
    have H_21 := Lib.hid hB
    have T_21 := Lib.hid hT'
    have Vr_21 := Lib.hid hr
    have Vn_21 := Lib.hid hn
    have Vu_21 := Lib.hid hu
    have Vo_21 := Lib.hid ho
    clear hB hT' hr hn hu ho Vr_20 Vn_20 Vu_20 T_20 H_20
    clear or0 or1 or2 or3 or4
    clear NN
    obtain ⟨oo0, oo1, oo2, _⟩ := Vo_21.out
    refine (Signum_any _ n1 m1 p q _ Vr_21.out.2.2.2.2.2 (by omega) (by omega)).mono ?_
    rintro e w22 ⟨rfl, hB⟩
    have ds : decide (ord (tP p q) 0 < (0 : Int)) = false := decide_eq_false (ord_not_neg hpos)
    have Vr_22 := Lib.hid (Vr_21.out.below hB)
    have Vn_22 := Lib.hid (Vn_21.out.below hB)
    have Vu_22 := Lib.hid (Vu_21.out.below hB)
    have Vo_22 := Lib.hid (Vo_21.out.below hB)
    have T_22 := Lib.hid (T_21.out.below hB)
    have H_22 := Lib.hid (Below.up H_21.out hB)
    clear hB Vr_21 Vn_21 Vu_21 Vo_21 T_21 H_21
    clear oo0 oo1 oo2
    obtain ⟨oo0, oo1, oo2, _⟩ := Vo_22.out
    go_wp2_with fail
    refine (FromFixed_vr gN xN kN yN k ZN _ (T_22.out.tab (Below.refl _ _)) Vo_22.out.2.2.2 (by omega) (by omega)).mono ?_
    rintro e w23 ⟨gB, xB, yB, gC, xC, yC, kB2, kC2, rfl, hR, hkB2, hkC2, hB⟩
    have NB := Lib.hid hR
    clear hR
    have Vr_23 := Lib.hid (Vr_22.out.below hB)
    have Vn_23 := Lib.hid (Vn_22.out.below hB)
    have Vu_23 := Lib.hid (Vu_22.out.below hB)
    have Vo_23 := Lib.hid (Vo_22.out.below hB)
    have T_23 := Lib.hid (T_22.out.below hB)
    have H_23 := Lib.hid (Below.up H_22.out hB)
    clear hB Vr_22 Vn_22 Vu_22 Vo_22 T_22 H_22
    clear oo0 oo1 oo2
    obtain ⟨ox0, ox1, ox2, ox3, ox4, _⟩ := (show RW (w23.alloc (.cells #[.bool gB, .slice xB kB2 yB, .bool gC, .slice xC kC2 yC] 26)) w23.heap.size gB xB kB2 yB gC xC kC2 yC ZN (2 ^ k) from RW.new NB.out)
    obtain ⟨ou0, ou1, ou2, ou3, ou4, _⟩ := Vu_23.out.below (Below.alloc' (Below.refl w23.heap.size w23) (.cells #[.bool gB, .slice xB kB2 yB, .bool gC, .slice xC kC2 yC] 26))
    go_wp2_with fail
    refine calls_at (fun W => Below w.heap.size w W ∧ TB W ∧ RV W w.heap.size g1 a1 n1 c1 h1 b1 m1 d1 p q ∧ IV W (w.heap.size + 1) ga aa la ca QM ∧ RW W w8.heap.size gE xE kE yE gF xF kF yF 1 (2 ^ k) ∧ IV W w20.heap.size gN xN kN yN ZN ∧ RW W w23.heap.size gB xB kB2 yB gC xC kC2 yC ZN (2 ^ k)) ⟨Below.up H_23.out (Below.alloc' (Below.refl w23.heap.size w23) (.cells #[.bool gB, .slice xB kB2 yB, .bool gC, .slice xC kC2 yC] 26)), T_23.out.below (Below.alloc' (Below.refl w23.heap.size w23) (.cells #[.bool gB, .slice xB kB2 yB, .bool gC, .slice xC kC2 yC] 26)), Vr_23.out.below (Below.alloc' (Below.refl w23.heap.size w23) (.cells #[.bool gB, .slice xB kB2 yB, .bool gC, .slice xC kC2 yC] 26)), Vn_23.out.below (Below.alloc' (Below.refl w23.heap.size w23) (.cells #[.bool gB, .slice xB kB2 yB, .bool gC, .slice xC kC2 yC] 26)), Vu_23.out.below (Below.alloc' (Below.refl w23.heap.size w23) (.cells #[.bool gB, .slice xB kB2 yB, .bool gC, .slice xC kC2 yC] 26)), Vo_23.out.below (Below.alloc' (Below.refl w23.heap.size w23) (.cells #[.bool gB, .slice xB kB2 yB, .bool gC, .slice xC kC2 yC] 26)), RW.new NB.out⟩ ?_
    rintro w24 ⟨hB, hT', hr, hn, hu, ho, hx⟩
    have H_24 := Lib.hid hB
    have T_24 := Lib.hid hT'
    have Vr_24 := Lib.hid hr
    have Vn_24 := Lib.hid hn
    have Vu_24 := Lib.hid hu
    have Vo_24 := Lib.hid ho
    have Vx_24 := Lib.hid hx
    clear hB hT' hr hn hu ho hx Vr_23 Vn_23 Vu_23 Vo_23 T_23 H_23
    clear ox0 ox1 ox2 ox3 ox4 ou0 ou1 ou2 ou3 ou4
    clear NB
    refine (plus_vr _ _ kB2 kC2 kE kF ZN (2 ^ k) 1 (2 ^ k) _ (T_24.out.tab (Below.refl _ _)) Vx_24.out.2.2.2.2.2 Vu_24.out.2.2.2.2.2 (by omega) (by omega) (by omega) (by omega)).mono ?_
    rintro e w25 hVi
    obtain ⟨gI, xI, yI, gJ, xJ, yJ, kI2, kJ2, rfl, hR, hkI2, hkJ2, hB⟩ := hVi.open
    have NI := Lib.hid hR
    clear hR hVi
    have Vr_25 := Lib.hid (Vr_24.out.below hB)
    have Vn_25 := Lib.hid (Vn_24.out.below hB)
    have Vu_25 := Lib.hid (Vu_24.out.below hB)
    have Vo_25 := Lib.hid (Vo_24.out.below hB)
    have Vx_25 := Lib.hid (Vx_24.out.below hB)
    have T_25 := Lib.hid (T_24.out.below hB)
    have H_25 := Lib.hid (Below.up H_24.out hB)
    clear hB Vr_24 Vn_24 Vu_24 Vo_24 Vx_24 T_24 H_24
    go_wp2_with fail
    refine wp_at (fun W => Below w.heap.size w W ∧ TB W ∧ RV W w.heap.size g1 a1 n1 c1 h1 b1 m1 d1 p q ∧ IV W (w.heap.size + 1) ga aa la ca QM ∧ RW W w8.heap.size gE xE kE yE gF xF kF yF 1 (2 ^ k) ∧ IV W w20.heap.size gN xN kN yN ZN ∧ RW W w23.heap.size gB xB kB2 yB gC xC kC2 yC ZN (2 ^ k) ∧ RW W w25.heap.size gI xI kI2 yI gJ xJ kJ2 yJ (ZN * (2 ^ k) + 1 * (2 ^ k)) ((2 ^ k) * (2 ^ k))) ⟨Below.up H_25.out (Below.alloc' (Below.refl w25.heap.size w25) (.cells #[.bool gI, .slice xI kI2 yI, .bool gJ, .slice xJ kJ2 yJ] 26)), T_25.out.below (Below.alloc' (Below.refl w25.heap.size w25) (.cells #[.bool gI, .slice xI kI2 yI, .bool gJ, .slice xJ kJ2 yJ] 26)), Vr_25.out.below (Below.alloc' (Below.refl w25.heap.size w25) (.cells #[.bool gI, .slice xI kI2 yI, .bool gJ, .slice xJ kJ2 yJ] 26)), Vn_25.out.below (Below.alloc' (Below.refl w25.heap.size w25) (.cells #[.bool gI, .slice xI kI2 yI, .bool gJ, .slice xJ kJ2 yJ] 26)), Vu_25.out.below (Below.alloc' (Below.refl w25.heap.size w25) (.cells #[.bool gI, .slice xI kI2 yI, .bool gJ, .slice xJ kJ2 yJ] 26)), Vo_25.out.below (Below.alloc' (Below.refl w25.heap.size w25) (.cells #[.bool gI, .slice xI kI2 yI, .bool gJ, .slice xJ kJ2 yJ] 26)), Vx_25.out.below (Below.alloc' (Below.refl w25.heap.size w25) (.cells #[.bool gI, .slice xI kI2 yI, .bool gJ, .slice xJ kJ2 yJ] 26)), RW.new NI.out⟩ ?_
    rintro w26 ⟨hB, hT', hr, hn, hu, ho, hx, hy⟩
    have H_26 := Lib.hid hB
    have T_26 := Lib.hid hT'
    have Vr_26 := Lib.hid hr
    have Vn_26 := Lib.hid hn
    have Vu_26 := Lib.hid hu
    have Vo_26 := Lib.hid ho
    have Vx_26 := Lib.hid hx
    have Vy_26 := Lib.hid hy
    clear hB hT' hr hn hu ho hx hy Vr_25 Vn_25 Vu_25 Vo_25 Vx_25 T_25 H_25
    clear NI
    have e0 : decide ((0 : Int) ≤ ord ZN 0) = true := decide_eq_true (by have := ord_not_neg RT.out.1; omega)
    obtain ⟨o0, ho0⟩ : ∃ o, ord ZN 0 = o := ⟨_, rfl⟩
    rw [ho0] at e0
    have ho0 := Lib.hid ho0
    obtain ⟨o1, ho1⟩ : ∃ o, ord ((ZN * ZN) * (tQ q)) ((tP p q) * ((2 ^ k) * (2 ^ k))) = o := ⟨_, rfl⟩
    have e1 : decide (o1 ≤ (0 : Int)) = true := decide_eq_true (ho1 ▸ ord_le (root_le hY.out hK.out DN.out RT.out))
    have ho1 := Lib.hid ho1
    obtain ⟨o2, ho2⟩ : ∃ o, ord (((ZN * (2 ^ k) + 1 * (2 ^ k)) * (ZN * (2 ^ k) + 1 * (2 ^ k))) * (tQ q)) ((tP p q) * (((2 ^ k) * (2 ^ k)) * ((2 ^ k) * (2 ^ k)))) = o := ⟨_, rfl⟩
    have e2 : decide ((0 : Int) < o2) = true := decide_eq_true (by rw [← ho2, ord_gt (root_gt hY.out hK.out DN.out RT.out)]; omega)
    have ho2 := Lib.hid ho2
    have B_ := Lib.hid (Below.refl w26.heap.size w26)
    have D_ := Lib.hid (Below.drew B_.out)
    have M_ := Lib.hid (show ∀ w', Below w26.heap.size w26 w' → w'.cell? ⟨w23.heap.size, 0, none⟩ = some (.bool gB) ∧ w'.cell? ⟨w23.heap.size, 1, none⟩ = some (.slice xB kB2 yB) ∧ w'.cell? ⟨w23.heap.size, 2, none⟩ = some (.bool gC) ∧ w'.cell? ⟨w23.heap.size, 3, none⟩ = some (.slice xC kC2 yC) ∧ w'.cell? ⟨w25.heap.size, 0, none⟩ = some (.bool gI) ∧ w'.cell? ⟨w25.heap.size, 1, none⟩ = some (.slice xI kI2 yI) ∧ w'.cell? ⟨w25.heap.size, 2, none⟩ = some (.bool gJ) ∧ w'.cell? ⟨w25.heap.size, 3, none⟩ = some (.slice xJ kJ2 yJ) ∧ w'.cell? ⟨w.heap.size, 0, none⟩ = some (.bool g1) ∧ w'.cell? ⟨w.heap.size, 1, none⟩ = some (.slice a1 n1 c1) ∧ w'.cell? ⟨w.heap.size, 2, none⟩ = some (.bool h1) ∧ w'.cell? ⟨w.heap.size, 3, none⟩ = some (.slice b1 m1 d1) from fun w' h => ⟨(Vx_26.out.below h).1, (Vx_26.out.below h).2.1, (Vx_26.out.below h).2.2.1, (Vx_26.out.below h).2.2.2.1, (Vy_26.out.below h).1, (Vy_26.out.below h).2.1, (Vy_26.out.below h).2.2.1, (Vy_26.out.below h).2.2.2.1, (Vr_26.out.below h).1, (Vr_26.out.below h).2.1, (Vr_26.out.below h).2.2.1, (Vr_26.out.below h).2.2.2.1⟩)
    obtain ⟨ox0, ox1, ox2, ox3, ox4, _⟩ := Vx_26.out
    obtain ⟨oy0, oy1, oy2, oy3, oy4, _⟩ := Vy_26.out
    obtain ⟨or0, or1, or2, or3, or4, _⟩ := Vr_26.out
    have s0 : kB2 ≤ 39 := by omega
    have s1 : kC2 ≤ 39 := by omega
    have s2 : kI2 ≤ 39 := by omega
    have s3 : kJ2 ≤ 39 := by omega
    have s4 : n1 ≤ 300 := by omega
    have s5 : m1 ≤ 300 := by omega
    have s6 : kB2 ≤ 1000000 := by omega
    have s7 : kC2 ≤ 1000000 := by omega
    go_region_held3 (fun w' => w'.cell? ⟨w23.heap.size, 0, none⟩ = some (.bool gB) ∧ w'.cell? ⟨w23.heap.size, 1, none⟩ = some (.slice xB kB2 yB) ∧ w'.cell? ⟨w23.heap.size, 2, none⟩ = some (.bool gC) ∧ w'.cell? ⟨w23.heap.size, 3, none⟩ = some (.slice xC kC2 yC) ∧ w'.cell? ⟨w25.heap.size, 0, none⟩ = some (.bool gI) ∧ w'.cell? ⟨w25.heap.size, 1, none⟩ = some (.slice xI kI2 yI) ∧ w'.cell? ⟨w25.heap.size, 2, none⟩ = some (.bool gJ) ∧ w'.cell? ⟨w25.heap.size, 3, none⟩ = some (.slice xJ kJ2 yJ) ∧ w'.cell? ⟨w.heap.size, 0, none⟩ = some (.bool g1) ∧ w'.cell? ⟨w.heap.size, 1, none⟩ = some (.slice a1 n1 c1) ∧ w'.cell? ⟨w.heap.size, 2, none⟩ = some (.bool h1) ∧ w'.cell? ⟨w.heap.size, 3, none⟩ = some (.slice b1 m1 d1))
      (first | (with_reducible exact M_.out _ D_.out) | (with_reducible exact M_.out _ T0.out) | (with_reducible exact M_.out _ T1.out) | (with_reducible exact M_.out _ T2.out) | (with_reducible exact M_.out _ T3.out) | (with_reducible exact M_.out _ T4.out))
      (first
      | (go_at_call 26; ((with_reducible refine (signum_vr2 (.agg #[.bool gB, .slice xB kB2 yB, .bool gC, .slice xC kC2 yC]) kB2 kC2 ZN (2 ^ k) o0 _ (Vx_26.out.up D_.out) s6 s7 ho0.out).mono ?_); rintro e v0 ⟨rfl, hB⟩; have T0 := Lib.hid (Below.up D_.out hB); clear hB))
      | (go_at_call 27; ((with_reducible refine (times_vr2 (.agg #[.bool gB, .slice xB kB2 yB, .bool gC, .slice xC kC2 yC]) (.agg #[.bool gB, .slice xB kB2 yB, .bool gC, .slice xC kC2 yC]) kB2 kC2 kB2 kC2 ZN (2 ^ k) ZN (2 ^ k) _ (T_26.out.tab T0.out) (Vx_26.out.up T0.out) (Vx_26.out.up T0.out) s0 s1 s0 s1).mono ?_); rintro e v1 hVi; obtain ⟨gO, xO, yO, gP, xP, yP, kO, kP, rfl, hR, hkO, hkP, hB⟩ := hVi.open; have N1 := Lib.hid hR; have t0 : kO ≤ 300 := (by omega); have t1 : kP ≤ 300 := (by omega); have t2 : kO < 40 ∨ m1 < 38 := (by omega); have t3 : n1 < 40 ∨ kP < 38 := (by omega); have T1 := Lib.hid (Below.up T0.out hB); clear hB hR hVi))
      | (go_at_call 23; ((with_reducible refine (compare_vr2 _ (.agg #[.bool g1, .slice a1 n1 c1, .bool h1, .slice b1 m1 d1]) kO kP n1 m1 (ZN * ZN) ((2 ^ k) * (2 ^ k)) (tP p q) (tQ q) o1 _ N1.out (AR.vr (Vr_26.out.up T1.out)) t0 t1 s4 s5 t2 t3 ho1.out).mono ?_); rintro e v2 ⟨rfl, hB⟩; have T2 := Lib.hid (Below.up T1.out hB); clear hB))
      | (go_at_call 27; ((with_reducible refine (times_vr2 (.agg #[.bool gI, .slice xI kI2 yI, .bool gJ, .slice xJ kJ2 yJ]) (.agg #[.bool gI, .slice xI kI2 yI, .bool gJ, .slice xJ kJ2 yJ]) kI2 kJ2 kI2 kJ2 (ZN * (2 ^ k) + 1 * (2 ^ k)) ((2 ^ k) * (2 ^ k)) (ZN * (2 ^ k) + 1 * (2 ^ k)) ((2 ^ k) * (2 ^ k)) _ (T_26.out.tab T2.out) (Vy_26.out.up T2.out) (Vy_26.out.up T2.out) s2 s3 s2 s3).mono ?_); rintro e v3 hVi; obtain ⟨gQ, xQ, yQ, gR, xR, yR, kQ, kR, rfl, hR, hkQ, hkR, hB⟩ := hVi.open; have N3 := Lib.hid hR; have t4 : kQ ≤ 300 := (by omega); have t5 : kR ≤ 300 := (by omega); have t6 : kQ < 40 ∨ m1 < 38 := (by omega); have t7 : n1 < 40 ∨ kR < 38 := (by omega); have T3 := Lib.hid (Below.up T2.out hB); clear hB hR hVi))
      | (go_at_call 23; ((with_reducible refine (compare_vr2 _ (.agg #[.bool g1, .slice a1 n1 c1, .bool h1, .slice b1 m1 d1]) kQ kR n1 m1 ((ZN * (2 ^ k) + 1 * (2 ^ k)) * (ZN * (2 ^ k) + 1 * (2 ^ k))) (((2 ^ k) * (2 ^ k)) * ((2 ^ k) * (2 ^ k))) (tP p q) (tQ q) o2 _ N3.out (AR.vr (Vr_26.out.up T3.out)) t4 t5 s4 s5 t6 t7 ho2.out).mono ?_); rintro e v4 ⟨rfl, hB⟩; have T4 := Lib.hid (Below.up T3.out hB); clear hB)))
    go_wp2_with fail
    go_ret
    exact ⟨rfl, Below.up H_26.out T4.out⟩
end Go.Proofs.YtpkjpepnjlcgoaaDoor
end
