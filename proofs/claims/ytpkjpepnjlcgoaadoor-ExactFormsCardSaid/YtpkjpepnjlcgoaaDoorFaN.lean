/- The law of forms: any ratio and integer of at most 8 words. -/
import Derived.Deep.CutRange
import Derived.Deep.RegionLaw
import Derived.Test.YtpkjpepnjlcgoaaDoorExW
import Derived.Test.YtpkjpepnjlcgoaaDoorFmA
set_option linter.unusedVariables false
set_option linter.unusedSimpArgs false
set_option maxRecDepth 100000
namespace Go.Proofs.YtpkjpepnjlcgoaaDoor
open Go.RowKit

set_option maxHeartbeats 12800000 in
theorem forms_part (g1 h1 : Bool) (a1 b1 : Option Addr) (n1 m1 c1 d1 : Nat) (p q : Int) (ga : Bool) (aa : Option Addr) (la ca : Nat) (z Z F : Int) (w : World) (hT : Tab w) (hr : AR w (.agg #[.bool g1, .slice a1 n1 c1, .bool h1, .slice b1 m1 d1]) n1 m1 p q) (ha : AI w (.agg #[.bool ga, .slice aa la ca]) la z) (hZ : 0 ≤ Z ∧ Z ≤ 255) (hF : 0 ≤ F ∧ F ≤ 4294967295) (hn : n1 ≤ 8) (hm : m1 ≤ 8) (hl : la ≤ 8) :
    Calls Tryd.prog 3 #[.agg #[.bool g1, .slice a1 n1 c1, .bool h1, .slice b1 m1 d1], .agg #[.bool ga, .slice aa la ca], .int .u8 Z, .int .u32 F] w fun e w' => e = .returned (.bool true) ∧ Below w.heap.size w w' := by
  have W0 := Lib.hid (show Below w.heap.size w ((w.alloc (.cells #[.bool g1, .slice a1 n1 c1, .bool h1, .slice b1 m1 d1] 26)).alloc (.cells #[.bool ga, .slice aa la ca] 24)) from Below.alloc2 _ _ _)
  have VR0 := Lib.hid (show RV ((w.alloc (.cells #[.bool g1, .slice a1 n1 c1, .bool h1, .slice b1 m1 d1] 26)).alloc (.cells #[.bool ga, .slice aa la ca] 24)) w.heap.size g1 a1 n1 c1 h1 b1 m1 d1 p q from (RV.new hr).below (Below.alloc' (Below.refl _ _) _))
  have VA0 := Lib.hid (show IV ((w.alloc (.cells #[.bool g1, .slice a1 n1 c1, .bool h1, .slice b1 m1 d1] 26)).alloc (.cells #[.bool ga, .slice aa la ca] 24)) (w.heap.size + 1) ga aa la ca z from IV.new' (ha.below (w' := w.alloc (.cells #[.bool g1, .slice a1 n1 c1, .bool h1, .slice b1 m1 d1] 26)) (Below.alloc' (Below.refl _ _) _)) (by simp))
  have T0 := Lib.hid (hT.up W0.out)
  clear hT hr ha
  go_enter Tryd.func3, Tryd.ntmps3
  go_wp2_with fail
  refine calls_at (fun W => Below w.heap.size w W ∧ RV W w.heap.size g1 a1 n1 c1 h1 b1 m1 d1 p q ∧ IV W (w.heap.size + 1) ga aa la ca z ∧ Tab W ∧ W.heap.size = w.heap.size + 2) ⟨W0.out, VR0.out, VA0.out, T0.out, by simp⟩ ?_
  clear W0 VR0 VA0 T0
  rintro w0 ⟨hB, hr, ha, hT, hz0⟩
  have W0 := Lib.hid hB
  have VR := Lib.hid hr
  have VA := Lib.hid ha
  have T0 := Lib.hid hT
  clear hB hr ha hT
  refine (alive_any _ T0.out).mono ?_
  rintro e w1 ⟨rfl, hB⟩
  have B1 := Lib.hid hB
  clear hB
  obtain ⟨or0, or1, or2, or3, or4, _⟩ := VR.out.below B1.out
  go_wp2_with fail
  refine (Wide_any _ n1 m1 p q _ (VR.out.below B1.out).2.2.2.2.2).mono ?_
  rintro e w2 ⟨⟨L, rfl, hL⟩, hB⟩
  have B2 := Lib.hid (B1.out.trans (hB.mono B1.out.size))
  clear hB B1 or0 or1 or2 or3 or4
  obtain ⟨oa0, oa1, oa2, _⟩ := VA.out.below B2.out
  have dL : decide ((8 : Int) < (L : Int)) = false := decide_eq_false (by omega)
  have da : decide ((8 : Int) < (la : Int)) = false := decide_eq_false (by omega)
  go_wp2_with fail
  refine (own_any _ la z _ (VA.out.below B2.out).2.2.2 (by omega)).mono ?_
  rintro e w3 ⟨g, b, rfl, hb, hI, hB, hRm⟩
  have hs2 := B2.out.size
  have B3 := Lib.hid (B2.out.trans (hB.mono hs2))
  have hs3 := B3.out.size
  obtain ⟨x, hd, hx, hrow, hzx⟩ := digits_cut hI
  have HZ := Lib.hid hzx
  have HX := Lib.hid hx
  have bw : Hid (BW (w3.alloc (.cells #[.bool g, .slice (some ⟨b, 0, none⟩) la (la + 3)] 24)) w3.heap.size b g la (la + 3) x) := Lib.hid (by
    have hlt : b < w3.heap.size := by obtain ⟨C, h1, _⟩ := hRm; exact (Array.getElem?_eq_some_iff.1 h1).1
    have k : Below w3.heap.size w3 (w3.alloc (.cells #[.bool g, .slice (some ⟨b, 0, none⟩) la (la + 3)] 24)) := Below.alloc' (Below.refl _ _) _
    refine ⟨World.alloc_heap_new _ _, ?_, hrow.below k, by omega⟩
    obtain ⟨C, h1, h2⟩ := hRm
    exact ⟨C, (k.block b hlt).trans h1, h2⟩)
  have hb0 : w0.heap.size ≤ b := by omega
  have hbb0 : w0.heap.size ≤ w3.heap.size := hs3
  have B4 := Lib.hid (Below.alloc' B3.out (.cells #[.bool g, .slice (some ⟨b, 0, none⟩) la (la + 3)] 24))
  clear hI hRm hrow hzx hx hB B2 B3 hs2 oa0 oa1 oa2 hb
  obtain ⟨t, ht⟩ : ∃ t : Nat, Z % 4 = (t : Int) := ⟨(Z % 4).toNat, by omega⟩
  have ht3 : t ≤ 3 := by omega
  go_wp2_with fail
  generalize (w3.alloc (.cells #[.bool g, .slice (some ⟨b, 0, none⟩) la (la + 3)] 24)) = w4 at *
  generalize w3.heap.size = bb at *
  rw [ht]
  clear ht
  rename_i hKK
  have HK := Lib.hid hKK
  clear hKK
  go_loopw [37] (fun i wr => ∃ j : Nat, j ≤ t ∧ i = .int .u8 j ∧ Hid (BW wr bb b g (la + j) (la + 3) x) ∧ Hid (Below w0.heap.size w0 wr)) (fun i _ => t - (intOf i).toNat)
  case atStart => exact ⟨0, Nat.zero_le _, rfl, bw, B4⟩
  case round =>
    obtain ⟨j, hj, rfl, I, BI⟩ := hrel
    clear bw B4
    have k1 := I.out.c1
    have k0 := I.out.lt
    have k2 := I.out.lt2
    by_cases hlt : j < t
    · have AK := Lib.hid (Below.alloc' (Below.refl wr.heap.size wr) (.cells #[.int .u32 0] 27))
      have J := Lib.hid (I.out.below AK.out)
      have hu : IntKind.u8.wrap ((j : Int) + 1) = ((j + 1 : Nat) : Int) := by rw [IntWalk.u8_in _ (by omega)]; omega
      go_wp2_with (first
        | ((with_reducible refine is_append ?_); refine append32_at rfl _ _ _ rfl (by kernel_rfl) b (la + j) (la + 3) 1 1 (some ⟨wr.heap.size, 0, none⟩) (fun _ => 0) rfl rfl (fun _ => ⟨wr.heap.size, 0, rfl, fresh1 _⟩) J.out.room (by omega) w0.heap.size hb0 ?_; intro w5 hRow hC hBel hOth hRm5; have e5 := (hOth bb (J.out.lt) J.out.ne).trans J.out.box; have c51 : w5.cell? ⟨bb, 1, none⟩ = some (.slice (some ⟨b, 0, none⟩) (la + j) (la + 3)) := (by simp [World.cell?, e5]); have f51 : w5.frozen? ⟨bb, 1, none⟩ = false := (by simp [World.frozen?, e5]); have M := Lib.hid (I.out.more (fun i hi => HX.out i (by omega)) AK.out hRow hC hOth hRm5); have N5 := Lib.hid (Below.setCell (p := ⟨bb, 1, none⟩) (BI.out.trans ((AK.out.mono BI.out.size).trans hBel)) hbb0 (.slice (some ⟨b, 0, none⟩) (la + j + 1) (la + 3)))))
      go_roundw
      case rel => exact ⟨j + 1, by omega, rfl, M, N5⟩
      case measure => simp [intOf] <;> omega
    · obtain rfl : j = t := by omega
      clear k1 k0 k2
      go_wp2_with fail
      refine HK.out _ _ ?_
      refine wp_seq_k ?_
      intro Kn hKn
      go_cut [] from 38 (fun W => ∃ g' : Bool, Hid (BW W bb b g' (la + j) (la + 3) x ∧ z = sg g' (V x la) ∧ Below w0.heap.size w0 W))
      case first =>
        rename_i hJ hK
        obtain ⟨oa0, oa1, oa2, _⟩ := VA.out.below BI.out
        go_wp2_with fail
        refine (sign_is _ la z (ord z 0) _ (VA.out.below BI.out).2.2.2 (by omega) rfl).mono ?_
        rintro e w6 ⟨rfl, hB⟩
        have I6 := Lib.hid (I.out.below hB)
        have B6 := Lib.hid (BI.out.trans (hB.mono BI.out.size))
        clear hB oa0 oa1 oa2
        have o0 := I6.out.c0
        have f0 : w6.frozen? ⟨bb, 0, none⟩ = false := by simp [World.frozen?, I6.out.box]
        by_cases hz : z = 0
        · have dz : (ord z 0 == 0) = true := by rw [ord_eq hz]; rfl
          have hv := Lib.hid (show z = sg (!g) (V x la) from by
            have h0 := HZ.out
            rw [hz] at h0 ⊢
            cases g <;> simp [sg] at h0 ⊢ <;> omega)
          go_wp2_with fail
          refine hJ _ _ ?_
          (repeat apply Exists.intro)
          exact ⟨⟨!g, Lib.hid ⟨I6.out.flip _, hv.out, B6.out.setCell (p := ⟨bb, 0, none⟩) hbb0 _⟩⟩, rfl⟩
        · have dz : (ord z 0 == 0) = false := by
            rcases Int.lt_or_lt_of_ne hz with g | g
            · rw [ord_lt g]; rfl
            · rw [ord_gt g]; rfl
          have hv := Lib.hid (show z = sg g (V x la) from HZ.out)
          go_wp2_with fail
          refine hJ _ _ ?_
          (repeat apply Exists.intro)
          exact ⟨⟨g, Lib.hid ⟨I6.out, hv.out, B6.out⟩⟩, rfl⟩
      case rest =>
        obtain ⟨g', hF⟩ := hcut
        generalize wc = w7 at *
        obtain ⟨hI, hz7, hB⟩ := hF.out
        have VB7 := Lib.hid (hI.iv hd (by omega) (hz7.trans (by rw [V_more HX.out])))
        have B7 := Lib.hid hB
        clear hF hI hz7 hB HZ HX I BI HK hd
        refine hKn _ _ ?_
        clear hKn
        go_wp2_with fail
        have VK8 := Lib.hid (factor_iv w7 (F % 2 == 0) F hF)
        have HK0 := Lib.hid (factor_ne (F % 2 == 0) F hF)
        have B8 := Lib.hid (show Below w0.heap.size w0 ((w7.alloc (.cells #[.int .u32 F, .int .u32 1] 27)).alloc (.cells #[.bool (F % 2 == 0), .slice (some ⟨w7.heap.size, 0, none⟩) 2 2] 24)) from Below.alloc' (Below.alloc' B7.out _) _)
        have VB8 := Lib.hid (show IV ((w7.alloc (.cells #[.int .u32 F, .int .u32 1] 27)).alloc (.cells #[.bool (F % 2 == 0), .slice (some ⟨w7.heap.size, 0, none⟩) 2 2] 24)) bb g' (some ⟨b, 0, none⟩) (la + j) (la + 3) z from VB7.out.below (Below.alloc2 _ _ _))
        clear VB7 B7
        generalize hKe : (sg (F % 2 == 0) (F + 4294967296)) = KK at *
        clear hKe
        refine wp_at (fun W => IV W (w7.heap.size + 1) (F % 2 == 0) (some ⟨w7.heap.size, 0, none⟩) 2 2 KK ∧ Below w0.heap.size w0 W ∧ IV W bb g' (some ⟨b, 0, none⟩) (la + j) (la + 3) z) ⟨VK8.out, B8.out, VB8.out⟩ ?_
        clear VK8 B8 VB8
        rintro w8 ⟨hK8, hB8, hb8⟩
        have VK8 := Lib.hid hK8
        have B8 := Lib.hid hB8
        have VB8 := Lib.hid hb8
        clear hK8 hB8 hb8
        generalize w7.heap.size + 1 = bk at *
        generalize w7.heap.size = bk0 at *
        have VR8 := Lib.hid (VR.out.below B8.out)
        have hlb : la + j ≤ 11 := by omega
        go_cut [12] from 58 to 138 (fun s0 W => ∃ (bs : Nat) (g3 : Bool) (x3 : Option Addr) (k3 y3 : Nat) (g4 : Bool) (x4 : Option Addr) (k4 y4 : Nat), s0 = .pointer (some ⟨bs, 0, none⟩) ∧ k3 ≤ n1 + 2 ∧ k4 ≤ m1 + 2 ∧ Hid (RV W bs g3 x3 k3 y3 g4 x4 k4 y4 (p * KK) (q * KK) ∧ Below w8.heap.size w8 W))
        case first =>
          rename_i hJ hK
          have NUM := Lib.hid (fun (W : World) (h : Below w8.heap.size w8 W) => (show AI W (.agg #[.bool g1, .slice a1 n1 c1]) n1 p from by obtain ⟨_, _, _, _, e, h1, h2⟩ := VR8.out.up h; simp only [Value.agg.injEq, Array.mk.injEq, List.cons.injEq, and_true] at e; obtain ⟨rfl, rfl, rfl, rfl⟩ := e; exact h1))
          have DEN := Lib.hid (fun (W : World) (h : Below w8.heap.size w8 W) => (show AI W (.agg #[.bool h1, .slice b1 m1 d1]) m1 q from by obtain ⟨_, _, _, _, e, h1, h2⟩ := VR8.out.up h; simp only [Value.agg.injEq, Array.mk.injEq, List.cons.injEq, and_true] at e; obtain ⟨rfl, rfl, rfl, rfl⟩ := e; exact h2))
          have M8 := Lib.hid (show ∀ w', Below w8.heap.size w8 w' → w'.cell? ⟨w.heap.size, 0, none⟩ = some (.bool g1) ∧ w'.cell? ⟨w.heap.size, 1, none⟩ = some (.slice a1 n1 c1) ∧ w'.cell? ⟨w.heap.size, 2, none⟩ = some (.bool h1) ∧ w'.cell? ⟨w.heap.size, 3, none⟩ = some (.slice b1 m1 d1) ∧ w'.cell? ⟨bk, 0, none⟩ = some (.bool (F % 2 == 0)) ∧ w'.cell? ⟨bk, 1, none⟩ = some (.slice (some ⟨bk0, 0, none⟩) 2 2) from fun w' h => ⟨(VR8.out.below h).1, (VR8.out.below h).2.1, (VR8.out.below h).2.2.1, (VR8.out.below h).2.2.2.1, (VK8.out.below h).1, (VK8.out.below h).2.1⟩)
          obtain ⟨or0, or1, or2, or3, or4, _⟩ := VR8.out
          obtain ⟨ok0, ok1, ok2, _⟩ := VK8.out
          have s0 : n1 ≤ 1000 := by omega
          have s1 : m1 ≤ 1000 := by omega
          have s2 : (2 : Nat) ≤ 1000 := by omega
          have s3 : n1 < 40 ∨ 2 < 40 := by omega
          have s4 : m1 < 40 ∨ 2 < 40 := by omega
          go_region_held3 (fun w' => w'.cell? ⟨w.heap.size, 0, none⟩ = some (.bool g1) ∧ w'.cell? ⟨w.heap.size, 1, none⟩ = some (.slice a1 n1 c1) ∧ w'.cell? ⟨w.heap.size, 2, none⟩ = some (.bool h1) ∧ w'.cell? ⟨w.heap.size, 3, none⟩ = some (.slice b1 m1 d1) ∧ w'.cell? ⟨bk, 0, none⟩ = some (.bool (F % 2 == 0)) ∧ w'.cell? ⟨bk, 1, none⟩ = some (.slice (some ⟨bk0, 0, none⟩) 2 2))
            (exact M8.out _ (by ((repeat (first | (with_reducible exact Below.refl _ _) | (with_reducible refine Below.up ?_ HBM1.out) | (with_reducible refine Below.up ?_ HBM0.out) | (with_reducible refine Below.alloc' ?_ _) | (with_reducible refine Below.drew' ?_) | (with_reducible refine Below.set' ?_ (by first | exact Nat.le_refl _ | exact (Below.size TM0.out) | exact (Below.size TM1.out)) _))); done)))
            (first
            | (go_at_call 10; ((with_reducible refine (mul_gf (.agg #[.bool g1, .slice a1 n1 c1]) (.agg #[.bool (F % 2 == 0), .slice (some ⟨bk0, 0, none⟩) 2 2]) n1 2 p KK _ (NUM.out _ (by ((repeat (first | (with_reducible exact Below.refl _ _) | (with_reducible refine Below.alloc' ?_ _) | (with_reducible refine Below.drew' ?_) | (with_reducible refine Below.set' ?_ (by first | exact Nat.le_refl _) _))); done))) (VK8.out.up (by ((repeat (first | (with_reducible exact Below.refl _ _) | (with_reducible refine Below.alloc' ?_ _) | (with_reducible refine Below.drew' ?_) | (with_reducible refine Below.set' ?_ (by first | exact Nat.le_refl _) _))); done))) s0 s2 s3).mono ?_); rintro e wM0 ⟨gM0, xM0, yM0, kM0, rfl, hR, hkM0, hB⟩; have RM0 := Lib.hid hR; have HBM0 := Lib.hid hB; have TM0 := Lib.hid (Below.up (u := w8) (by ((repeat (first | (with_reducible exact Below.refl _ _) | (with_reducible refine Below.alloc' ?_ _) | (with_reducible refine Below.drew' ?_) | (with_reducible refine Below.set' ?_ (by first | exact Nat.le_refl _) _))); done)) hB); clear hR hB; (try (refine absorb (a := Box4 wM0 w8.heap.size) ?_ ?_; (focus ((repeat (first | (with_reducible exact Box4.new _) | (with_reducible refine Box4.below ?_ HBM0.out) | (with_reducible refine Box4.drew ?_) | (with_reducible refine Box4.alloc ?_ _))); done)); intro zb; obtain ⟨zu0a0, zu0a1, zu0a2, zu0a3, zc0a0, zc0a1, zc0a2, zc0a3, zf0a0, zf0a1, zf0a2, zf0a3⟩ := zb.open; have ZB0a := Lib.hid zb; clear zb))))
            | (go_at_call 10; ((with_reducible refine (mul_gf (.agg #[.bool h1, .slice b1 m1 d1]) (.agg #[.bool (F % 2 == 0), .slice (some ⟨bk0, 0, none⟩) 2 2]) m1 2 q KK _ (DEN.out _ (by ((repeat (first | (with_reducible exact Below.refl _ _) | (with_reducible refine Below.up ?_ HBM0.out) | (with_reducible refine Below.alloc' ?_ _) | (with_reducible refine Below.drew' ?_) | (with_reducible refine Below.set' ?_ (by first | exact Nat.le_refl _ | exact (Below.size TM0.out)) _))); done))) (VK8.out.up (by ((repeat (first | (with_reducible exact Below.refl _ _) | (with_reducible refine Below.up ?_ HBM0.out) | (with_reducible refine Below.alloc' ?_ _) | (with_reducible refine Below.drew' ?_) | (with_reducible refine Below.set' ?_ (by first | exact Nat.le_refl _ | exact (Below.size TM0.out)) _))); done))) s1 s2 s4).mono ?_); rintro e wM1 ⟨gM1, xM1, yM1, kM1, rfl, hR, hkM1, hB⟩; have RM1 := Lib.hid hR; have HBM1 := Lib.hid hB; have TM1 := Lib.hid (Below.up (u := w8) (by ((repeat (first | (with_reducible exact Below.refl _ _) | (with_reducible refine Below.up ?_ HBM0.out) | (with_reducible refine Below.alloc' ?_ _) | (with_reducible refine Below.drew' ?_) | (with_reducible refine Below.set' ?_ (by first | exact Nat.le_refl _ | exact (Below.size TM0.out)) _))); done)) hB); clear hR hB; (try (refine absorb (a := Box4 wM1 w8.heap.size) ?_ ?_; (focus ((repeat (first | (with_reducible exact Box4.new _) | (with_reducible refine Box4.below ?_ HBM1.out) | (with_reducible refine Box4.below ?_ HBM0.out) | (with_reducible refine Box4.drew ?_) | (with_reducible refine Box4.alloc ?_ _))); done)); intro zb; obtain ⟨zu1a0, zu1a1, zu1a2, zu1a3, zc1a0, zc1a1, zc1a2, zc1a3, zf1a0, zf1a1, zf1a2, zf1a3⟩ := zb.open; have ZB1a := Lib.hid zb; clear zb)); (try (refine absorb (a := Box4 wM1 wM0.heap.size) ?_ ?_; (focus ((repeat (first | (with_reducible exact Box4.new _) | (with_reducible refine Box4.below ?_ HBM1.out) | (with_reducible refine Box4.below ?_ HBM0.out) | (with_reducible refine Box4.drew ?_) | (with_reducible refine Box4.alloc ?_ _))); done)); intro zb; obtain ⟨zu1b0, zu1b1, zu1b2, zu1b3, zc1b0, zc1b1, zc1b2, zc1b3, zf1b0, zf1b1, zf1b2, zf1b3⟩ := zb.open; have ZB1b := Lib.hid zb; clear zb)))))
          all_goals (refine hK _ _ (Met.intro (hJ _ _ ?_)); (repeat apply Exists.intro); refine ⟨?_, rfl⟩)
          · exact ⟨_, gM0, xM0, kM0, yM0, gM1, xM1, kM1, yM1, rfl, by omega, by omega, Lib.hid ⟨RV.new ⟨_, _, _, _, rfl, RM0.out.below HBM1.out, RM1.out⟩, (by ((repeat (first | (with_reducible exact Below.refl _ _) | (with_reducible refine Below.up ?_ HBM1.out) | (with_reducible refine Below.up ?_ HBM0.out) | (with_reducible refine Below.alloc' ?_ _) | (with_reducible refine Below.drew' ?_) | (with_reducible refine Below.set' ?_ (by first | exact Nat.le_refl _ | exact (Below.size TM0.out) | exact (Below.size TM1.out)) _))); done))⟩⟩
          · exact ⟨_, gM0, xM0, kM0, yM0, gM1, xM1, kM1, yM1, rfl, by omega, by omega, Lib.hid ⟨RV.put ZB1b.out ((RM0.out.alloc _).below HBM1.out) RM1.out, (by ((repeat (first | (with_reducible exact Below.refl _ _) | (with_reducible refine Below.up ?_ HBM1.out) | (with_reducible refine Below.up ?_ HBM0.out) | (with_reducible refine Below.alloc' ?_ _) | (with_reducible refine Below.drew' ?_) | (with_reducible refine Below.set' ?_ (by first | exact Nat.le_refl _ | exact (Below.size TM0.out) | exact (Below.size TM1.out)) _))); done))⟩⟩
          · exact ⟨_, gM0, xM0, kM0, yM0, gM1, xM1, kM1, yM1, rfl, by omega, by omega, Lib.hid ⟨RV.put ZB1a.out (RM0.out.below HBM1.out) RM1.out, (by ((repeat (first | (with_reducible exact Below.refl _ _) | (with_reducible refine Below.up ?_ HBM1.out) | (with_reducible refine Below.up ?_ HBM0.out) | (with_reducible refine Below.alloc' ?_ _) | (with_reducible refine Below.drew' ?_) | (with_reducible refine Below.set' ?_ (by first | exact Nat.le_refl _ | exact (Below.size TM0.out) | exact (Below.size TM1.out)) _))); done))⟩⟩
        case rest =>
          obtain ⟨bs, g3, x3, k3, y3, g4, x4, k4, y4, rfl, hk3, hk4, hF8⟩ := hcut
          generalize wc = w9 at *
          obtain ⟨hS, hB9⟩ := hF8.out
          have VS9 := Lib.hid hS
          have B9 := Lib.hid (B8.out.trans (hB9.mono B8.out.size))
          have VB9 := Lib.hid (VB8.out.below hB9)
          clear hF8 hS hB9 B8 VB8 VK8 VR8
          have CR0 := Lib.hid (forms_cross p q KK HK0.out)
          clear HK0
          obtain ⟨or0, or1, or2, or3, or4, _⟩ := VR.out.below B9.out
          go_wp2_with fail
          refine (Decimal_said _ n1 m1 3 p q _ (VR.out.below B9.out).2.2.2.2.2 (by omega) (by omega) (by omega)).mono ?_
          rintro e w10 ⟨Zd, Rd, hDV, rfl, hB⟩
          have HD1 := Lib.hid hDV
          have VS10 := Lib.hid (VS9.out.below hB)
          have VB10 := Lib.hid (VB9.out.below hB)
          have B10 := Lib.hid (B9.out.trans (hB.mono B9.out.size))
          clear hDV hB VS9 VB9 B9 or0 or1 or2 or3 or4
          obtain ⟨os0, os1, os2, os3, os4, _⟩ := VS10.out
          go_wp2_with fail
          refine (Decimal_said _ k3 k4 3 (p * KK) (q * KK) _ VS10.out.2.2.2.2.2 (by omega) (by omega) (by omega)).mono ?_
          rintro e w11 ⟨Ze, Re, hDV, rfl, hB⟩
          have hZe : Ze = Zd := (dec_same (10 ^ 3) HD1.out hDV (tQ_pos q) (tQ_pos _) CR0.out).symm
          subst hZe
          have VS11 := Lib.hid (VS10.out.below hB)
          have VB11 := Lib.hid (VB10.out.below hB)
          have B11 := Lib.hid (B10.out.trans (hB.mono B10.out.size))
          clear hDV hB HD1 VS10 VB10 B10 os0 os1 os2 os3 os4
          have VA11 := Lib.hid (VA.out.below B11.out)
          have l0 : la ≤ 1000 := by omega
          have l1 : la ≤ 100000000 := by omega
          have l2 : la + j ≤ 100000000 := by omega
          have l3 : la ≤ 1000000000 := by omega
          have l4 : la + j ≤ 1000000000 := by omega
          have l5 : la + j ≤ 1000 := by omega
          have l6 : la < 40 ∨ la + j < 40 := by omega
          have l7 : la < 40 ∨ la < 40 := by omega
          go_wp2_with fail
          go_cut [17] from 77 to 138 (fun s0 W => s0 = .bool true ∧ Hid (Below w11.heap.size w11 W))
          case first =>
            rename_i hJ hK
            have B15_ := Lib.hid (Below.refl w11.heap.size w11)
            have D15 := Lib.hid (Below.drew B15_.out)
            have M15 := Lib.hid (show ∀ w', Below w11.heap.size w11 w' → w'.cell? ⟨(w.heap.size + 1), 0, none⟩ = some (.bool ga) ∧ w'.cell? ⟨(w.heap.size + 1), 1, none⟩ = some (.slice aa la ca) ∧ w'.cell? ⟨bb, 0, none⟩ = some (.bool g') ∧ w'.cell? ⟨bb, 1, none⟩ = some (.slice (some ⟨b, 0, none⟩) (la + j) (la + 3)) from fun w' h => ⟨(VA11.out.below h).1, (VA11.out.below h).2.1, (VB11.out.below h).1, (VB11.out.below h).2.1⟩)
            obtain ⟨oa0, oa1, oa2, _⟩ := VA11.out
            obtain ⟨ob0, ob1, ob2, _⟩ := VB11.out
            go_region_held3 (fun w' => w'.cell? ⟨(w.heap.size + 1), 0, none⟩ = some (.bool ga) ∧ w'.cell? ⟨(w.heap.size + 1), 1, none⟩ = some (.slice aa la ca) ∧ w'.cell? ⟨bb, 0, none⟩ = some (.bool g') ∧ w'.cell? ⟨bb, 1, none⟩ = some (.slice (some ⟨b, 0, none⟩) (la + j) (la + 3)))
              (first | (with_reducible exact M15.out _ D15.out) | (with_reducible exact M15.out _ T15_0.out) | (with_reducible exact M15.out _ T15_1.out) | (with_reducible exact M15.out _ T15_2.out) | (with_reducible exact M15.out _ T15_3.out) | (with_reducible exact M15.out _ T15_4.out) | (with_reducible exact M15.out _ T15_5.out) | (with_reducible exact M15.out _ T15_6.out) | (with_reducible exact M15.out _ T15_7.out))
              (first
              | (go_at_call 12; ((with_reducible refine (Text_any (.agg #[.bool ga, .slice aa la ca]) la z _ (VA11.out.up D15.out) l1).mono ?_); rintro e w15_0 ⟨rfl, hB⟩; have HB15_0 := Lib.hid hB; have T15_0 := Lib.hid (Below.up D15.out hB); clear hB))
              | (go_at_call 12; ((with_reducible refine (Text_any (.agg #[.bool g', .slice (some ⟨b, 0, none⟩) (la + j) (la + 3)]) (la + j) z _ (VB11.out.up T15_0.out) l2).mono ?_); rintro e w15_1 ⟨rfl, hB⟩; have HB15_1 := Lib.hid hB; have T15_1 := Lib.hid (Below.up T15_0.out hB); clear hB))
              | (go_at_call 13; ((with_reducible refine (equal_true (.agg #[.bool ga, .slice aa la ca]) (.agg #[.bool g', .slice (some ⟨b, 0, none⟩) (la + j) (la + 3)]) la (la + j) z z _ (VA11.out.up T15_1.out) (VB11.out.up T15_1.out) l3 l4 rfl).mono ?_); rintro e w15_2 ⟨rfl, hB⟩; have HB15_2 := Lib.hid hB; have T15_2 := Lib.hid (Below.up T15_1.out hB); clear hB))
              | (go_at_call 10; ((with_reducible refine (mul_gf (.agg #[.bool ga, .slice aa la ca]) (.agg #[.bool g', .slice (some ⟨b, 0, none⟩) (la + j) (la + 3)]) la (la + j) z z _ (VA11.out.up T15_2.out) (VB11.out.up T15_2.out) l0 l5 l6).mono ?_); rintro e w15_3 ⟨g5a, x5a, y5a, k5a, rfl, hR, hk5a, hB⟩; have Q5a := Lib.hid hR; clear hR; have q5a : k5a ≤ 1000000000 := (by omega); have HB15_3 := Lib.hid hB; have T15_3 := Lib.hid (Below.up T15_2.out hB); clear hB))
              | (go_at_call 10; ((with_reducible refine (mul_gf (.agg #[.bool ga, .slice aa la ca]) (.agg #[.bool ga, .slice aa la ca]) la la z z _ (VA11.out.up T15_3.out) (VA11.out.up T15_3.out) l0 l0 l7).mono ?_); rintro e w15_4 ⟨g5b, x5b, y5b, k5b, rfl, hR, hk5b, hB⟩; have Q5b := Lib.hid hR; clear hR; have q5b : k5b ≤ 1000000000 := (by omega); have HB15_4 := Lib.hid hB; have T15_4 := Lib.hid (Below.up T15_3.out hB); clear hB))
              | (go_at_call 13; ((with_reducible refine (equal_true _ _ k5a k5b (z * z) (z * z) _ (Q5a.out.below HB15_4.out) Q5b.out q5a q5b rfl).mono ?_); rintro e w15_5 ⟨rfl, hB⟩; have HB15_5 := Lib.hid hB; have T15_5 := Lib.hid (Below.up T15_4.out hB); clear hB))
              | (go_at_call 9; ((with_reducible refine (sign_is (.agg #[.bool ga, .slice aa la ca]) la z (ord z 0) _ (VA11.out.up T15_5.out) l3 rfl).mono ?_); rintro e w15_6 ⟨rfl, hB⟩; have HB15_6 := Lib.hid hB; have T15_6 := Lib.hid (Below.up T15_5.out hB); clear hB))
              | (go_at_call 9; ((with_reducible refine (sign_is (.agg #[.bool g', .slice (some ⟨b, 0, none⟩) (la + j) (la + 3)]) (la + j) z (ord z 0) _ (VB11.out.up T15_6.out) l4 rfl).mono ?_); rintro e w15_7 ⟨rfl, hB⟩; have HB15_7 := Lib.hid hB; have T15_7 := Lib.hid (Below.up T15_6.out hB); clear hB)))
            refine hK _ _ (Met.intro (hJ _ _ ?_))
            (repeat apply Exists.intro)
            exact ⟨⟨rfl, Lib.hid T15_7.out⟩, rfl⟩
          case rest =>
            obtain ⟨rfl, hF⟩ := hcut
            generalize wc = w12 at *
            have VS12 := Lib.hid (VS11.out.below hF.out)
            have B12 := Lib.hid (B11.out.trans (hF.out.mono B11.out.size))
            clear hF VS11 VB11 VA11 B11
            have VR12 := Lib.hid (VR.out.below B12.out)
            have T12 := Lib.hid (T0.out.up B12.out)
            obtain ⟨SH, hSH⟩ : ∃ S, shs (lP p q) (lQ p q) = S := ⟨_, rfl⟩
            have HS1 := Lib.hid hSH
            have HS2 : Hid (shs (lP (p * KK) (q * KK)) (lQ (p * KK) (q * KK)) = SH) := Lib.hid (by rw [← (lowest_same CR0.out).1, ← (lowest_same CR0.out).2]; exact hSH)
            have HS3 : Hid (shs (lP (lP (p * KK) (q * KK)) (lQ (p * KK) (q * KK))) (lQ (lP (p * KK) (q * KK)) (lQ (p * KK) (q * KK))) = SH) := Lib.hid (by rw [(low_low _ _).1, (low_low _ _).2]; exact HS2.out)
            clear hSH
            have r0 : n1 ≤ 300 := by omega
            have r1 : m1 ≤ 37 := by omega
            have r2 : k3 ≤ 300 := by omega
            have r3 : k4 ≤ 37 := by omega
            have r4 : n1 ≤ 900 := by omega
            have r5 : m1 ≤ 900 := by omega
            have r6 : k3 ≤ 900 := by omega
            have r7 : k4 ≤ 900 := by omega
            go_wp2_with fail
            have B16_ := Lib.hid (Below.refl w12.heap.size w12)
            have D16 := Lib.hid (Below.drew B16_.out)
            have M16 := Lib.hid (show ∀ w', Below w12.heap.size w12 w' → w'.cell? ⟨w.heap.size, 0, none⟩ = some (.bool g1) ∧ w'.cell? ⟨w.heap.size, 1, none⟩ = some (.slice a1 n1 c1) ∧ w'.cell? ⟨w.heap.size, 2, none⟩ = some (.bool h1) ∧ w'.cell? ⟨w.heap.size, 3, none⟩ = some (.slice b1 m1 d1) ∧ w'.cell? ⟨bs, 0, none⟩ = some (.bool g3) ∧ w'.cell? ⟨bs, 1, none⟩ = some (.slice x3 k3 y3) ∧ w'.cell? ⟨bs, 2, none⟩ = some (.bool g4) ∧ w'.cell? ⟨bs, 3, none⟩ = some (.slice x4 k4 y4) from fun w' h => ⟨(VR12.out.below h).1, (VR12.out.below h).2.1, (VR12.out.below h).2.2.1, (VR12.out.below h).2.2.2.1, (VS12.out.below h).1, (VS12.out.below h).2.1, (VS12.out.below h).2.2.1, (VS12.out.below h).2.2.2.1⟩)
            obtain ⟨or0, or1, or2, or3, or4, _⟩ := VR12.out
            obtain ⟨os0, os1, os2, os3, os4, _⟩ := VS12.out
            go_region_held3 (fun w' => w'.cell? ⟨w.heap.size, 0, none⟩ = some (.bool g1) ∧ w'.cell? ⟨w.heap.size, 1, none⟩ = some (.slice a1 n1 c1) ∧ w'.cell? ⟨w.heap.size, 2, none⟩ = some (.bool h1) ∧ w'.cell? ⟨w.heap.size, 3, none⟩ = some (.slice b1 m1 d1) ∧ w'.cell? ⟨bs, 0, none⟩ = some (.bool g3) ∧ w'.cell? ⟨bs, 1, none⟩ = some (.slice x3 k3 y3) ∧ w'.cell? ⟨bs, 2, none⟩ = some (.bool g4) ∧ w'.cell? ⟨bs, 3, none⟩ = some (.slice x4 k4 y4))
              (first | (with_reducible exact M16.out _ D16.out) | (with_reducible exact M16.out _ T16_0.out) | (with_reducible exact M16.out _ T16_1.out) | (with_reducible exact M16.out _ T16_2.out) | (with_reducible exact M16.out _ T16_3.out) | (with_reducible exact M16.out _ T16_4.out) | (with_reducible exact M16.out _ T16_5.out) | (with_reducible exact M16.out _ T16_6.out) | (with_reducible exact M16.out _ T16_7.out) | (with_reducible exact M16.out _ T16_8.out))
              (first
              | (go_at_call 14; ((with_reducible refine (same_vr (.agg #[.bool g1, .slice a1 n1 c1, .bool h1, .slice b1 m1 d1]) (.agg #[.bool g3, .slice x3 k3 y3, .bool g4, .slice x4 k4 y4]) n1 m1 k3 k4 (tP p q) (tQ q) (tP (p * KK) (q * KK)) (tQ (q * KK)) _ (AR.vr (VR12.out.up D16.out)) (AR.vr (VS12.out.up D16.out)) r0 r1 r2 r3 CR0.out).mono ?_); rintro e w16_0 ⟨rfl, hB⟩; have HB16_0 := Lib.hid hB; have T16_0 := Lib.hid (Below.up D16.out hB); clear hB))
              | (go_at_call 15; ((with_reducible refine (show_is (.agg #[.bool g1, .slice a1 n1 c1, .bool h1, .slice b1 m1 d1]) n1 m1 p q SH _ (T12.out.up T16_0.out) (VR12.out.up T16_0.out) r4 r5 HS1.out).mono ?_); rintro e w16_1 ⟨rfl, hB⟩; have HB16_1 := Lib.hid hB; have T16_1 := Lib.hid (Below.up T16_0.out hB); clear hB))
              | (go_at_call 15; ((with_reducible refine (show_is (.agg #[.bool g3, .slice x3 k3 y3, .bool g4, .slice x4 k4 y4]) k3 k4 (p * KK) (q * KK) SH _ (T12.out.up T16_1.out) (VS12.out.up T16_1.out) r6 r7 HS2.out).mono ?_); rintro e w16_2 ⟨rfl, hB⟩; have HB16_2 := Lib.hid hB; have T16_2 := Lib.hid (Below.up T16_1.out hB); clear hB))
              | (go_at_call 16; ((with_reducible refine (lowest_said (.agg #[.bool g3, .slice x3 k3 y3, .bool g4, .slice x4 k4 y4]) k3 k4 (p * KK) (q * KK) _ (T12.out.up T16_2.out) (VS12.out.up T16_2.out) r6 r7).mono ?_); rintro e w16_3 ⟨g6a, x6a, y6a, g6b, x6b, y6b, k6a, k6b, rfl, hR, hk6a, hk6b, hB⟩; have Q6 := Lib.hid hR; clear hR; have q6a : k6a ≤ 900 := (by omega); have q6b : k6b ≤ 900 := (by omega); have HB16_3 := Lib.hid hB; have T16_3 := Lib.hid (Below.up T16_2.out hB); clear hB))
              | (go_at_call 15; ((with_reducible refine (show_is _ k6a k6b (lP (p * KK) (q * KK)) (lQ (p * KK) (q * KK)) SH _ (T12.out.up T16_3.out) Q6.out q6a q6b HS3.out).mono ?_); rintro e w16_4 ⟨rfl, hB⟩; have HB16_4 := Lib.hid hB; have T16_4 := Lib.hid (Below.up T16_3.out hB); clear hB))
              | (go_at_call 15; ((with_reducible refine (show_is (.agg #[.bool g1, .slice a1 n1 c1, .bool h1, .slice b1 m1 d1]) n1 m1 p q SH _ (T12.out.up T16_4.out) (VR12.out.up T16_4.out) r4 r5 HS1.out).mono ?_); rintro e w16_5 ⟨rfl, hB⟩; have HB16_5 := Lib.hid hB; have T16_5 := Lib.hid (Below.up T16_4.out hB); clear hB))
              | (go_at_call 17; ((with_reducible refine (floor_said (.agg #[.bool g1, .slice a1 n1 c1, .bool h1, .slice b1 m1 d1]) n1 m1 p q _ (VR12.out.up T16_5.out) r4 r5).mono ?_); rintro e w16_6 ⟨g7a, x7a, y7a, k7a, Q7a, R7a, rfl, hR, hDa, hk7a, hB⟩; have Q7 := Lib.hid hR; clear hR; have D7a := Lib.hid hDa; clear hDa; have q7a : k7a ≤ 1000000000 := (by omega); have HB16_6 := Lib.hid hB; have T16_6 := Lib.hid (Below.up T16_5.out hB); clear hB))
              | (go_at_call 17; ((with_reducible refine (floor_said (.agg #[.bool g3, .slice x3 k3 y3, .bool g4, .slice x4 k4 y4]) k3 k4 (p * KK) (q * KK) _ (VS12.out.up T16_6.out) r6 r7).mono ?_); rintro e w16_7 ⟨g7b, x7b, y7b, k7b, Q7b, R7b, rfl, hR, hDb, hk7b, hB⟩; have Q8 := Lib.hid hR; clear hR; have E7 := Lib.hid (dvs_same D7a.out hDb (tQ_pos _) (tQ_pos _) CR0.out); clear hDb; have q7b : k7b ≤ 1000000000 := (by omega); have HB16_7 := Lib.hid hB; have T16_7 := Lib.hid (Below.up T16_6.out hB); clear hB))
              | (go_at_call 13; ((with_reducible refine (equal_true _ _ k7a k7b Q7a Q7b _ (Q7.out.below HB16_7.out) Q8.out q7a q7b E7.out).mono ?_); rintro e w16_8 ⟨rfl, hB⟩; have HB16_8 := Lib.hid hB; have T16_8 := Lib.hid (Below.up T16_7.out hB); clear hB)))
            go_wp2_with fail
            go_ret
            exact ⟨rfl, Below.up (Below.up W0.out B12.out) T16_8.out⟩
end Go.Proofs.YtpkjpepnjlcgoaaDoor
