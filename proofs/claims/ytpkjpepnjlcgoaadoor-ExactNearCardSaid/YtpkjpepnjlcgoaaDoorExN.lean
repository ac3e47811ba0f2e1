/- digitsOf: the decimal digits of a number above 0. -/
import Derived.Test.YtpkjpepnjlcgoaaDoorExM
import Derived.Laws.BytesArg
namespace Go.Proofs.YtpkjpepnjlcgoaaDoor
open Go.RowKit
attribute [local go_sem] Oper.semAt_some

/-- The digits from place m down. -/
def dig (m : Nat) (z : Int) : List Int := (List.range (m + 1)).map fun t => 48 + dd z (m - t)

/-- How the loop is left: all digits are written. -/
def DigEnd (w : World) (bt bs ba N : Nat) (z : Int) (c : Code) (W : World) : Prop :=
  c = .exit 0 ∧ ∃ m, DigS w bt bs ba N z (m + 1) W ∧ z / T10 (m + 1) = 0 ∧ 0 < z / T10 m

theorem digS_below {w : World} {bt bs ba N : Nat} {z : Int} {m B : Nat} {W W' : World} (h : DigS w bt bs ba N z m W) (hB : Below B W W') (h1 : bt < B) (h2 : bs < B) (h3 : ba < B) (h4 : w.heap.size ≤ B) : DigS w bt bs ba N z m W' := by
  obtain ⟨x, hO, hx, hs, ha, hf, hb⟩ := h
  exact ⟨x, hO.same (hB.block _ h1), hx, (hB.cell (p := ⟨bs, 0, none⟩) h2).trans hs, (hB.cell (p := ⟨ba, 0, none⟩) h3).trans ha, (hB.frozen (p := ⟨ba, 0, none⟩) h3).trans hf, hb.trans (hB.mono h4)⟩

set_option maxHeartbeats 1600000 in
set_option maxRecDepth 100000 in
theorem digitsOf_pos (a : Option Addr) (n cap : Nat) (z : Int) (w : World) (hz : Nr w (.slice a n cap) n z) (hn : n ≤ 100000000) (hpos : 0 < z) :
    Calls Tryd.prog 39 #[.slice a n cap] w fun e w' => ∃ m, e = .returned (.string (strOfNums (dig m z))) ∧ z / T10 (m + 1) = 0 ∧ 0 < z / T10 m ∧ Below w.heap.size w w' := by
  refine (callsIn_wide (n := 5)).1 (callsIn_of_wp_marks Tryd.func39 rfl trivial (wpIn_wide.2 ?_) rfl)
  simp only [Tryd.ntmps39, List.size_toArray, List.length_cons, List.length_nil, Nat.reduceAdd, Nat.reduceSub, Array.replicate_succ, Array.replicate_zero, List.push_toArray, List.append_toArray, List.nil_append, List.cons_append]
  have HZ := Lib.hid hz
  have HP := Lib.hid hpos
  clear hz hpos
  go_wp2_with fail
  go_step3
  go_wp2_with (at_make; refine make8 rfl _ _ _ rfl (by kernel_rfl) (10 * n + 1) _ _ rfl rfl (by omega) (by omega) (by omega) ?_; intro w1 hO hB)
  go_step3
  go_wp2_with fail
  refine (groups_any a n cap _).mono ?_
  rintro e w2 ⟨rfl, rfl⟩
  go_wp2_with fail
  refine (wpIn_wide (n := 5)).1 (range_groups 0 (w1.heap.size + 1 + 1) n cap a z rfl rfl ?hp ?hz hn HP.out
    (fun i W => DigS w w.heap.size w1.heap.size (w1.heap.size + 1) (10 * n + 1) z (9 * i) W) (fun c W => DigEnd w w.heap.size w1.heap.size (w1.heap.size + 1) (10 * n + 1) z c W) ?hI ?hIx ?h0 (fun x s => { tmps := #[.slice a n cap, undef, .string { data := #[] }, .pointer (some ⟨w1.heap.size, 0, none⟩), .pointer (some ⟨w1.heap.size + 1, 0, none⟩), .int .u32 x, s, .slice a n cap, .int .i64 (n : Int), .int .i64 (10 * (n : Int)), .int .i64 (10 * (n : Int) + 1), .slice (some ⟨w.heap.size, 0, none⟩) (10 * n + 1) (10 * n + 1), .slice (some ⟨w.heap.size, 0, none⟩) (10 * n + 1) (10 * n + 1), .int .i64 (10 * (n : Int) + 1), .slice a n cap, .func (.func 86) #[] #[.pointer (some ⟨w1.heap.size + 1 + 1, 0, none⟩)], .int .u32 x, s, undef, undef, undef, undef, undef, undef, undef, undef, undef, undef, undef, undef, undef, undef, undef, undef, undef, undef, undef, undef, undef, undef, undef, undef, undef], defers := [] }) ?assign ?body ?stop)
  case assign =>
    intro l x s W K hK
    gi_wp2
    exact hK
  case hp => simp [go_sem]
  case hz => exact HZ.out.below (((hB.alloc hB.size _).alloc (by have := hB.size; simp; omega) _).alloc (by have := hB.size; simp; omega) _)
  case hI =>
    intro i A B h hb
    have := hB.size
    have := hO.lt
    exact digS_below h hb (by simp; omega) (by simp; omega) (by simp) (by simp; omega)
  case hIx =>
    rintro c A B ⟨h1, m, h2, h3⟩ hb
    have := hB.size
    have := hO.lt
    exact ⟨h1, m, digS_below h2 hb (by simp; omega) (by simp; omega) (by simp) (by simp; omega), h3⟩
  case h0 =>
    have := hB.size
    refine ⟨_, ((hO.same (Below.heap_alloc _ _ _ hO.lt)).same (Below.heap_alloc _ _ _ (by have := hO.lt; simp; omega))).same (Below.heap_alloc _ _ _ (by have := hO.lt; simp; omega)), fun j hj => by omega, ?_, ?_, ?_, ((hB.alloc hB.size _).alloc (by simp; omega) _).alloc (by simp; omega) _⟩
    · simp [go_sem]
    · simp [go_sem]
    · simp [go_sem]
  case body =>
    rintro l i k s W hi hsz hN hz0
    obtain ⟨sa, sc, sx, rfl, _, _, _, _, _⟩ := id hN
    have hz1 := HP.out
    have hk0 : k = 0 ↔ z / G9 (i + 1) = 0 := hN.zero
    have hlt := HZ.out.lt
    have hbt := hO.lt
    have hw1 := hB.size
    have hi0 : Hid (DigS w w.heap.size w1.heap.size (w1.heap.size + 1) (10 * n + 1) z (9 * i + 0) W) := hi
    have S0 : Hid (Kept (w1.heap.size + 3) W W) := ⟨Nat.le_refl _, fun _ _ _ => rfl⟩
    have Z0 := Lib.hid hz0
    have K0 := Lib.hid hk0
    have L0 := Lib.hid hlt
    have B0 := Lib.hid hbt
    have W0 := Lib.hid hw1
    clear hi hN hz0 hk0 hlt hO hB hz1 hbt hw1 hsz
    gi_wp2_with fail
    gi_loopw [5, 18] (fun g j wr => ∃ t : Nat, t ≤ 9 ∧ j = .int .i64 t ∧ g = .int .u32 (z / G9 i % 1000000000 / T10 t) ∧ (t = 0 ∨ Hid (0 < z / T10 (9 * i + t))) ∧ Hid (DigS w w.heap.size w1.heap.size (w1.heap.size + 1) (10 * n + 1) z (9 * i + t) wr) ∧ Hid (Kept (w1.heap.size + 3) W wr)) (fun _ j _ => 9 - (intOf j).toNat)
    case atStart => exact ⟨0, by omega, rfl, by rw [T10_zero, Int.ediv_one], .inl rfl, hi0, S0⟩
    case round =>
      clear hi0 S0
      obtain ⟨t, ht, rfl, rfl, hpos, HD, HK⟩ := hrel
      by_cases h9 : t < 9
      · have hzp : 0 < z / T10 (9 * i + t) := by
          rcases hpos with e | e
          · subst e; rw [Nat.add_zero, ← G9_T10]; exact Z0.out
          · exact e.out
        have hroom := digits_room L0.out hzp
        obtain ⟨q, hq⟩ : ∃ q, 10 * n + 1 = 9 * i + t + (q + 1) := ⟨10 * n + 1 - (9 * i + t) - 1, by omega⟩
        have b0 := B0.out
        obtain ⟨x, hO, hx, hs, ha, hf, hB⟩ := id HD.out
        have S := digS_step HD.out (Nat.le_refl _) b0 (by omega) (show 9 * i + t < 10 * n + 1 by omega)
        have e1 : ((10 * n + 1 : Nat) : Int) - ((9 * i + t : Nat) : Int) = (q : Int) + 1 := by omega
        have e2 : 10 * n + 1 - (9 * i + t) - 1 = q := by omega
        have e3 : (q : Int) + 1 - 1 = (q : Int) := by omega
        rw [e1, e3, e2, ← group_digit z i t h9] at S
        rw [e1] at ha
        have c1 := hO.cell (j := q) (by omega)
        have c2 := hO.free q
        generalize x q = xq at c1
        have d1 : (wr.setCell ⟨w1.heap.size + 1, 0, none⟩ (.int .i64 (q : Int))).cell? ⟨w1.heap.size, 0, none⟩ = some (.slice (some ⟨w.heap.size, 0, none⟩) (10 * n + 1) (10 * n + 1)) := (cell_setOther _ (by simp) _).trans hs
        have d2 : (wr.setCell ⟨w1.heap.size + 1, 0, none⟩ (.int .i64 (q : Int))).cell? ⟨w1.heap.size + 1, 0, none⟩ = some (.int .i64 (q : Int)) := World.cell?_setCell_same' _ _ _ (by rw [ha]; rfl)
        have d3 : (wr.setCell ⟨w1.heap.size + 1, 0, none⟩ (.int .i64 (q : Int))).cell? ⟨w.heap.size, q, none⟩ = some (.int .u8 xq) := (cell_setOther _ (by simp; omega) _).trans c1
        have d4 : (wr.setCell ⟨w1.heap.size + 1, 0, none⟩ (.int .i64 (q : Int))).frozen? ⟨w.heap.size, q, none⟩ = false := by rw [World.frozen?_setCell]; exact c2
        have SH := Lib.hid S
        have HK2 : Hid (Kept (w1.heap.size + 3) W ((wr.setCell ⟨w1.heap.size + 1, 0, none⟩ (.int .i64 (q : Int))).setCell ⟨w.heap.size, q, none⟩ (.int .u8 (48 + z / G9 i % 1000000000 / T10 t % 10)))) :=
          kept_set (kept_set HK.out (a := ⟨w1.heap.size + 1, 0, none⟩) (by simp) _) (a := ⟨w.heap.size, q, none⟩) (by simp; omega) _
        have GE := Lib.hid (group_end z (Int.le_of_lt HP.out) i (t + 1) (by omega))
        have GS := Lib.hid (div_T10_succ (z / G9 i % 1000000000) t)
        have ZP := Lib.hid hzp
        have hlen : q < 10 * n + 1 := by omega
        have hl1 : (q : Int) < 10 * (n : Int) + 1 := by omega
        have hl0 : (0 : Int) ≤ (q : Int) := by omega
        have g0 : 0 ≤ z / G9 i % 1000000000 / T10 t := Int.ediv_nonneg (by omega) (Int.le_of_lt (T10_pos t))
        have g1 : z / G9 i % 1000000000 / T10 t ≤ 999999999 := by
          have := Int.ediv_le_self (T10 t) (show 0 ≤ z / G9 i % 1000000000 by omega)
          omega
        clear S HD HK hO hx hs hB e1 e2 e3 hzp hroom hq hpos c1 c2 b0
        generalize hg : z / G9 i % 1000000000 / T10 t = g at *
        have G := Lib.hid hg
        clear hg
        by_cases hA : g / 10 = 0
        · have hA2 : (g / 10 == 0) = true := by simp [hA]
          by_cases hk : k = 0
          · subst hk
            clear hA
            gi_wp2_with fail
            have hz9 : z / T10 (9 * i + t + 1) = 0 := GE.out.2 ⟨by rw [← GS.out]; simpa using hA2, K0.out.1 (by first | rfl | trivial)⟩
            exact ⟨by simpa [World.size_alloc] using HK2.out, rfl, 9 * i + t, SH.out, hz9, ZP.out⟩
          · have hk2 : ((k : Int) == 0) = false := by simp; omega
            clear hA
            gi_wp2_with fail
            have hnz : z / T10 (9 * i + (t + 1)) ≠ 0 := fun e => hk (K0.out.2 (GE.out.1 e).2)
            have hge : 0 ≤ z / T10 (9 * i + (t + 1)) := Int.ediv_nonneg (Int.le_of_lt HP.out) (Int.le_of_lt (T10_pos _))
            exact ⟨⟨t + 1, by omega, by go_num, by rw [GS.out], .inr (show 0 < _ by omega), SH, HK2⟩, by simp [intOf] <;> omega⟩
        · have hA2 : (g / 10 == 0) = false := by simp [hA]
          gi_wp2_with fail
          have hnz : z / T10 (9 * i + (t + 1)) ≠ 0 := fun e => hA (GS.out.trans (GE.out.1 e).1)
          have hge : 0 ≤ z / T10 (9 * i + (t + 1)) := Int.ediv_nonneg (Int.le_of_lt HP.out) (Int.le_of_lt (T10_pos _))
          exact ⟨⟨t + 1, by omega, by go_num, by rw [GS.out], .inr (show 0 < _ by omega), SH, HK2⟩, by simp [intOf] <;> omega⟩
      · obtain rfl : t = 9 := by omega
        gi_wp2_with fail
        refine ⟨by simpa [World.size_alloc] using HK.out, ?_, ?_⟩
        · have := HD.out; rw [show 9 * i + 9 = 9 * (i + 1) by omega] at this; exact this
        · rcases hpos with e | e
          · omega
          · have := e.out; rw [show 9 * i + 9 = 9 * (i + 1) by omega, ← G9_T10] at this; exact this
  case stop =>
    rintro c W ⟨rfl, m, hD, h1, h2⟩ hdef hsz
    obtain ⟨x, hO', hx, hs, ha, hf, hB'⟩ := hD
    have hroom := digits_room HZ.out.lt h2
    obtain ⟨q, hq⟩ : ∃ q, 10 * n + 1 = (m + 1) + q := ⟨10 * n + 1 - (m + 1), by omega⟩
    have e1 : ((10 * n + 1 : Nat) : Int) - ((m + 1 : Nat) : Int) = (q : Int) := by omega
    rw [e1] at ha
    have hcv : ∀ dst, Tryd.prog.underlying dst = some .string → (convert 85 dst (.slice (some ⟨w.heap.size, q, none⟩) (m + 1) (m + 1))).run Tryd.prog W = .ok (.string (strOfNums (dig m z))) W := by
      refine run_convert_bytes_arg W 85 5 (by kernel_rfl) (by kernel_rfl) w.heap.size q (m + 1) (m + 1) (dig m z) (by simp [dig]) fun j hj => ?_
      rw [hO'.cell (j := q + j) (by omega)]
      have := hx (m - j) (by omega)
      rw [show 10 * n + 1 - 1 - (m - j) = q + j by omega] at this
      simp [dig, List.getD, hj, this]
    have hlen : 10 * n + 1 - q = m + 1 := by omega
    have hcv2 := hcv 9 (by kernel_rfl)
    have hqlt : q < 10 * n + 1 := by omega
    have hq0 : (q : Int) < 10 * (n : Int) + 1 := by omega
    have HD := Lib.hid hdef
    have HS := Lib.hid hsz
    have HB := Lib.hid hB'
    have W0 := Lib.hid hB.size
    clear hcv hdef hsz hO' hx hB hO hB' e1 hroom hq
    dsimp only
    gi_wp2_with fail
    go_wp2_with fail
    rw [Exit.noGoto_ret]
    refine ⟨by simp, .inl ⟨_, _, rfl, run_takeDeferred HD.out, ?_⟩⟩
    refine ⟨_, results_tmp rfl _ _ _, m, rfl, h1, h2, HB.out.trans (below_put _ _ _ _ (by have := W0.out; simp; omega))⟩
end Go.Proofs.YtpkjpepnjlcgoaaDoor
