/- The document's digits: byFew, double. -/
import Derived.Test.YtkhchaoehlefdaaDoorZaF
set_option linter.unusedVariables false
set_option linter.unusedSimpArgs false
set_option maxRecDepth 100000
namespace Go.Proofs.YtkhchaoehlefdaaDoor
open Go.RowKit

/-- What byFew returns. -/
def FewP (w : World) (p d : Int) (n : Nat) (e : Ending) (w' : World) : Prop :=
  ∃ a c k o a2 c2 k2 o2, e = .returned (.tuple #[.slice a k c, .slice a2 k2 c2]) ∧ (InS w' (.slice a k c) o ∧ o.length = k ∧ k ≤ n ∧ D16 o ∧ Nl o ∧ Vd o = p / d) ∧ (InS w' (.slice a2 k2 c2) o2 ∧ o2.length = k2 ∧ k2 ≤ 4 ∧ D16 o2 ∧ Nl o2 ∧ Vd o2 = p % d) ∧ Below w.heap.size w w'

set_option maxHeartbeats 1600000 in
theorem byFew_any (s t : Value) (l m : List Int) (n : Nat) (w : World) (hs : InS w s l) (ht : InS w t m) (hd : D16 l) (hm : D16 m) (hn : l.length = n) (hb : n ≤ 100000000) (hm3 : m.length ≤ 3) (hpos : 0 < Vd m) :
    Calls Tryd.prog 48 #[s, t] w (FewP w (Vd l) (Vd m) n) := by
  have H := Lib.hid hs
  obtain ⟨a, ca, rfl, hca⟩ := hs.form
  have VA := Lib.hid (fun w' (hB : Below w.heap.size w w') => value_any t m w' (ht.below hB) hm hm3)
  have HD := Lib.hid hd
  have hv2 : Vd m < 281474976710656 := by
    have h1 := Vd_lt hm
    have h2 := Bd_mono hm3
    have h3 : Bd 3 = 281474976710656 := by decide
    omega
  obtain ⟨d, hd0⟩ : ∃ d, Vd m = d := ⟨_, rfl⟩
  rw [hd0] at VA hpos hv2 ⊢
  clear hs ht hm hd hd0 hm3
  rw [hn] at H hca ⊢
  have HN := Lib.hid hn
  clear hn
  have hdne : d ≠ 0 := by omega
  go_enter Tryd.func48, Tryd.ntmps48
  go_wp2_with (first
    | (at_make; refine makeI rfl _ _ _ rfl (by kernel_rfl) n _ _ rfl rfl rfl rfl (by omega) ?_; intro w1 hO hB)
    | (go_at_call 71; (with_reducible refine (VA.out _ hB).mono ?_); rintro e w' ⟨rfl, rfl⟩))
  have h0 : Hid (TopI w w.heap.size l d n 0 w1) := Lib.hid ⟨_, hO, by rw [HN.out]; simp, D16_zero _, by rw [Vt_out (by simp), Vt_out (by rw [HN.out]; exact Nat.le_refl _)]; simp, hB⟩
  clear hO hB VA
  go_loopw [8, 9] (fun rv iv wr => ∃ (k : Nat) (r : Int), k ≤ n ∧ iv = .int .i64 ((k : Int) - 1) ∧ rv = .int .u64 r ∧ 0 ≤ r ∧ r < d ∧ Hid (TopI w w.heap.size l d k r wr)) (fun _ iv _ => (intOf iv + 1).toNat)
  case atStart => exact ⟨n, 0, Nat.le_refl _, rfl, rfl, by omega, hpos, h0⟩
  case round =>
    clear h0
    obtain ⟨k, r, hk, rfl, rfl, r0, r1, HI⟩ := hrel
    by_cases hk0 : 0 < k
    · obtain ⟨j, rfl⟩ : ∃ j, k = j + 1 := ⟨k - 1, by omega⟩
      obtain ⟨o, hO, hlen, hd, hv, hB⟩ := HI.out
      obtain ⟨b, off, rfl, hb, _, c⟩ := (H.out.below hB).at (k := j) (by have := HN.out; omega)
      rw [← gI_at (by have := HN.out; omega)] at c
      have e0 : ((j + 1 : Nat) : Int) - 1 = (j : Int) := by omega
      rw [e0]
      clear e0
      have hjo : j < o.length := by have := HN.out; omega
      have cz := hO.cell hjo
      have fz := hO.free j
      have b1 := HD.out.gI j
      have st := Lib.hid (fun x m hx hm => top_step (by_ := d) (x := x) (n := m) hjo hv hx hm)
      have OL := Lib.hid hO
      have HDo := Lib.hid hd
      have HB := Lib.hid hB
      clear hO hd hB hv HI
      generalize hx : gI l j = x at c b1
      have HX := Lib.hid hx
      clear hx
      obtain ⟨M, hM⟩ : ∃ M, M = r * 65536 + x := ⟨_, rfl⟩
      have m0 : 0 ≤ M := by omega
      have m1 : M ≤ d * 65536 - 1 := by omega
      have m2 : M / d ≤ 65535 := by
        have : M / d < 65536 := Int.ediv_lt_of_lt_mul hpos (by omega)
        omega
      have m3 : 0 ≤ M / d := Int.ediv_nonneg m0 (Int.le_of_lt hpos)
      have m4 : 0 ≤ M % d := Int.emod_nonneg _ hdne
      have m5 : M % d < d := Int.emod_lt_of_pos _ hpos
      have S : Hid (TopI w w.heap.size l d j (M % d) (wr.setCell ⟨w.heap.size, j, none⟩ (.int .i64 (M / d)))) := Lib.hid ⟨o.set j (M / d), OL.out.set _ _, by rw [List.length_set]; exact hlen, HDo.out.set _ ⟨m3, m2⟩, st.out x M HX.out hM, HB.out.setCell (p := ⟨w.heap.size, j, none⟩) (Nat.le_refl _) _⟩
      rw [hM] at S m2 m3 m4 m5 m0 m1
      clear st OL HDo HB HX hM M H HD
      go_wp2_with fail
      go_roundw
      case rel => exact ⟨j, _, by omega, rfl, rfl, m4, m5, S⟩
      case measure => simp [intOf] <;> omega
    · obtain rfl : k = 0 := by omega
      obtain ⟨o, hO, hlen, hd, hv, hr, hB⟩ := TopI.done HI.out r0 r1
      have hI := hO.ins (n := n) (cap := n) (by rw [hlen, HN.out]) (Nat.le_refl _) hd
      have CU := Lib.hid (cut_any _ _ o n _ hI (by omega))
      have SP := Lib.hid (zsplit_any r wr ⟨r0, by omega⟩)
      have hk2 : (cutL o).length ≤ n := by have := cutL_le o; have := HN.out; omega
      have S : ∀ a2 c2 k2 o2 w', InS w' (.slice a2 k2 c2) o2 → o2.length = k2 → k2 ≤ 4 → D16 o2 → Nl o2 → Vd o2 = r → Below wr.heap.size wr w' → FewP w (Vd l) d n (.returned (.tuple #[.slice (some ⟨w.heap.size, 0, none⟩) (cutL o).length n, .slice a2 k2 c2])) w' :=
        fun a2 c2 k2 o2 w' g1 g2 g3 g4 g5 g6 g7 => ⟨_, n, _, cutL o, a2, c2, k2, o2, rfl, ⟨hI.cut.below g7, rfl, hk2, hd.cut, Nl_cut o, by rw [Vd_cut, hv]⟩, ⟨g1, g2, g3, g4, g5, by rw [g6, hr]⟩, hB.trans (g7.mono hB.size)⟩
      have S' := Lib.hid S
      clear S hO hlen hd hv hr hB hI HI
      go_wp2_with (first
        | (go_at_call 60; (with_reducible refine CU.out.mono ?_); rintro e w' ⟨rfl, rfl⟩)
        | (go_at_call 72; (with_reducible refine SP.out.mono ?_); rintro e w' ⟨a2, c2, k2, o2, rfl, g1, g2, g3, g4, g5, g6, g7⟩))
      have F := S'.out a2 c2 k2 o2 _ g1 g2 g3 g4 g5 g6 g7
      clear S' CU SP g1
      go_ret2
      exact F

/-! ### double -/
def DblI (w : World) (l : List Int) (bit : Int) (k : Nat) (v : Value) (c : Int) (wr : World) : Prop :=
  ∃ o, Io w.heap.size wr v o ∧ o.length = k ∧ D16 o ∧ Vd o + c * Bd k = 2 * Vk l k + bit ∧ 0 ≤ c ∧ c ≤ 1 ∧ Below w.heap.size w wr
theorem dbl_step {o : List Int} {k : Nat} {c x V s c' bit : Int} (ho : o.length = k) (h : Vd o + c * Bd k = 2 * V + bit) (e : s + c' * 65536 = 2 * x + c) :
    Vd (o ++ [s]) + c' * Bd (k + 1) = 2 * (V + x * Bd k) + bit := by
  rw [Vd_snoc, ho, Bd_succ]
  generalize Vd o = a at *
  generalize Bd k = p at *
  grind
set_option maxHeartbeats 1600000 in
theorem double_zany (s : Value) (l : List Int) (n : Nat) (bit : Int) (w : World) (hs : InS w s l) (hl : D16 l) (hn : l.length = n) (hb : n ≤ 100000000) (hbit : 0 ≤ bit ∧ bit ≤ 1) :
    Calls Tryd.prog 51 #[s, .int .i64 bit] w (LessP w (2 * Vd l + bit) (n + 1)) := by
  have HS := Lib.hid hs
  obtain ⟨a, ca, rfl, hca⟩ := hs.form
  have HL := Lib.hid hl
  obtain ⟨bit0, bit1⟩ := hbit
  clear hs hl
  rw [hn] at HS hca ⊢
  have HN := Lib.hid hn
  clear hn
  have h0 : Hid (DblI w l bit 0 (.slice none 0 0) bit w) := Lib.hid ⟨[], Io.nil _ _, rfl, D16_nil, by rw [Vd_nil, Vk_zero, Bd_zero]; omega, bit0, bit1, Below.refl _ _⟩
  go_enter Tryd.func51, Tryd.ntmps51
  go_wp2_with fail
  go_loopw [5, 6, 7] (fun o c i wr => ∃ (k : Nat) (cc : Int), k ≤ n ∧ i = .int .i64 k ∧ c = .int .i64 cc ∧ Hid (DblI w l bit k o cc wr)) (fun _ _ i _ => n - (intOf i).toNat)
  case atStart => exact ⟨0, bit, Nat.zero_le _, rfl, rfl, h0⟩
  case round =>
    clear h0
    obtain ⟨k, cc, hk, rfl, rfl, HI⟩ := hrel
    obtain ⟨o, hO, hlen, hd, hv, c0, c1, hB⟩ := HI.out
    have hO' := Lib.hid hO
    have hB' := Lib.hid hB
    have hv' := Lib.hid hv
    have hd' := Lib.hid hd
    by_cases hlt : k < n
    · obtain ⟨b1, o1, rfl, hb1, _, c1'⟩ := (HS.out.below hB).at (k := k) (by have := HN.out; omega)
      rw [← gI_at (by have := HN.out; omega)] at c1'
      clear HI hO hB hv hd
      have b1 := HL.out.gI k
      have E1 := Lib.hid (Vk_succ l k)
      generalize gI l k = x at *
      have hI : I64 ((2 * x + cc) % 65536) := by unfold I64; omega
      go_wp2_with (at_builtin; refine append_one rfl _ _ rfl rfl (hO'.out.below (Below.one _ _)) wr.heap.size ((2 * x + cc) % 65536) hI rfl (new_one _ _ _) (by omega) (by have := hB'.out.size; simp; omega) ?_)
      intro v' w' h5 h6
      have S : Hid (DblI w l bit (k + 1) v' ((2 * x + cc) / 65536) w') := Lib.hid ⟨_, h5, by simp [hlen], hd'.out.snoc (by omega), by
        rw [E1.out]; exact dbl_step hlen hv'.out (by omega), by omega, by omega, (hB'.out.alloc hB'.out.size _).trans h6⟩
      clear h5 h6 hO' hB' hv' hd' E1 c1'
      go_wp2
      go_roundw
      case rel => exact ⟨k + 1, _, by omega, by go_num, rfl, S⟩
      case measure => simp [intOf]; omega
    · obtain rfl : k = n := by omega
      clear HI hO hB hv hd
      have E1 := Lib.hid (Vk_all (l := l) (k := k) (by rw [HN.out]; exact Nat.le_refl _))
      have hI : I64 cc := by unfold I64; omega
      go_wp2_with (at_builtin; refine append_one rfl _ _ rfl rfl (hO'.out.below (Below.one _ _)) wr.heap.size cc hI rfl (new_one _ _ _) (by omega) (by have := hB'.out.size; simp; omega) ?_)
      intro v' w' h5 h6
      obtain ⟨a2, c2, rfl, h7⟩ := h5.slice (n := k + 1) (by simp [hlen])
      have hk2 : (cutL (o ++ [cc])).length ≤ k + 1 := by have := cutL_le (o ++ [cc]); simp [hlen] at this; exact this
      have CU := Lib.hid (cut_any _ _ _ _ _ h7 (by omega))
      have S : ∀ w2, w' = w2 → LessP w (2 * Vd l + bit) (k + 1) (.returned (.slice a2 (cutL (o ++ [cc])).length c2)) w2 := fun w2 hw => hw ▸ ⟨a2, c2, _, cutL (o ++ [cc]), rfl, h7.cut, rfl, hk2, (hd'.out.snoc (by omega)).cut, Nl_cut _, by
        rw [Vd_cut, Vd_snoc, hlen, ← E1.out]; exact hv'.out, (hB'.out.alloc hB'.out.size _).trans h6⟩
      have S' := Lib.hid S
      clear S h5 h6 h7 hO' hB' hv' hd' E1
      go_wp2_with (go_at_call 60; (with_reducible refine CU.out.mono ?_); rintro e w' ⟨rfl, rfl⟩)
      go_ret
      exact S'.out _ rfl
end Go.Proofs.YtkhchaoehlefdaaDoor
