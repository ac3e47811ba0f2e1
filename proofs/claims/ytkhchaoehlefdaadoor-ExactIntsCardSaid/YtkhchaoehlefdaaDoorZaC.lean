/- The document's digits: contracts of sum, less, order. -/
import Derived.Test.YtkhchaoehlefdaaDoorZaB
set_option linter.unusedVariables false
set_option linter.unusedSimpArgs false
namespace Go.Proofs.YtkhchaoehlefdaaDoor
open Go.RowKit

theorem I64.d {x : Int} (h : 0 ≤ x ∧ x ≤ 65535) : I64 x := by unfold I64; omega

/-! ### sum -/
theorem sum_step {o : List Int} {k : Nat} {c x y Vx Vy s c' : Int} (ho : o.length = k) (h : Vd o + c * Bd k = Vx + Vy) (e : s + c' * 65536 = x + y + c) :
    Vd (o ++ [s]) + c' * Bd (k + 1) = (Vx + x * Bd k) + (Vy + y * Bd k) := by
  rw [Vd_snoc, ho, Bd_succ]
  generalize Vd o = a at *
  generalize Bd k = p at *
  grind
/-- Between two rounds. -/
def SumI (w : World) (l m : List Int) (k : Nat) (v : Value) (c : Int) (wr : World) : Prop :=
  ∃ o, Io w.heap.size wr v o ∧ o.length = k ∧ D16 o ∧ Vd o + c * Bd k = Vk l k + Vk m k ∧ 0 ≤ c ∧ c ≤ 1 ∧ Below w.heap.size w wr
/-- What sum returns. -/
def SumP (w : World) (z : Int) (n : Nat) (e : Ending) (w' : World) : Prop :=
  ∃ a c o, e = .returned (.slice a n c) ∧ InS w' (.slice a n c) o ∧ o.length = n ∧ D16 o ∧ Vd o = z ∧ Below w.heap.size w w'
theorem Io.slice {B : Nat} {W : World} {v : Value} {l : List Int} {n : Nat} (h : Io B W v l) (hn : l.length = n) : ∃ a c, v = .slice a n c ∧ InS W (.slice a n c) l := by
  have := h.ins
  obtain ⟨a, c, e, _⟩ := this.form
  rw [hn] at e
  subst e
  exact ⟨a, c, rfl, this⟩

set_option maxHeartbeats 800000 in
theorem zsum_any (s t : Value) (l m : List Int) (w : World) (hs : InS w s l) (ht : InS w t m) (hl : D16 l) (hm : D16 m) (n : Nat) (hn : max l.length m.length = n) (hb : n ≤ 100000000) :
    Calls Tryd.prog 43 #[s, t] w (SumP w (Vd l + Vd m) (n + 1)) := by
  have HS := Lib.hid hs
  have HT := Lib.hid ht
  obtain ⟨a, ca, rfl, hca⟩ := hs.form
  obtain ⟨b, cb, rfl, hcb⟩ := ht.form
  have HL := Lib.hid hl
  have HM := Lib.hid hm
  clear hs ht hl hm
  have hmx : max (l.length : Int) (m.length : Int) = (n : Int) := by omega
  have h0 : Hid (SumI w l m 0 (.slice none 0 0) 0 w) := Lib.hid ⟨[], Io.nil _ _, rfl, D16_nil, by simp [Vk_zero, Vd_nil], by omega, by omega, Below.refl _ _⟩
  go_enter Tryd.func43, Tryd.ntmps43
  go_wp2_with fail
  go_loopw [5, 6, 7] (fun o c i wr => ∃ (k : Nat) (cc : Int), k ≤ n ∧ i = .int .i64 k ∧ c = .int .i64 cc ∧ Hid (SumI w l m k o cc wr)) (fun _ _ i _ => n - (intOf i).toNat)
  case atStart => exact ⟨0, 0, Nat.zero_le _, rfl, rfl, h0⟩
  case round =>
    clear h0
    obtain ⟨k, cc, hk, rfl, rfl, HI⟩ := hrel
    obtain ⟨o, hO, hlen, hd, hv, c0, c1, hB⟩ := HI.out
    have DA := Lib.hid (fun w' (h : Below wr.heap.size wr w') => digit_any _ l k w' ((HS.out.below hB).below h))
    have DB := Lib.hid (fun w' (h : Below wr.heap.size wr w') => digit_any _ m k w' ((HT.out.below hB).below h))
    have hO' := Lib.hid hO
    have hB' := Lib.hid hB
    have hv' := Lib.hid hv
    have hd' := Lib.hid hd
    clear HI hO hB hv hd
    by_cases hlt : k < n
    · have b1 := HL.out.gI k
      have b2 := HM.out.gI k
      have E1 := Lib.hid (Vk_succ l k)
      have E2 := Lib.hid (Vk_succ m k)
      generalize gI l k = x at *
      generalize gI m k = y at *
      have hI : I64 ((x + y + cc) % 65536) := by unfold I64; omega
      go_wp2_with (first
        | (go_at_call 46; first | ((with_reducible refine (DA.out _ (Below.refl _ _)).mono ?_); rintro e w' ⟨rfl, rfl⟩) | ((with_reducible refine (DB.out _ (Below.refl _ _)).mono ?_); rintro e w' ⟨rfl, rfl⟩))
        | (at_builtin; refine append_one rfl _ _ rfl rfl (hO'.out.below (Below.one _ _)) wr.heap.size ((x + y + cc) % 65536) hI rfl (new_one _ _ _) (by omega) (by have := hB'.out.size; simp; omega) ?_))
      intro v' w' h5 h6
      have S : Hid (SumI w l m (k + 1) v' ((x + y + cc) / 65536) w') := Lib.hid ⟨_, h5, by simp [hlen], hd'.out.snoc (by omega), by
        rw [E1.out, E2.out]; exact sum_step hlen hv'.out (by omega), by omega, by omega, (hB'.out.alloc hB'.out.size _).trans h6⟩
      clear h5 h6 hO' hB' hv' hd' E1 E2 DA DB
      go_wp2
      go_roundw
      case rel => exact ⟨k + 1, _, by omega, by go_num, rfl, S⟩
      case measure => simp [intOf]; omega
    · obtain rfl : k = n := by omega
      have E1 := Lib.hid (Vk_all (l := l) (k := k) (by omega))
      have E2 := Lib.hid (Vk_all (l := m) (k := k) (by omega))
      have hI : I64 cc := by unfold I64; omega
      go_wp2_with (at_builtin; refine append_one rfl _ _ rfl rfl (hO'.out.below (Below.one _ _)) wr.heap.size cc hI rfl (new_one _ _ _) (by omega) (by have := hB'.out.size; simp; omega) ?_)
      intro v' w' h5 h6
      obtain ⟨a2, c2, rfl, h7⟩ := h5.slice (n := k + 1) (by simp [hlen])
      have S : Hid (SumP w (Vd l + Vd m) (k + 1) (.returned (.slice a2 (k + 1) c2)) w') := Lib.hid ⟨a2, c2, _, rfl, h7, by simp [hlen], hd'.out.snoc (by omega), by
        rw [Vd_snoc, hlen, ← E1.out, ← E2.out]; exact hv'.out, (hB'.out.alloc hB'.out.size _).trans h6⟩
      clear h5 h6 h7 hO' hB' hv' hd' E1 E2 DA DB
      go_wp2
      go_ret
      exact S.out

/-! ### less -/
theorem less_step {o : List Int} {k : Nat} {c x y Vx Vy s c' : Int} (ho : o.length = k) (h : Vd o - c * Bd k = Vx - Vy) (e : s - c' * 65536 = x - y - c) :
    Vd (o ++ [s]) - c' * Bd (k + 1) = (Vx + x * Bd k) - (Vy + y * Bd k) := by
  rw [Vd_snoc, ho, Bd_succ]
  generalize Vd o = a at *
  generalize Bd k = p at *
  grind
def LessI (w : World) (l m : List Int) (k : Nat) (v : Value) (c : Int) (wr : World) : Prop :=
  ∃ o, Io w.heap.size wr v o ∧ o.length = k ∧ D16 o ∧ Vd o - c * Bd k = Vk l k - Vk m k ∧ 0 ≤ c ∧ c ≤ 1 ∧ Below w.heap.size w wr
/-- What less returns. -/
def LessP (w : World) (z : Int) (n : Nat) (e : Ending) (w' : World) : Prop :=
  ∃ a c k o, e = .returned (.slice a k c) ∧ InS w' (.slice a k c) o ∧ o.length = k ∧ k ≤ n ∧ D16 o ∧ Nl o ∧ Vd o = z ∧ Below w.heap.size w w'
theorem LessP.z {w : World} {z y : Int} {n : Nat} {e : Ending} {w' : World} (h : LessP w z n e w') (k : z = y) : LessP w y n e w' := k ▸ h

set_option maxHeartbeats 800000 in
theorem less_any (s t : Value) (l m : List Int) (w : World) (hs : InS w s l) (ht : InS w t m) (hl : D16 l) (hm : D16 m) (hml : m.length ≤ l.length) (hv : Vd m ≤ Vd l) (n : Nat) (hn : l.length = n) (hb : n ≤ 100000000) :
    Calls Tryd.prog 45 #[s, t] w (LessP w (Vd l - Vd m) n) := by
  subst hn
  have HS := Lib.hid hs
  have HT := Lib.hid ht
  obtain ⟨a, ca, rfl, hca⟩ := hs.form
  obtain ⟨b, cb, rfl, hcb⟩ := ht.form
  have HL := Lib.hid hl
  have HM := Lib.hid hm
  have HV := Lib.hid hv
  clear hs ht hl hm hv
  have h0 : Hid (LessI w l m 0 (.slice none 0 0) 0 w) := Lib.hid ⟨[], Io.nil _ _, rfl, D16_nil, by simp [Vk_zero, Vd_nil], by omega, by omega, Below.refl _ _⟩
  go_enter Tryd.func45, Tryd.ntmps45
  go_wp2_with fail
  go_loopw [5, 6, 7] (fun o c i wr => ∃ (k : Nat) (cc : Int), k ≤ l.length ∧ i = .int .i64 k ∧ c = .int .i64 cc ∧ Hid (LessI w l m k o cc wr)) (fun _ _ i _ => l.length - (intOf i).toNat)
  case atStart => exact ⟨0, 0, Nat.zero_le _, rfl, rfl, h0⟩
  case round =>
    clear h0
    obtain ⟨k, cc, hk, rfl, rfl, HI⟩ := hrel
    obtain ⟨o, hO, hlen, hd, hv, c0, c1, hB⟩ := HI.out
    have DB := Lib.hid (digit_q _ m k wr (HT.out.below hB))
    have hO' := Lib.hid hO
    have hB' := Lib.hid hB
    have hv' := Lib.hid hv
    have hd' := Lib.hid hd
    by_cases hlt : k < l.length
    · obtain ⟨b1, o1, rfl, hb1, _, c1'⟩ := (HS.out.below hB).at (k := k) (by omega)
      clear HI hO hB hv hd
      have b1 := HL.out.gI k
      have b2 := HM.out.gI k
      have E1 := Lib.hid (Vk_succ l k)
      have E2 := Lib.hid (Vk_succ m k)
      have EX := gI_at (l := l) (i := k) (by omega)
      rw [← EX] at c1'
      clear EX
      generalize gI l k = x at *
      generalize gI m k = y at *
      have hI : I64 ((x - y - cc + 65536) % 65536) := by unfold I64; omega
      have q1 : (k : Int) < (l.length : Int) := by omega
      have q2 : (0 : Int) ≤ (k : Int) := by omega
      have q3 : ((k : Int)).toNat = k := rfl
      have s1 : IntKind.i64.wrap (x - y) = x - y := IntWalk.i64_in _ (by omega)
      have s2 : IntKind.i64.wrap (x - y - cc) = x - y - cc := IntWalk.i64_in _ (by omega)
      have s3 : IntKind.i64.wrap (x - y - cc + 65536) = x - y - cc + 65536 := IntWalk.i64_in _ (by omega)
      go_wp2_with fail
      go_quiet ((go_at_call 46; with_reducible exact Calls.quiet_of_same (DB.out _)))
      have hO2 := Lib.hid (hO'.out.below (below_drewN (Below.refl _ _) nq))
      have hB2 := Lib.hid (below_drewN hB'.out nq)
      clear s1 s2 s3 hO' hB' DB c1' hb1
      generalize wr.drewN nq = wq at *
      clear q1 q2 q3 hI
      have hN0 : 0 ≤ x - y - cc + 65536 := by omega
      have hN1 : x - y - cc + 65536 ≤ 131071 := by omega
      obtain ⟨N, hN⟩ : ∃ N, N = x - y - cc + 65536 := ⟨_, rfl⟩
      rw [← hN] at hN0 hN1 ⊢
      have HN := Lib.hid hN
      clear hN
      have hI : I64 (N % 65536) := by unfold I64; omega
      go_wp2_with (first
        | (at_builtin; refine append_one rfl _ _ rfl rfl (hO2.out.below (Below.one _ _)) wq.heap.size (N % 65536) hI rfl (new_one _ _ _) (by omega) (by have := hB2.out.size; simp; omega) ?_))
      intro v' w' h5 h6
      have S : Hid (LessI w l m (k + 1) v' (1 - N / 65536) w') := Lib.hid ⟨_, h5, by simp [hlen], hd'.out.snoc (by omega), by
        rw [E1.out, E2.out]; exact less_step hlen hv'.out (by have := HN.out; omega), by omega, by omega, (hB2.out.alloc hB2.out.size _).trans h6⟩
      clear h5 h6 hO2 hB2 hv' hd' E1 E2
      go_wp2
      go_roundw
      case rel => exact ⟨k + 1, _, by omega, by go_num, rfl, S⟩
      case measure => simp [intOf]; omega
    · obtain rfl : k = l.length := by omega
      clear HI hO hB hv hd
      have E1 := Lib.hid (Vk_all (l := l) (k := l.length) (by omega))
      have E2 := Lib.hid (Vk_all (l := m) (k := l.length) (by omega))
      obtain ⟨a2, c2, rfl, h7⟩ := hO'.out.slice hlen
      have h7' := Lib.hid h7
      have hlo := Vd_lt hd'.out
      have hc0 : cc = 0 := by
        have hv2 := hv'.out
        have hp := Bd_pos l.length
        have := HV.out
        rw [hlen] at hlo
        rw [E1.out, E2.out] at hv2
        rcases (show cc = 0 ∨ cc = 1 by omega) with h | h
        · exact h
        · rw [h, Int.one_mul] at hv2; omega
      subst hc0
      have hcl := cutL_le o
      have S : ∀ w', wr = w' → LessP w (Vd l - Vd m) l.length (.returned (.slice a2 (cutL o).length c2)) w' := fun w' hw => hw ▸ ⟨a2, c2, _, cutL o, rfl, h7.cut, rfl, by omega, hd'.out.cut, Nl_cut o, by
        have hv2 := hv'.out
        rw [E1.out, E2.out] at hv2
        rw [Vd_cut]; omega, hB'.out⟩
      have S' := Lib.hid S
      have CU := Lib.hid (cut_any a2 c2 o l.length wr h7 (by omega))
      clear S h7 hO' hB' hv' hd' E1 E2 DB hlo
      go_wp2_with (go_at_call 60; refine CU.out.mono ?_; rintro e w' ⟨rfl, rfl⟩)
      go_ret
      exact S'.out _ rfl

/-! ### order -/
set_option maxHeartbeats 800000 in
theorem zorder_any (s t : Value) (l m : List Int) (w : World) (hs : InS w s l) (ht : InS w t m) (hl : D16 l) (hm : D16 m) (hb : l.length ≤ 100000000) (hb2 : m.length ≤ 100000000) :
    Calls Tryd.prog 44 #[s, t] w fun e w' => e = .returned (.int .i64 (ord (Vd l) (Vd m))) ∧ w = w' := by
  have DA := Lib.hid (fun k => digit_any _ l k w hs)
  have DB := Lib.hid (fun k => digit_any _ m k w ht)
  obtain ⟨a, ca, rfl, hca⟩ := hs.form
  obtain ⟨b, cb, rfl, hcb⟩ := ht.form
  have HL := Lib.hid hl
  have HM := Lib.hid hm
  clear hs ht hl hm
  obtain ⟨n, hn⟩ : ∃ n, n = max l.length m.length := ⟨_, rfl⟩
  have hmx : max (l.length : Int) (m.length : Int) = (n : Int) := by omega
  go_enter Tryd.func44, Tryd.ntmps44
  go_wp2_with fail
  go_loop [5] (fun i => ∃ k : Nat, k ≤ n ∧ Hid (Vt l k = Vt m k) ∧ i = .int .i64 ((k : Int) - 1)) (fun i => (intOf i + 1).toNat)
  case atStart => exact ⟨n, Nat.le_refl _, Lib.hid (by rw [Vt_out (by omega), Vt_out (by omega)]), by rw [hn]⟩
  case round =>
    obtain ⟨k, hk, HT, rfl⟩ := hrel
    by_cases hk0 : 0 < k
    · obtain ⟨j, rfl⟩ : ∃ j, k = j + 1 := ⟨k - 1, by omega⟩
      have e0 : ((j + 1 : Nat) : Int) - 1 = (j : Int) := by omega
      rw [e0]
      clear e0
      have DA' := Lib.hid (DA.out j)
      have DB' := Lib.hid (DB.out j)
      have L1 := Lib.hid (fun h => Vd_less HL.out HM.out HT.out (i := j) h)
      have L2 := Lib.hid (fun h => Vd_less HM.out HL.out HT.out.symm (i := j) h)
      have E1 := Lib.hid (Vt_step l j)
      have E2 := Lib.hid (Vt_step m j)
      clear DA DB HL HM
      generalize gI l j = x at *
      generalize gI m j = y at *
      rcases Int.lt_trichotomy x y with h | h | h
      · have hE := Lib.hid (ord_lt (L1.out h))
        clear L1 L2 E1 E2
        go_wp2_with (go_at_call 46; first | ((with_reducible refine DA'.out.mono ?_); rintro e w' ⟨rfl, rfl⟩) | ((with_reducible refine DB'.out.mono ?_); rintro e w' ⟨rfl, rfl⟩))
        go_ret
        exact ⟨ret_int hE.out.symm, rfl⟩
      · subst h
        clear L1 L2
        go_wp2_with (go_at_call 46; first | ((with_reducible refine DA'.out.mono ?_); rintro e w' ⟨rfl, rfl⟩) | ((with_reducible refine DB'.out.mono ?_); rintro e w' ⟨rfl, rfl⟩))
        go_round
        case rel => exact ⟨j, by omega, Lib.hid (by rw [E1.out, E2.out, HT.out]), rfl⟩
        case measure => simp [intOf] <;> omega
      · have hE := Lib.hid (ord_gt (L2.out h))
        clear L1 L2 E1 E2
        go_wp2_with (go_at_call 46; first | ((with_reducible refine DA'.out.mono ?_); rintro e w' ⟨rfl, rfl⟩) | ((with_reducible refine DB'.out.mono ?_); rintro e w' ⟨rfl, rfl⟩))
        go_ret
        exact ⟨ret_int hE.out.symm, rfl⟩
    · obtain rfl : k = 0 := by omega
      have hE := Lib.hid (ord_eq (show Vd l = Vd m from HT.out))
      go_wp2_with fail
      go_ret
      exact ⟨ret_int hE.out.symm, rfl⟩
end Go.Proofs.YtkhchaoehlefdaaDoor
