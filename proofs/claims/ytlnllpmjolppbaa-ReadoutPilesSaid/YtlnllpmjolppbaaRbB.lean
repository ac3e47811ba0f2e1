/- Layer 5: the law ReadoutPiles. -/
import Derived.Test.YtlnllpmjolppbaaRbA
set_option linter.unusedVariables false
set_option linter.unusedSimpArgs false
set_option maxRecDepth 100000
namespace Go.Proofs.Ytlnllpmjolppbaa
open Go.RowKit

/-- Hits by rising addresses. -/
def Rise (l : Hits) : Prop := ∀ i j (h1 : i < l.length) (h2 : j < l.length), i < j → l[i].1 < l[j].1
theorem supE_mem {l : List Int} {p q : Int} {d : List Int} {i : Nat} {x : Int × Int} (h : x ∈ supE l p q d i) : x.1 = (i : Int) ∧ x.2 = getI l i - p ∧ q < x.2 ∧ dead d i = false := by
  unfold supE at h
  split at h
  · next hc =>
    simp only [List.mem_singleton] at h
    subst h
    simp at hc
    exact ⟨rfl, rfl, hc.2, by simpa using hc.1⟩
  · cases h
theorem supL_mem {l : List Int} {p q : Int} {d : List Int} {k : Nat} {x : Int × Int} (h : x ∈ supL l p q d k) : ∃ i, i < k ∧ x ∈ supE l p q d i := by
  unfold supL at h
  rw [List.mem_flatMap] at h
  obtain ⟨i, hi, hx⟩ := h
  exact ⟨i, List.mem_range.1 hi, hx⟩
theorem supL_mk {l : List Int} {p q : Int} {d : List Int} {k i : Nat} (hi : i < k) (hd : dead d i = false) (hq : q < getI l i - p) : ((i : Int), getI l i - p) ∈ supL l p q d k := by
  unfold supL
  rw [List.mem_flatMap]
  refine ⟨i, List.mem_range.2 hi, ?_⟩
  unfold supE
  rw [hd, decide_eq_true hq]
  exact List.mem_singleton.2 rfl
theorem supL_rise (l : List Int) (p q : Int) (d : List Int) : ∀ k, (supL l p q d k).Pairwise (fun x y => x.1 < y.1)
  | 0 => by simp [supL]
  | k + 1 => by
    rw [supL_succ, List.pairwise_append]
    refine ⟨supL_rise l p q d k, ?_, fun x hx y hy => ?_⟩
    · unfold supE; split <;> simp
    · obtain ⟨i, hi, hx'⟩ := supL_mem hx
      rw [(supE_mem hx').1, (supE_mem hy).1]
      omega
theorem supH_rise (l : List Int) (p q : Int) (d : List Int) : Rise (supH l p q d) := by
  have h : (supH l p q d).Pairwise (fun x y => x.1 < y.1) := by
    unfold supH
    split
    · exact supL_rise l p q d _
    · exact List.Pairwise.nil
  intro i j h1 h2 hij
  exact List.pairwise_iff_getElem.1 h i j h1 h2 hij
theorem dead_nil (i : Nat) : dead [] i = false := by simp [dead]
/-- A hit of one is a hit of both. -/
theorem pile_hit {a b : List Int} {t : Int} (h0 : pilErr a b = 0) (h1 : supErr a 0 t = 0) (h2 : supErr (pilR a b) 0 t = 0) {x : Int × Int} (hx : x ∈ supH a 0 t []) : ∃ y ∈ supH (pilR a b) 0 t [], y.1 = x.1 ∧ x.2 ≤ y.2 := by
  unfold supH at hx ⊢
  rw [if_pos h1] at hx
  rw [if_pos h2]
  obtain ⟨i, hi, hx'⟩ := supL_mem hx
  obtain ⟨e1, e2, e3, e4⟩ := supE_mem hx'
  have hp : pilR a b = pilL a b (max a.length b.length) := by unfold pilR; rw [if_pos h0]
  have hm : allM a = true ∧ allM b = true := by
    unfold pilErr at h0
    split at h0
    · cases h0
    · split at h0
      · next hc => simpa using hc
      · cases h0
  have hl : i < (pilL a b (max a.length b.length)).length := by rw [pilL_len]; omega
  have hg : getI (pilL a b (max a.length b.length)) i = pilE a b i := by rw [getI_at _ _ hl, pilL_at]
  have g1 := getI_bd hm.1 i
  have g2 := getI_bd hm.2 i
  have hge : getI a i ≤ pilE a b i := by unfold pilE; omega
  refine ⟨_, supL_mk (i := i) (by rw [hp]; exact hl) (dead_nil _) (by rw [hp, hg]; omega), ?_, ?_⟩
  · rw [e1]
  · rw [hp, hg, e2]; omega
/-- Where the hits lie. -/
def Places (l m : Hits) (J : Nat → Nat) : Prop := ∀ k (h : k < l.length), ∃ h2 : J k < m.length, (m[J k]).1 = (l[k]).1 ∧ (l[k]).2 ≤ (m[J k]).2 ∧ (∀ t (h3 : t < m.length), t < J k → (m[t]).1 < (l[k]).1) ∧ (k + 1 < l.length → J k ≤ J (k + 1))
theorem places {l m : Hits} (hl : Rise l) (hm : Rise m) (h : ∀ x ∈ l, ∃ y ∈ m, y.1 = x.1 ∧ x.2 ≤ y.2) : ∃ J, Places l m J := by
  have ex : ∀ k, ∃ j, ∀ (hk : k < l.length), ∃ hj : j < m.length, (m[j]).1 = (l[k]).1 ∧ (l[k]).2 ≤ (m[j]).2 := fun k => by
    by_cases hk : k < l.length
    · obtain ⟨y, hy, h1, h2⟩ := h l[k] (List.getElem_mem hk)
      obtain ⟨j, hj, e⟩ := List.getElem_of_mem hy
      exact ⟨j, fun _ => ⟨hj, by rw [e]; exact h1, by rw [e]; exact h2⟩⟩
    · exact ⟨0, fun hk' => absurd hk' hk⟩
  refine ⟨fun k => Classical.choose (ex k), fun k hk => ?_⟩
  obtain ⟨hj, h1, h2⟩ := Classical.choose_spec (ex k) hk
  refine ⟨hj, h1, h2, fun t h3 ht => ?_, fun hk' => ?_⟩
  · rw [← h1]; exact hm t _ h3 hj ht
  · obtain ⟨hj', h1', _⟩ := Classical.choose_spec (ex (k + 1)) hk'
    refine Nat.le_of_not_lt fun hlt => ?_
    have a1 := hm _ _ hj' hj hlt
    have a2 := hl k (k + 1) hk hk' (by omega)
    rw [h1, h1'] at a1
    omega
theorem pile_places {a b : List Int} {t : Int} (h0 : pilErr a b = 0) (h1 : supErr a 0 t = 0) (h2 : supErr (pilR a b) 0 t = 0) : ∃ J, Places (supH a 0 t []) (supH (pilR a b) 0 t []) J :=
  places (supH_rise _ _ _ _) (supH_rise _ _ _ _) fun _ hx => pile_hit h0 h1 h2 hx
theorem pilR_len (a b : List Int) : (pilR a b).length ≤ max a.length b.length := by
  unfold pilR
  split
  · rw [pilL_len]; exact Nat.le_refl _
  · exact Nat.zero_le _

set_option maxHeartbeats 6400000 in
theorem piles_any (va vb : Value) (l m : List Int) (t : Int) (w : World) (ha : InS w va l) (hb : InS w vb m) (ht : I64 t) :
    Calls Try.prog 4 #[va, vb, .int .i64 t] w fun e w' => e = .returned (.bool true) ∧ Below w.heap.size w w' := by
  have HA := Lib.hid ha
  have HB := Lib.hid hb
  have AW := Lib.hid awake_any
  obtain ⟨a, ca, rfl, _⟩ := ha.form
  obtain ⟨b, cb, rfl, _⟩ := hb.form
  clear ha hb
  have hns : (5000 : Int) < (l.length : Int) ∨ ¬ (5000 : Int) < (l.length : Int) ∧ (5000 : Int) < (m.length : Int) ∨ (¬ (5000 : Int) < (l.length : Int) ∧ ¬ (5000 : Int) < (m.length : Int)) := by omega
  rcases hns with i1 | ⟨i1, i2⟩ | ⟨i1, i2⟩
  iterate 2
    · go_enter Try.func4, Try.ntmps4
      go_wp2_with (refine (AW.out _).mono ?_; rintro e w2 ⟨rfl, b2⟩)
      go_ret
      exact ⟨rfl, b2⟩
  have P1 := Lib.hid (Pile_any _ _ l m w HA.out HB.out (by omega) (by omega))
  go_enter Try.func4, Try.ntmps4
  go_wp2_with fail
  refine P1.out.mono ?_
  rintro e w1 ⟨v1, rfl, h1, b1⟩
  have I1 := Lib.hid h1.ins
  obtain ⟨a1, k1, e1, _⟩ := h1.ins.form
  subst e1
  have HA1 := Lib.hid (HA.out.below b1)
  have HB1 := Lib.hid (HB.out.below b1)
  have B1 := Lib.hid b1
  have P2 := Lib.hid (Pile_any _ _ m l w1 HB1.out HA1.out (by omega) (by omega))
  clear h1 b1 P1 HA HB
  go_wp2_with fail
  refine P2.out.mono ?_
  rintro e w2 ⟨v2, rfl, h2, b2⟩
  rw [pilErr_comm m l]
  rw [pilR_comm m l] at h2
  have J2 := Lib.hid h2.ins
  obtain ⟨a2, k2, e2, _⟩ := h2.ins.form
  subst e2
  have I2 := Lib.hid (I1.out.below b2)
  have HA2 := Lib.hid (HA1.out.below b2)
  have HB2 := Lib.hid (HB1.out.below b2)
  have B2 := Lib.hid (Below.up B1.out b2)
  have P3 := Lib.hid (refPile_any _ _ l m w2 HA2.out HB2.out (by omega) (by omega))
  clear h2 b2 P2 HA1 HB1 B1 I1
  go_wp2_with fail
  refine P3.out.mono ?_
  rintro e w3 ⟨v3, rfl, h3, b3⟩
  have K3 := Lib.hid h3.ins
  obtain ⟨a3, k3, e3, _⟩ := h3.ins.form
  subst e3
  have J3 := Lib.hid (J2.out.below b3)
  have I3 := Lib.hid (I2.out.below b3)
  have HA3 := Lib.hid (HA2.out.below b3)
  have B3 := Lib.hid (Below.up B2.out b3)
  have hpl := pilR_len l m
  have Q1 := Lib.hid (Ints_any _ _ _ _ w3 I3.out J3.out (by omega))
  clear h3 b3 P3 HA2 HB2 B2 I2 J2 J3
  have PP := Lib.hid (fun h0 h1 h2 => pile_places (a := l) (b := m) (t := t) h0 h1 h2)
  generalize hpe : pilErr l m = pe at *
  generalize hpr : pilR l m = pr at *
  clear hpr hpe
  go_wp2_with fail
  refine Q1.out.mono ?_
  rintro e w4 ⟨rfl, b4⟩
  rw [show decide True = true from rfl]
  have Q2 := Lib.hid (Ints_any _ _ _ _ w4 (I3.out.below b4) (K3.out.below b4) (by omega))
  have I4 := Lib.hid (I3.out.below b4)
  have HA4 := Lib.hid (HA3.out.below b4)
  have B4 := Lib.hid (Below.up B3.out b4)
  clear b4 Q1 I3 K3 HA3 B3
  go_wp2_with fail
  refine Q2.out.mono ?_
  rintro e w5 ⟨rfl, b5⟩
  rw [show decide True = true from rfl]
  have S1 := Lib.hid (Suppress_any _ _ l [] 0 t w5 (HA4.out.below b5) (InS.nil w5) (by omega) (by decide) (by simp [I64]) ht)
  have I5 := Lib.hid (I4.out.below b5)
  have B5 := Lib.hid (Below.up B4.out b5)
  clear b5 Q2 I4 HA4 B4
  go_wp2_with fail
  refine S1.out.mono ?_
  rintro e w6 ⟨v6, rfl, h6, b6⟩
  have L6 := Lib.hid h6.hi
  obtain ⟨a6, k6, e6, _⟩ := h6.hi.form
  subst e6
  have hl6 := supH_len l 0 t []
  have S2 := Lib.hid (Suppress_any _ _ pr [] 0 t w6 (I5.out.below b6) (InS.nil w6) (by omega) (by decide) (by simp [I64]) ht)
  have B6 := Lib.hid (Below.up B5.out b6)
  clear h6 b6 S1 I5 B5
  go_wp2_with fail
  refine S2.out.mono ?_
  rintro e w7 ⟨v7, rfl, h7, b7⟩
  have M7 := Lib.hid h7.hi
  obtain ⟨a7, k7, e7, _⟩ := h7.hi.form
  subst e7
  have L7 := Lib.hid (L6.out.below b7)
  have B7 := Lib.hid (Below.up B6.out b7)
  have hl7 := supH_len pr 0 t []
  clear h7 b7 S2 L6 B6
  generalize supErr l 0 t = x1 at *
  generalize supErr pr 0 t = x2 at *
  generalize supH l 0 t [] = p1 at *
  generalize supH pr 0 t [] = p2 at *
  have hns : (¬ pe = 0) ∨ (pe = 0 ∧ ¬ x1 = 0) ∨ (pe = 0 ∧ x1 = 0 ∧ ¬ x2 = 0) ∨ (pe = 0 ∧ x1 = 0 ∧ x2 = 0) := by omega
  rcases hns with j1 | ⟨rfl, j1⟩ | ⟨rfl, rfl, j1⟩ | ⟨rfl, rfl, rfl⟩
  iterate 3
    · go_wp2_with fail
      refine (AW.out _).mono ?_
      rintro e w8 ⟨rfl, b8⟩
      go_wp2_with fail
      go_ret
      exact ⟨rfl, Below.up B7.out b8⟩
  obtain ⟨J, hJ⟩ := PP.out rfl rfl rfl
  have HJ := Lib.hid hJ
  clear PP hJ
  go_wp2_with fail
  go_loopw [17, 18] (fun s i wr => ∃ (k q : Nat), k ≤ p1.length ∧ i = .int .i64 k ∧ s = .int .i64 q ∧ Hid (k < p1.length → q ≤ J k) ∧ Hid (Below w7.heap.size w7 wr)) (fun _ i _ => p1.length - (intOf i).toNat)
  case atStart => exact ⟨0, 0, Nat.zero_le _, rfl, rfl, Lib.hid (fun _ => Nat.zero_le _), Lib.hid (Below.refl _ _)⟩
  case round =>
    obtain ⟨k, q, hk, rfl, rfl, HQ, BL⟩ := hrel
    by_cases hlt : k < p1.length
    · obtain ⟨hj, h1, h2, h3, h4⟩ := HJ.out k hlt
      have H4 := Lib.hid h4
      have hq := HQ.out hlt
      obtain ⟨b1, o1, rfl, hb1, ⟨hi1, hi1'⟩, c1, c1'⟩ := (L7.out.below BL.out).at hlt
      obtain ⟨b2, o2, rfl, hb2, ⟨hi2, hi2'⟩, d1, d1'⟩ := (M7.out.below BL.out).at hj
      have H3 := Lib.hid h3
      generalize J k = jk at *
      clear h3 h4
      obtain ⟨A1, hA1⟩ : ∃ x, x = (p1[k]).1 := ⟨_, rfl⟩
      obtain ⟨A2, hA2⟩ : ∃ x, x = (p1[k]).2 := ⟨_, rfl⟩
      obtain ⟨E2, hE2⟩ : ∃ x, x = (p2[jk]).2 := ⟨_, rfl⟩
      have H1 := Lib.hid h1
      rw [← hA1] at c1 hi1 h1
      rw [← hA2] at c1' hi1' h2
      rw [h1] at d1 hi2
      rw [← hE2] at d1' hi2' h2
      have HA1 := Lib.hid hA1
      clear h1 hA1 hA2 hE2
      go_wp2_with fail
      go_loopw [17] (fun s wr2 => ∃ (r : Nat), r ≤ jk ∧ s = .int .i64 r ∧ Hid (Below wr.heap.size wr wr2)) (fun s _ => jk - (intOf s).toNat)
      case atStart => exact ⟨q, hq, rfl, Lib.hid (Below.refl _ _)⟩
      case round =>
        obtain ⟨r, hr, rfl, BR⟩ := hrel
        replace c1 := bc BR.out c1
        replace c1' := bc BR.out c1'
        replace d1 := bc BR.out d1
        replace d1' := bc BR.out d1'
        by_cases hrj : r < jk
        · have hr2 : r < p2.length := by omega
          obtain ⟨b3, o3, e3, hb3, ⟨hi3, -⟩, g1, -⟩ := (M7.out.below (Below.up BL.out BR.out)).at hr2
          cases e3
          have hlt3 := H3.out r hr2 hrj
          rw [← HA1.out] at hlt3
          generalize (p2[r]).1 = y at *
          go_wp2_with fail
          go_region
          go_wp2_with fail
          go_roundw
          case rel => exact ⟨r + 1, by omega, by go_num, Lib.hid (BR.out.drew)⟩
          case measure => simp [intOf]; omega
        · obtain rfl : r = jk := by omega
          go_wp2_with fail
          go_region
          go_wp2_with fail
          have hne : ((r : Int) == (p2.length : Int)) = false := by simp; omega
          have hge : ¬ E2 < A2 := by omega
          go_region
          go_wp2_with fail
          go_roundw
          case rel => exact ⟨k + 1, r, by omega, by go_num, rfl, H4, Lib.hid (Below.up BL.out (BR.out.drew.drew))⟩
          case measure => simp [intOf]; omega
    · obtain rfl : k = p1.length := by omega
      go_wp2_with fail
      refine (AW.out _).mono ?_
      rintro e w8 ⟨rfl, b8⟩
      go_wp2_with fail
      go_ret
      exact ⟨rfl, Below.up B7.out (Below.up BL.out b8)⟩
end Go.Proofs.Ytlnllpmjolppbaa
