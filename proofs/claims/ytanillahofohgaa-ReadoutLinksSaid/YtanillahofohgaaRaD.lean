/- Layer 5: are two lists the same? -/
import Derived.Test.YtanillahofohgaaRaC
set_option linter.unusedVariables false
set_option linter.unusedSimpArgs false
namespace Go.Proofs.Ytanillahofohgaa
open Go.RowKit

theorem eqInt (d : Nat) (a x : Int) (w : World) : (Op.equalIn (d + 1) 3 (.int .i64 a) (.int .i64 x)).run Try.prog w = .ok (a == x) w := run_equalIn_int w d 3 .i64 .i64 a x Try.underlying3
theorem raEq (a b x y : Int) (w : World) : (Op.equalIn 10000 35 (.agg #[.int .i64 a, .int .i64 b]) (.agg #[.int .i64 x, .int .i64 y])).run Try.prog w = .ok (a == x && b == y) w := by
  have p0 : ∀ (u v : Int) w, (part 3 #[.int .i64 u, .int .i64 v] 0).run Try.prog w = .ok (.int .i64 u) w := fun _ _ _ => by kernel_rfl
  have p1 : ∀ (u v : Int) w, (part 3 #[.int .i64 u, .int .i64 v] 1).run Try.prog w = .ok (.int .i64 v) w := fun _ _ _ => by kernel_rfl
  have q : ∀ (u v : Int) w, (Op.equalIn 9999 3 (.int .i64 u) (.int .i64 v)).run Try.prog w = .ok (u == v) w := fun u v w => eqInt 9998 u v w
  have hu := Try.underlying35
  rw [show (10000 : Nat) = 9999 + 1 from rfl, run_equalIn_struct w 9999 35 _ _ (by rw [hu]; simp [Program.fieldsOf, hu]) (by kernel_rfl)]
  simp only [Program.fieldsOf, hu, Op.eqFields]
  simp only [ne_eq, Sem.run_bind, p0, p1, q, Result.andThen_ok]
  by_cases h1 : a = x <;> by_cases h2 : b = y <;> simp [h1, h2, p0, p1, q, Op.eqFields]
attribute [local go_sem] raEq

theorem len_ne {α : Type} [DecidableEq α] {l m : List α} (h : ¬ l.length = m.length) : decide (l = m) = false := decide_eq_false fun e => h (by rw [e])
theorem same_all {α : Type} [DecidableEq α] {l m : List α} (hl : l.length = m.length) (h : ∀ i (h1 : i < l.length) (h2 : i < m.length), l[i] = m[i]) : l = m := List.ext_getElem hl h

set_option maxRecDepth 20000 in
set_option maxHeartbeats 800000 in
theorem Ints_any (va vb : Value) (l m : List Int) (w : World) (ha : InS w va l) (hb : InS w vb m) (hl : l.length ≤ 1099511627776) :
    Calls Try.prog 17 #[va, vb] w fun e w' => e = .returned (.bool (decide (l = m))) ∧ Below w.heap.size w w' := by
  have HA := Lib.hid ha
  have HB := Lib.hid hb
  obtain ⟨a, ca, rfl, hca⟩ := ha.form
  obtain ⟨b, cb, rfl, hcb⟩ := hb.form
  clear ha hb
  by_cases hlm : l.length = m.length
  · go_enter Try.func17, Try.ntmps17
    go_wp2_with fail
    go_loopw [5] (fun i wr => ∃ k : Nat, k ≤ l.length ∧ i = .int .i64 k ∧ Hid (∀ j (h1 : j < l.length) (h2 : j < m.length), j < k → l[j] = m[j]) ∧ Hid (Below w.heap.size w wr)) (fun i _ => l.length - (intOf i).toNat)
    case atStart => exact ⟨0, Nat.zero_le _, rfl, Lib.hid (fun j _ _ h => absurd h (by omega)), Lib.hid (Below.refl _ _)⟩
    case round =>
      obtain ⟨k, hk, rfl, HE, BL⟩ := hrel
      by_cases hlt : k < l.length
      · obtain ⟨b1, o1, rfl, hb1, hi1, c1⟩ := (HA.out.below BL.out).at hlt
        have hlt2 : k < m.length := by omega
        obtain ⟨b2, o2, rfl, hb2, hi2, c2⟩ := (HB.out.below BL.out).at hlt2
        obtain ⟨x, hx⟩ : ∃ x, x = l[k] := ⟨_, rfl⟩
        obtain ⟨y, hy⟩ : ∃ y, y = m[k] := ⟨_, rfl⟩
        rw [← hx] at c1 hi1
        rw [← hy] at c2 hi2
        by_cases hxy : x = y
        · have HE2 : Hid (∀ j (h1 : j < l.length) (h2 : j < m.length), j < k + 1 → l[j] = m[j]) := Lib.hid fun j h1 h2 h3 => by
            by_cases hjk : j = k
            · subst hjk; rw [← hx, ← hy, hxy]
            · exact HE.out j h1 h2 (by omega)
          subst hxy
          clear hx hy
          go_wp2_with fail
          go_region
          go_wp2_with fail
          go_roundw
          case rel => exact ⟨k + 1, by omega, by go_num, HE2, Lib.hid (BL.out.drew)⟩
          case measure => simp [intOf]; omega
        · have hne : Hid (l ≠ m) := Lib.hid (by rintro rfl; exact hxy (hx.trans hy.symm))
          have hxy2 : (x == y) = false := by simpa using hxy
          clear hx hy
          go_wp2_with fail
          go_region
          go_wp2_with fail
          go_ret
          exact ⟨ret_bool (by simp [hne.out]), BL.out.drew⟩
      · obtain rfl : k = l.length := by omega
        have he : Hid (l = m) := Lib.hid (same_all hlm fun i h1 h2 => HE.out i h1 h2 h1)
        go_wp2_with fail
        go_ret
        exact ⟨ret_bool (by simp [he.out]), BL.out⟩
  · have hn := Lib.hid (len_ne hlm)
    go_enter Try.func17, Try.ntmps17
    go_wp2_with fail
    go_ret
    exact ⟨ret_bool (by rw [hn.out]), Below.refl _ _⟩

set_option maxRecDepth 20000 in
set_option maxHeartbeats 800000 in
theorem SameHits_any (va vb : Value) (l m : Hits) (w : World) (ha : HiS w va l) (hb : HiS w vb m) (hl : l.length ≤ 1099511627776) :
    Calls Try.prog 14 #[va, vb] w fun e w' => e = .returned (.bool (decide (l = m))) ∧ Below w.heap.size w w' := by
  have HA := Lib.hid ha
  have HB := Lib.hid hb
  obtain ⟨a, ca, rfl, hca⟩ := ha.form
  obtain ⟨b, cb, rfl, hcb⟩ := hb.form
  clear ha hb
  by_cases hlm : l.length = m.length
  · go_enter Try.func14, Try.ntmps14
    go_wp2_with fail
    go_loopw [5] (fun i wr => ∃ k : Nat, k ≤ l.length ∧ i = .int .i64 k ∧ Hid (∀ j (h1 : j < l.length) (h2 : j < m.length), j < k → l[j] = m[j]) ∧ Hid (Below w.heap.size w wr)) (fun i _ => l.length - (intOf i).toNat)
    case atStart => exact ⟨0, Nat.zero_le _, rfl, Lib.hid (fun j _ _ h => absurd h (by omega)), Lib.hid (Below.refl _ _)⟩
    case round =>
      obtain ⟨k, hk, rfl, HE, BL⟩ := hrel
      by_cases hlt : k < l.length
      · obtain ⟨b1, o1, rfl, hb1, ⟨hi1, hi1'⟩, c1, c1'⟩ := (HA.out.below BL.out).at hlt
        have hlt2 : k < m.length := by omega
        obtain ⟨b2, o2, rfl, hb2, ⟨hi2, hi2'⟩, c2, c2'⟩ := (HB.out.below BL.out).at hlt2
        obtain ⟨x, hx⟩ : ∃ x, x = l[k] := ⟨_, rfl⟩
        obtain ⟨y, hy⟩ : ∃ y, y = m[k] := ⟨_, rfl⟩
        rw [← hx] at c1 c1' hi1 hi1'
        rw [← hy] at c2 c2' hi2 hi2'
        obtain ⟨x1, x2⟩ := x
        obtain ⟨y1, y2⟩ := y
        simp only at c1 c1' hi1 hi1' c2 c2' hi2 hi2'
        by_cases h1 : x1 = y1
        · by_cases h2 : x2 = y2
          · have HE2 : Hid (∀ j (h1 : j < l.length) (h2 : j < m.length), j < k + 1 → l[j] = m[j]) := Lib.hid fun j g1 g2 g3 => by
              by_cases hjk : j = k
              · subst hjk; rw [← hx, ← hy, h1, h2]
              · exact HE.out j g1 g2 (by omega)
            subst h1 h2
            clear hx hy
            go_wp2_with fail
            go_region
            go_wp2_with fail
            go_roundw
            case rel => exact ⟨k + 1, by omega, by go_num, HE2, Lib.hid (BL.out.drew)⟩
            case measure => simp [intOf]; omega
          · have hne : Hid (l ≠ m) := Lib.hid (by
              rintro rfl
              have h := hx.trans hy.symm
              simp only [Prod.mk.injEq] at h
              exact h2 h.2)
            subst h1
            clear hx hy
            go_wp2_with fail
            go_region
            go_wp2_with fail
            go_ret
            exact ⟨ret_bool (by simp [hne.out]), BL.out.drew⟩
        · have hne : Hid (l ≠ m) := Lib.hid (by
            rintro rfl
            have h := hx.trans hy.symm
            simp only [Prod.mk.injEq] at h
            exact h1 h.1)
          clear hx hy
          go_wp2_with fail
          go_region
          go_wp2_with fail
          go_ret
          exact ⟨ret_bool (by simp [hne.out]), BL.out.drew⟩
      · obtain rfl : k = l.length := by omega
        have he : Hid (l = m) := Lib.hid (same_all hlm fun i h1 h2 => HE.out i h1 h2 h1)
        go_wp2_with fail
        go_ret
        exact ⟨ret_bool (by simp [he.out]), BL.out⟩
  · have hn := Lib.hid (len_ne hlm)
    go_enter Try.func14, Try.ntmps14
    go_wp2_with fail
    go_ret
    exact ⟨ret_bool (by rw [hn.out]), Below.refl _ _⟩
end Go.Proofs.Ytanillahofohgaa
