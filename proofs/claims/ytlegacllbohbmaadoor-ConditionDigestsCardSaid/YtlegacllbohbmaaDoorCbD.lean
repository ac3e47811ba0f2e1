/- Layer 4: the place of a time among spans. -/
import Derived.Test.YtlegacllbohbmaaDoorCbC
set_option linter.unusedVariables false
set_option linter.unusedSimpArgs false
namespace Go.Proofs.YtlegacllbohbmaaDoor
open Go.RowKit Go.Shelf

theorem isNaN_any (a : Int) (w : World) : Calls Tryd.prog 77 #[.int .i64 a] w fun e w' => e = .returned (.bool false) ∧ w = w' := by
  go_enter Tryd.func77, Tryd.ntmps77
  go_wp2_with fail
  go_ret
  exact ⟨rfl, rfl⟩
def cmpI (a b : Int) : Int := if a < b then -1 else if b < a then 1 else 0
theorem Compare_any (a b : Int) (w : World) : Calls Tryd.prog 65 #[.int .i64 a, .int .i64 b] w fun e w' => e = .returned (.int .i64 (cmpI a b)) ∧ w = w' := by
  have h : (a < b ∧ cmpI a b = -1) ∨ (¬ a < b ∧ b < a ∧ cmpI a b = 1) ∨ (¬ a < b ∧ ¬ b < a ∧ cmpI a b = 0) := by
    unfold cmpI
    by_cases h1 : a < b
    · simp [h1]
    · by_cases h2 : b < a <;> simp [h1, h2]
  rcases h with ⟨h1, h⟩ | ⟨h1, h2, h⟩ | ⟨h1, h2, h⟩
  all_goals
    rw [h]
    clear h
    go_enter Tryd.func65, Tryd.ntmps65
    go_wp2_with (go_at_call 77; refine (isNaN_any _ _).mono ?_; rintro e w' ⟨rfl, rfl⟩)
    go_ret
    exact ⟨rfl, rfl⟩
theorem place1_any (t T : Int) (l : Value) (w : World) (hl : ∃ a n c, l = .slice a n c) : Calls Tryd.prog 64 #[.agg #[.int .i64 t, l], .int .i64 T] w fun e w' => e = .returned (.int .i64 (cmpI t T)) ∧ Below w.heap.size w w' := by
  obtain ⟨a, n, c, rfl⟩ := hl
  go_enter Tryd.func64, Tryd.ntmps64
  go_wp2_with (go_at_call 65; refine (Compare_any _ _ _).mono ?_; rintro e w' ⟨rfl, rfl⟩)
  go_ret
  exact ⟨rfl, (Below.refl _ _).alloc (Nat.le_refl _) _⟩

theorem spC_cons (x : Int × Ents) (sp : List (Int × Ents)) (v : Value) (ls : List Value) : spC (x :: sp) (v :: ls) = .int .i64 x.1 :: v :: spC sp ls := rfl
theorem spC_get : ∀ (sp : List (Int × Ents)) (ls : List Value) (i : Nat) (h : i < sp.length) (h' : i < ls.length), (spC sp ls)[2 * i]? = some (.int .i64 sp[i].1) ∧ (spC sp ls)[2 * i + 1]? = some ls[i]
  | [], _, _, h, _ => by simp at h
  | _ :: _, [], _, _, h => by simp at h
  | x :: sp, v :: ls, 0, _, _ => by simp [spC_cons]
  | x :: sp, v :: ls, i + 1, h, h' => by
    have := spC_get sp ls i (by simpa using h) (by simpa using h')
    rw [spC_cons, show 2 * (i + 1) = 2 * i + 1 + 1 by omega, show 2 * i + 1 + 1 + 1 = (2 * i + 1) + 1 + 1 by omega]
    simpa using this
theorem spC_len (sp : List (Int × Ents)) (ls : List Value) (h : ls.length = sp.length) : (spC sp ls).length = sp.length * 2 := by
  induction sp generalizing ls with
  | nil => simp [spC]
  | cons x sp ih =>
    cases ls with
    | nil => simp at h
    | cons v ls => rw [spC_cons, List.length_cons, List.length_cons, ih ls (by simpa using h), List.length_cons]; omega

/-- Times of spans in memory, for a search. -/
def TmS (W : World) (v : Value) (n : Nat) (t : Nat → Int) : Prop :=
  ∃ a cap, v = .slice a n cap ∧ (∀ k, k < n → 0 ≤ t k ∧ t k ≤ 1099511627776) ∧ (0 < n → ∃ g, a = some ⟨g, 0, none⟩ ∧ ∀ k, k < n → W.cell? ⟨g, k * 2, none⟩ = some (.int .i64 (t k)) ∧ ∃ b m c, W.cell? ⟨g, k * 2 + 1, none⟩ = some (.slice b m c))
theorem TmS.below {W W' : World} {v : Value} {n : Nat} {t : Nat → Int} (h : TmS W v n t) (k : Below W.heap.size W W') : TmS W' v n t := by
  obtain ⟨a, cap, rfl, hb, hc⟩ := h
  refine ⟨a, cap, rfl, hb, fun hn => ?_⟩
  obtain ⟨g, rfl, hcc⟩ := hc hn
  refine ⟨g, rfl, fun j hj => ?_⟩
  obtain ⟨h1, b, m, c, h2⟩ := hcc j hj
  exact ⟨bc k h1, b, m, c, bc k h2⟩
/-- Is the time there? -/
def hitB (t : Nat → Int) (n : Nat) (T : Int) (i : Nat) : Bool := decide (i < n ∧ t i = T)
/-- Where a time belongs. -/
def Plc (t : Nat → Int) (n : Nat) (T : Int) (i : Nat) : Prop := i ≤ n ∧ (∀ k, k < i → t k < T) ∧ ∀ k, i ≤ k → k < n → T ≤ t k

theorem cmpI_zero (a b : Int) : (cmpI a b == 0) = decide (a = b) := by
  unfold cmpI
  by_cases h1 : a < b
  · simp [h1]; omega
  · by_cases h2 : b < a
    · simp [h1, h2]; omega
    · simp [h1, h2]; omega
theorem ret_place (i : Nat) {a b : Bool} (h : a = b) : Ending.returned (.tuple #[.int .i64 (i : Int), .bool a]) = .returned (.tuple #[.int .i64 (i : Int), .bool b]) := by rw [h]
set_option maxRecDepth 20000 in
set_option maxHeartbeats 1600000 in
theorem search_any (v : Value) (n : Nat) (t : Nat → Int) (T : Int) (w : World) (h : TmS w v n t) (hs : ∀ a b, a < b → b < n → t a < t b) (hn : n ≤ 1000000) :
    Calls Tryd.prog 63 #[v, .int .i64 T, .func (.func 64) #[] #[]] w fun e w' =>
      (∃ i, Plc t n T i ∧ e = .returned (.tuple #[.int .i64 i, .bool (hitB t n T i)])) ∧ Below w.heap.size w w' := by
  have H := Lib.hid h
  have HS := Lib.hid hs
  obtain ⟨a, cap, rfl, hb, hc⟩ := h
  have HB := Lib.hid hb
  clear hs hb hc
  go_enter Tryd.func63, Tryd.ntmps63
  go_wp2_with fail
  go_loopw [9, 10] (fun u v wr => ∃ i j : Nat, i ≤ j ∧ j ≤ n ∧ u = .int .i64 i ∧ v = .int .i64 j ∧ Hid ((∀ k, k < i → t k < T) ∧ ∀ k, j ≤ k → k < n → T ≤ t k) ∧ Hid (Below w.heap.size w wr)) (fun u v _ => ((intOf v) - (intOf u)).toNat)
  case atStart => exact ⟨0, n, by omega, by omega, rfl, rfl, Lib.hid ⟨fun k hk => by omega, fun k h1 h2 => by omega⟩, Lib.hid (Below.refl _ _)⟩
  case round =>
    obtain ⟨i, j, hij, hjn, rfl, rfl, HI, BL⟩ := hrel
    by_cases hlt : i < j
    · obtain ⟨m, hm⟩ : ∃ m, m = (i + j) / 2 := ⟨_, rfl⟩
      have hmi : i ≤ m := by omega
      have hmj : m < j := by omega
      have hq : ((i : Int) + (j : Int)) / 2 = (m : Int) := by omega
      have HM := Lib.hid hm
      clear hm
      obtain ⟨a', cap', e0, _, hcc⟩ := H.out.below BL.out
      cases e0
      obtain ⟨g, rfl, hc⟩ := hcc (by omega)
      obtain ⟨c1, b2, m2, k2, c2⟩ := hc m (by omega)
      obtain ⟨t0, t1⟩ := HB.out m (by omega)
      clear hcc hc
      have PC := Lib.hid (fun W => place1_any (t m) T (.slice b2 m2 k2) W ⟨_, _, _, rfl⟩)
      have HT : Hid ((t m < T ∧ cmpI (t m) T = -1) ∨ (T ≤ t m ∧ 0 ≤ cmpI (t m) T)) := Lib.hid (by
        unfold cmpI
        by_cases h1 : t m < T
        · exact .inl ⟨h1, by simp [h1]⟩
        · refine .inr ⟨by omega, ?_⟩
          rw [if_neg h1]
          split <;> omega)
      generalize cmpI (t m) T = q at *
      rcases HT.out with ⟨hT, rfl⟩ | ⟨hT, hq0⟩
      · go_wp2_with fail
        refine (PC.out _).mono ?_
        rintro e w2 ⟨rfl, b2'⟩
        have B2 := Lib.hid (Below.up BL.out b2')
        clear b2' c1 c2
        go_wp2_with fail
        go_roundw
        case rel => exact ⟨m + 1, j, by omega, hjn, by go_num, rfl, Lib.hid ⟨fun k hk => by
            rcases Nat.lt_or_ge k m with h' | h'
            · exact Int.lt_trans (HS.out k m h' (by omega)) hT
            · obtain rfl : k = m := by omega
              exact hT, HI.out.2⟩, B2⟩
        case measure => simp [intOf]; omega
      · go_wp2_with fail
        refine (PC.out _).mono ?_
        rintro e w2 ⟨rfl, b2'⟩
        have B2 := Lib.hid (Below.up BL.out b2')
        clear b2' c1 c2
        go_wp2_with fail
        go_roundw
        case rel => exact ⟨i, m, by omega, by omega, rfl, rfl, Lib.hid ⟨HI.out.1, fun k h1 h2 => by
            rcases Nat.lt_or_ge m k with h' | h'
            · exact Int.le_of_lt (Int.lt_of_le_of_lt hT (HS.out m k h' h2))
            · obtain rfl : k = m := by omega
              exact hT⟩, B2⟩
        case measure => simp [intOf]; omega
    · obtain rfl : i = j := by omega
      by_cases hlt2 : i < n
      · obtain ⟨a', cap', e0, _, hcc⟩ := H.out.below BL.out
        cases e0
        obtain ⟨g, rfl, hc⟩ := hcc (by omega)
        obtain ⟨c1, b2, m2, k2, c2⟩ := hc i hlt2
        obtain ⟨t0, t1⟩ := HB.out i hlt2
        clear hcc hc
        have PC := Lib.hid (fun W => place1_any (t i) T (.slice b2 m2 k2) W ⟨_, _, _, rfl⟩)
        have HT := Lib.hid (cmpI_zero (t i) T)
        generalize cmpI (t i) T = q at *
        go_wp2_with fail
        refine (PC.out _).mono ?_
        rintro e w2 ⟨rfl, b2'⟩
        have B2 := Lib.hid (Below.up BL.out b2')
        clear b2' c1 c2
        go_wp2_with fail
        go_ret2
        exact ⟨⟨i, ⟨hjn, HI.out.1, fun k h1 h2 => HI.out.2 k h1 h2⟩, ret_place i (by unfold hitB; rw [HT.out]; simp [hlt2])⟩, B2.out⟩
      · obtain rfl : i = n := by omega
        go_wp2_with fail
        go_ret2
        exact ⟨⟨i, ⟨hjn, HI.out.1, fun k h1 h2 => by omega⟩, ret_place i (by unfold hitB; simp)⟩, BL.out⟩
end Go.Proofs.YtlegacllbohbmaaDoor
