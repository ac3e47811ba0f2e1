/- The document's integers: Neg, Sign, Add, Sub, Cmp. -/
import Derived.Deep.RegionHeld3
import Derived.Test.YtkhchaoehlefdaaDoorZaC
set_option linter.unusedVariables false
set_option linter.unusedSimpArgs false
set_option maxRecDepth 100000
namespace Go.Proofs.YtkhchaoehlefdaaDoor
open Go.RowKit

theorem sg_z {z : Int} {g : Bool} (hg : g = decide (z < 0)) : sg g (z.natAbs : Int) = z := by
  subst hg; by_cases h : z < 0
  · rw [decide_eq_true h, sg_true]; omega
  · rw [decide_eq_false h, sg_false]; omega
theorem sg_nz {z : Int} {g : Bool} (hg : g = decide (z < 0)) : sg (!g) (z.natAbs : Int) = -z := by
  subst hg; by_cases h : z < 0
  · rw [decide_eq_true h]; show sg false _ = _; rw [sg_false]; omega
  · rw [decide_eq_false h]; show sg true _ = _; rw [sg_true]; omega
theorem M4 {P : Prop} {W : World} {b1 b2 : Nat} {g h : Bool} {a b : Option Addr} {n m c d : Nat} {p q : Int} (VA : ZV W b1 g a n c p) (VB : ZV W b2 h b m d q) :
    ∀ w', Below W.heap.size W w' → w'.cell? ⟨b1, 0, none⟩ = some (.bool g) ∧ w'.cell? ⟨b1, 1, none⟩ = some (.slice a n c) ∧ w'.cell? ⟨b2, 0, none⟩ = some (.bool h) ∧ w'.cell? ⟨b2, 1, none⟩ = some (.slice b m d) :=
  fun w' k => ⟨(VA.below k).1, (VA.below k).2.1, (VB.below k).1, (VB.below k).2.1⟩
/-- What was loaded stays behind a store into the result's variable. -/
theorem S4 {w : World} (g h : Bool) (a b : Option Addr) (n m c d : Nat) : ∀ (w' : World) (i : Nat) (u : Value), (w'.cell? ⟨w.heap.size, 0, none⟩ = some (.bool g) ∧ w'.cell? ⟨w.heap.size, 1, none⟩ = some (.slice a n c) ∧ w'.cell? ⟨w.heap.size + 1, 0, none⟩ = some (.bool h) ∧ w'.cell? ⟨w.heap.size + 1, 1, none⟩ = some (.slice b m d)) →
    (fun w' => w'.cell? ⟨w.heap.size, 0, none⟩ = some (.bool g) ∧ w'.cell? ⟨w.heap.size, 1, none⟩ = some (.slice a n c) ∧ w'.cell? ⟨w.heap.size + 1, 0, none⟩ = some (.bool h) ∧ w'.cell? ⟨w.heap.size + 1, 1, none⟩ = some (.slice b m d)) (w'.setCell ⟨w.heap.size + 1 + 1, i, none⟩ u) := fun w' i u k => by
  have K : ∀ b o, b < w.heap.size + 1 + 1 → (w'.setCell ⟨w.heap.size + 1 + 1, i, none⟩ u).cell? ⟨b, o, none⟩ = w'.cell? ⟨b, o, none⟩ := fun b o hb => World.cell?_of_block (Below.heap_setCell _ _ _ _ (by show b ≠ w.heap.size + 1 + 1; omega))
  obtain ⟨q0, q1, q2, q3⟩ := k
  exact ⟨(K _ _ (by omega)).trans q0, (K _ _ (by omega)).trans q1, (K _ _ (by omega)).trans q2, (K _ _ (by omega)).trans q3⟩
theorem Z2 {w : World} {g h : Bool} {a b : Option Addr} {n m c d : Nat} {p q : Int} (hp : ZI w (.agg #[.bool g, .slice a n c]) n p) (hq : ZI w (.agg #[.bool h, .slice b m d]) m q) (o : Obj) :
    ZV (((w.alloc (.cells #[.bool g, .slice a n c] 28)).alloc (.cells #[.bool h, .slice b m d] 28)).alloc o) w.heap.size g a n c p ∧
    ZV (((w.alloc (.cells #[.bool g, .slice a n c] 28)).alloc (.cells #[.bool h, .slice b m d] 28)).alloc o) (w.heap.size + 1) h b m d q :=
  ⟨(ZV.new hp).below (Below.two _ _ _), (ZV.new' (hq.below (Below.one w (.cells #[.bool g, .slice a n c] 28))) (by simp)).below (Below.one _ _)⟩
theorem fin_Z {w w2 : World} {t : Nat} {g : Bool} {a : Option Addr} {n c : Nat} {z : Int} {N : Nat} (X : BoxZ w2 t) (hR : ZI w2 (.agg #[.bool g, .slice a n c]) n z) (ht : w.heap.size ≤ t) (hn : n ≤ N) (hB : Below w.heap.size w w2) :
    Zf w z N (.returned (.agg #[.bool g, .slice a n c])) ((w2.setCell ⟨t, 0, none⟩ (.bool g)).setCell ⟨t, 1, none⟩ (.slice a n c)) :=
  ⟨g, a, c, n, rfl, (ZV.put X hR).2.2.2, hn, (hB.setCell (p := ⟨t, 0, none⟩) ht _).setCell (p := ⟨t, 1, none⟩) ht _⟩

/-! ### Neg -/
set_option maxHeartbeats 800000 in
theorem zNeg_any (g : Bool) (a : Option Addr) (n c : Nat) (z : Int) (w : World) (h : ZI w (.agg #[.bool g, .slice a n c]) n z) (hn : n ≤ 100000000) :
    Calls Tryd.prog 13 #[.agg #[.bool g, .slice a n c]] w (Zf w (-z) n) := by
  obtain ⟨l, hl, hi, hd, hnl, hv, hg⟩ := h.open
  have M := Lib.hid (fun w' (hB : Below w.heap.size w w') => made_any (!g) a c l n w' (hi.below hB) hd (by omega))
  rw [hv, sg_nz hg] at M
  clear hl hi hd hnl hv hg
  go_enter Tryd.func13, Tryd.ntmps13
  go_wp2_with fail
  refine (M.out _ (Below.two _ _ _)).mono ?_
  rintro e w1 ⟨g1, a1, c1, k1, rfl, hR, hk, hB⟩
  have X1 := (BoxZ.new' (w := w.alloc (.cells #[.bool g, .slice a n c] 28)) (b := w.heap.size + 1) (g := false) (a := none) (n := 0) (c := 0) (by simp)).below hB
  have BB := Lib.hid (Below.up (Below.two w (.cells #[.bool g, .slice a n c] 28) (.cells #[.bool false, .slice none 0 0] 28)) hB)
  obtain ⟨zu, zv, zc, zd, ze, zf⟩ := X1.open
  have HX := Lib.hid X1
  have HR := Lib.hid hR
  clear X1 hR hB M
  go_wp2_with fail
  have f1 := ZV.put HX.out HR.out
  exact bodyPost_ret (v := .agg #[.bool g1, .slice a1 k1 c1]) (by simp [results, Tryd.results13, go_sem, f1.1, f1.2.1, zc, zd]) rfl (fin_Z HX.out HR.out (by omega) hk BB.out)

/-! ### Sign -/
theorem zSign_any (g : Bool) (a : Option Addr) (n c : Nat) (z : Int) (w : World) (h : ZI w (.agg #[.bool g, .slice a n c]) n z) :
    Calls Tryd.prog 21 #[.agg #[.bool g, .slice a n c]] w fun e w' => e = .returned (.int .i64 (ord z 0)) ∧ Below w.heap.size w w' := by
  obtain ⟨l, hl, hi, hd, hnl, hv, hg⟩ := h.open
  have hp := hnl.pos hd
  rw [hl, hv] at hp
  cases g with
  | true =>
    have hz : z < 0 := of_decide_eq_true hg.symm
    have E := Lib.hid (ord_lt hz)
    clear hi hd hnl hv hg h
    go_enter Tryd.func21, Tryd.ntmps21
    go_wp2_with fail
    go_ret
    exact ⟨ret_int E.out.symm, Below.one _ _⟩
  | false =>
    have hz : ¬ z < 0 := of_decide_eq_false hg.symm
    have E : Hid (ord z 0 = min (n : Int) 1) := Lib.hid (by unfold ord; rw [if_neg hz]; split <;> omega)
    clear hi hd hnl hv hg h
    go_enter Tryd.func21, Tryd.ntmps21
    go_wp2_with fail
    go_ret
    exact ⟨ret_int (by rw [E.out]), Below.one _ _⟩

/-! ### Add -/
theorem add_same {p q : Int} {g h : Bool} (hg : g = decide (p < 0)) (hh : h = decide (q < 0)) (e : g = h) : sg g ((p.natAbs : Int) + q.natAbs) = p + q := by
  subst hg hh
  by_cases h1 : p < 0
  · have h2 : q < 0 := of_decide_eq_true (by rw [← e]; exact decide_eq_true h1)
    rw [decide_eq_true h1, sg_true]; omega
  · have h2 : ¬ q < 0 := of_decide_eq_false (by rw [← e]; exact decide_eq_false h1)
    rw [decide_eq_false h1, sg_false]; omega
theorem add_diff {p q : Int} {g h : Bool} (hg : g = decide (p < 0)) (hh : h = decide (q < 0)) (e : g ≠ h) : sg g ((p.natAbs : Int) - q.natAbs) = p + q ∧ sg h ((q.natAbs : Int) - p.natAbs) = p + q := by
  subst hg hh
  by_cases h1 : p < 0
  · have h2 : ¬ q < 0 := fun h2 => e (by rw [decide_eq_true h1, decide_eq_true h2])
    rw [decide_eq_true h1, decide_eq_false h2, sg_true, sg_false]; omega
  · have h2 : q < 0 := by
      rcases Int.lt_or_le q 0 with h2 | h2
      · exact h2
      · exact absurd (by rw [decide_eq_false h1, decide_eq_false (by omega)]) e
    rw [decide_eq_false h1, decide_eq_true h2, sg_true, sg_false]; omega

set_option maxHeartbeats 1600000 in
theorem zAdd_same (g : Bool) (a b : Option Addr) (n m c d : Nat) (p q : Int) (w : World) (hp : ZI w (.agg #[.bool g, .slice a n c]) n p) (hq : ZI w (.agg #[.bool g, .slice b m d]) m q) (hn : n ≤ 10000000) (hm : m ≤ 10000000)  :
    Calls Tryd.prog 14 #[.agg #[.bool g, .slice a n c], .agg #[.bool g, .slice b m d]] w (Zf w (p + q) (max n m + 1)) := by
  obtain ⟨l, hl, hi, hd, hnl, hv, hg⟩ := hp.open
  obtain ⟨l', hl', hi', hd', hnl', hv', hg'⟩ := hq.open
  have E := Lib.hid (add_same hg hg' rfl)
  have hgh : (g == g) = true := by simp
  have hp := Lib.hid hp
  have hq := Lib.hid hq
  have HI := Lib.hid (fun w' (k : Below w.heap.size w w') => hi.below k)
  have HI' := Lib.hid (fun w' (k : Below w.heap.size w w') => hi'.below k)
  have HD := Lib.hid hd
  have HD' := Lib.hid hd'
  have HV := Lib.hid hv
  have HV' := Lib.hid hv'
  have HL := Lib.hid hl
  have HL' := Lib.hid hl'
  clear hi hi' hd hd' hnl hnl' hv hv' hg hg' hl hl'
  go_enter Tryd.func14, Tryd.ntmps14
  go_wp2_with fail
  refine wp_to (fun W => Below w.heap.size w W ∧ ZV W w.heap.size g a n c p ∧ ZV W (w.heap.size + 1) g b m d q ∧ BoxZ W (w.heap.size + 1 + 1)) ⟨Below.three _ _ _ _, (Z2 hp.out hq.out _).1, (Z2 hp.out hq.out _).2, BoxZ.new' (by simp)⟩ ?_
  rintro W ⟨hW, hVA, hVB, hX⟩
  have HW := Lib.hid hW
  have VA := Lib.hid hVA
  have VB := Lib.hid hVB
  have X := Lib.hid hX
  clear hW hVA hVB hX
  obtain ⟨oa0, oa1, oa2, _⟩ := VA.out
  obtain ⟨ob0, ob1, ob2, _⟩ := VB.out
  have D_ := Lib.hid (Below.drew (Below.refl W.heap.size W))
  have M_ := Lib.hid (M4 (P := True) VA.out VB.out)
  have MS_ := Lib.hid (S4 (w := w) g g a b n m c d)
  have s0 : max l.length l'.length = max n m := by rw [HL.out, HL'.out]
  have s9 : max n m ≤ 100000000 := by omega
  have s1 : max n m + 1 ≤ 1000000000 := by omega
  go_region_held3 (fun w' => w'.cell? ⟨w.heap.size, 0, none⟩ = some (.bool g) ∧ w'.cell? ⟨w.heap.size, 1, none⟩ = some (.slice a n c) ∧ w'.cell? ⟨w.heap.size + 1, 0, none⟩ = some (.bool g) ∧ w'.cell? ⟨w.heap.size + 1, 1, none⟩ = some (.slice b m d))
    (((repeat (refine MS_.out _ _ _ ?_)); (first | (with_reducible exact M_.out _ D_.out) | (with_reducible exact M_.out _ T1.out) | (with_reducible exact M_.out _ T2.out))))
    (first
    | (go_at_call 43; ((with_reducible refine (zsum_any _ _ l l' _ (HI.out _ (Below.up HW.out D_.out)) (HI'.out _ (Below.up HW.out D_.out)) HD.out HD'.out (max n m) s0 s9).mono ?_); rintro e w1 ⟨a1, c1, o1, rfl, hI, ho1, hD, hV, hB⟩; have I1 := Lib.hid hI; have D1 := Lib.hid hD; have V1 := Lib.hid hV; have T1 := Lib.hid (Below.up D_.out hB); clear hB hI hD hV))
    | (go_at_call 36; ((with_reducible refine (made_any g a1 c1 o1 (max n m + 1) _ I1.out D1.out s1).mono ?_); rintro e w2 ⟨g2, a2, c2, k2, rfl, hR, hk2, hB⟩; have R2 := Lib.hid (ZI.z (y := p + q) hR (by rw [V1.out, HV.out, HV'.out]; exact E.out)); have T2 := Lib.hid (Below.up T1.out hB); clear hB hR; have zb := X.out.below T2.out; obtain ⟨zu, zv, zc, zd, ze, zf⟩ := zb.open; have ZB := Lib.hid zb; clear zb)))
  go_wp2_with fail
  have f1 := ZV.put ZB.out R2.out
  exact bodyPost_ret (v := .agg #[.bool g2, .slice a2 k2 c2]) (by simp [results, Tryd.results14, go_sem, f1.1, f1.2.1, zc, zd]) rfl (fin_Z ZB.out R2.out (by omega) (by omega) (Below.up HW.out T2.out))

set_option maxHeartbeats 1600000 in
theorem zAdd_ge (g h : Bool) (a b : Option Addr) (n m c d : Nat) (p q : Int) (w : World) (hp : ZI w (.agg #[.bool g, .slice a n c]) n p) (hq : ZI w (.agg #[.bool h, .slice b m d]) m q) (hn : n ≤ 10000000) (hm : m ≤ 10000000) (he : g ≠ h) (hle : q.natAbs ≤ p.natAbs) :
    Calls Tryd.prog 14 #[.agg #[.bool g, .slice a n c], .agg #[.bool h, .slice b m d]] w (Zf w (p + q) (max n m + 1)) := by
  obtain ⟨l, hl, hi, hd, hnl, hv, hg⟩ := hp.open
  obtain ⟨l', hl', hi', hd', hnl', hv', hg'⟩ := hq.open
  have E := Lib.hid (add_diff hg hg' he).1
  have hgh : (g == h) = false := by simpa using he
  have O := Lib.hid (fun w' (k : Below w.heap.size w w') => zorder_any _ _ l l' w' (hi.below k) (hi'.below k) hd hd' (by omega) (by omega))
  have s2 : l'.length ≤ l.length := hnl'.len hd' (k := l.length) (by have := Vd_lt hd; omega)
  have s3 : Vd l' ≤ Vd l := by omega
  have s4 := Lib.hid s3
  have ho : 0 ≤ ord (Vd l) (Vd l') := by unfold ord; rw [if_neg (by omega)]; split <;> omega
  generalize ord (Vd l) (Vd l') = od at *
  have S2 := Lib.hid s2
  clear s2 s3
  have hp := Lib.hid hp
  have hq := Lib.hid hq
  have HI := Lib.hid (fun w' (k : Below w.heap.size w w') => hi.below k)
  have HI' := Lib.hid (fun w' (k : Below w.heap.size w w') => hi'.below k)
  have HD := Lib.hid hd
  have HD' := Lib.hid hd'
  have HV := Lib.hid hv
  have HV' := Lib.hid hv'
  have HL := Lib.hid hl
  have HL' := Lib.hid hl'
  clear hi hi' hd hd' hnl hnl' hv hv' hg hg' hl hl'
  go_enter Tryd.func14, Tryd.ntmps14
  go_wp2_with (go_at_call 44; refine (O.out _ (Below.three _ _ _ _)).mono ?_; rintro e w' ⟨rfl, rfl⟩)
  refine wp_to (fun W => Below w.heap.size w W ∧ ZV W w.heap.size g a n c p ∧ ZV W (w.heap.size + 1) h b m d q ∧ BoxZ W (w.heap.size + 1 + 1)) ⟨Below.three _ _ _ _, (Z2 hp.out hq.out _).1, (Z2 hp.out hq.out _).2, BoxZ.new' (by simp)⟩ ?_
  rintro W ⟨hW, hVA, hVB, hX⟩
  have HW := Lib.hid hW
  have VA := Lib.hid hVA
  have VB := Lib.hid hVB
  have X := Lib.hid hX
  clear hW hVA hVB hX
  obtain ⟨oa0, oa1, oa2, _⟩ := VA.out
  obtain ⟨ob0, ob1, ob2, _⟩ := VB.out
  have D_ := Lib.hid (Below.drew (Below.refl W.heap.size W))
  have M_ := Lib.hid (M4 (P := True) VA.out VB.out)
  have MS_ := Lib.hid (S4 (w := w) g h a b n m c d)
  have s9 : n ≤ 100000000 := by omega
  go_region_held3 (fun w' => w'.cell? ⟨w.heap.size, 0, none⟩ = some (.bool g) ∧ w'.cell? ⟨w.heap.size, 1, none⟩ = some (.slice a n c) ∧ w'.cell? ⟨w.heap.size + 1, 0, none⟩ = some (.bool h) ∧ w'.cell? ⟨w.heap.size + 1, 1, none⟩ = some (.slice b m d))
    (((repeat (refine MS_.out _ _ _ ?_)); (first | (with_reducible exact M_.out _ D_.out) | (with_reducible exact M_.out _ T1.out) | (with_reducible exact M_.out _ T2.out))))
    (first
    | (go_at_call 45; ((with_reducible refine (less_any _ _ l l' _ (HI.out _ (Below.up HW.out D_.out)) (HI'.out _ (Below.up HW.out D_.out)) HD.out HD'.out S2.out s4.out n HL.out s9).mono ?_); rintro e w1 ⟨a1, c1, k1, o1, rfl, hI, ho1, hk1, hD, _, hV, hB⟩; have I1 := Lib.hid hI; have D1 := Lib.hid hD; have V1 := Lib.hid hV; have s1 : k1 ≤ 1000000000 := (by omega); have T1 := Lib.hid (Below.up D_.out hB); clear hB hI hD hV))
    | (go_at_call 36; ((with_reducible refine (made_any g a1 c1 o1 k1 _ I1.out D1.out s1).mono ?_); rintro e w2 ⟨g2, a2, c2, k2, rfl, hR, hk2, hB⟩; have R2 := Lib.hid (ZI.z (y := p + q) hR (by rw [V1.out, HV.out, HV'.out]; exact E.out)); have T2 := Lib.hid (Below.up T1.out hB); clear hB hR; have zb := X.out.below T2.out; obtain ⟨zu, zv, zc, zd, ze, zf⟩ := zb.open; have ZB := Lib.hid zb; clear zb)))
  go_wp2_with fail
  have f1 := ZV.put ZB.out R2.out
  exact bodyPost_ret (v := .agg #[.bool g2, .slice a2 k2 c2]) (by simp [results, Tryd.results14, go_sem, f1.1, f1.2.1, zc, zd]) rfl (fin_Z ZB.out R2.out (by omega) (by omega) (Below.up HW.out T2.out))

set_option maxHeartbeats 1600000 in
theorem zAdd_lt (g h : Bool) (a b : Option Addr) (n m c d : Nat) (p q : Int) (w : World) (hp : ZI w (.agg #[.bool g, .slice a n c]) n p) (hq : ZI w (.agg #[.bool h, .slice b m d]) m q) (hn : n ≤ 10000000) (hm : m ≤ 10000000) (he : g ≠ h) (hlt : p.natAbs < q.natAbs) :
    Calls Tryd.prog 14 #[.agg #[.bool g, .slice a n c], .agg #[.bool h, .slice b m d]] w (Zf w (p + q) (max n m + 1)) := by
  obtain ⟨l, hl, hi, hd, hnl, hv, hg⟩ := hp.open
  obtain ⟨l', hl', hi', hd', hnl', hv', hg'⟩ := hq.open
  have E := Lib.hid (add_diff hg hg' he).2
  have hgh : (g == h) = false := by simpa using he
  have O := Lib.hid (fun w' (k : Below w.heap.size w w') => zorder_any _ _ l l' w' (hi.below k) (hi'.below k) hd hd' (by omega) (by omega))
  have s2 : l.length ≤ l'.length := hnl.len hd (k := l'.length) (by have := Vd_lt hd'; omega)
  have s3 : Vd l ≤ Vd l' := by omega
  have s4 := Lib.hid s3
  have ho : ord (Vd l) (Vd l') < 0 := by rw [ord_lt (by omega)]; decide
  generalize ord (Vd l) (Vd l') = od at *
  have S2 := Lib.hid s2
  clear s2 s3
  have hp := Lib.hid hp
  have hq := Lib.hid hq
  have HI := Lib.hid (fun w' (k : Below w.heap.size w w') => hi.below k)
  have HI' := Lib.hid (fun w' (k : Below w.heap.size w w') => hi'.below k)
  have HD := Lib.hid hd
  have HD' := Lib.hid hd'
  have HV := Lib.hid hv
  have HV' := Lib.hid hv'
  have HL := Lib.hid hl
  have HL' := Lib.hid hl'
  clear hi hi' hd hd' hnl hnl' hv hv' hg hg' hl hl'
  go_enter Tryd.func14, Tryd.ntmps14
  go_wp2_with (go_at_call 44; refine (O.out _ (Below.three _ _ _ _)).mono ?_; rintro e w' ⟨rfl, rfl⟩)
  refine wp_to (fun W => Below w.heap.size w W ∧ ZV W w.heap.size g a n c p ∧ ZV W (w.heap.size + 1) h b m d q ∧ BoxZ W (w.heap.size + 1 + 1)) ⟨Below.three _ _ _ _, (Z2 hp.out hq.out _).1, (Z2 hp.out hq.out _).2, BoxZ.new' (by simp)⟩ ?_
  rintro W ⟨hW, hVA, hVB, hX⟩
  have HW := Lib.hid hW
  have VA := Lib.hid hVA
  have VB := Lib.hid hVB
  have X := Lib.hid hX
  clear hW hVA hVB hX
  obtain ⟨oa0, oa1, oa2, _⟩ := VA.out
  obtain ⟨ob0, ob1, ob2, _⟩ := VB.out
  have D_ := Lib.hid (Below.drew (Below.refl W.heap.size W))
  have M_ := Lib.hid (M4 (P := True) VA.out VB.out)
  have MS_ := Lib.hid (S4 (w := w) g h a b n m c d)
  have s9 : m ≤ 100000000 := by omega
  go_region_held3 (fun w' => w'.cell? ⟨w.heap.size, 0, none⟩ = some (.bool g) ∧ w'.cell? ⟨w.heap.size, 1, none⟩ = some (.slice a n c) ∧ w'.cell? ⟨w.heap.size + 1, 0, none⟩ = some (.bool h) ∧ w'.cell? ⟨w.heap.size + 1, 1, none⟩ = some (.slice b m d))
    (((repeat (refine MS_.out _ _ _ ?_)); (first | (with_reducible exact M_.out _ D_.out) | (with_reducible exact M_.out _ T1.out) | (with_reducible exact M_.out _ T2.out))))
    (first
    | (go_at_call 45; ((with_reducible refine (less_any _ _ l' l _ (HI'.out _ (Below.up HW.out D_.out)) (HI.out _ (Below.up HW.out D_.out)) HD'.out HD.out S2.out s4.out m HL'.out s9).mono ?_); rintro e w1 ⟨a1, c1, k1, o1, rfl, hI, ho1, hk1, hD, _, hV, hB⟩; have I1 := Lib.hid hI; have D1 := Lib.hid hD; have V1 := Lib.hid hV; have s1 : k1 ≤ 1000000000 := (by omega); have T1 := Lib.hid (Below.up D_.out hB); clear hB hI hD hV))
    | (go_at_call 36; ((with_reducible refine (made_any h a1 c1 o1 k1 _ I1.out D1.out s1).mono ?_); rintro e w2 ⟨g2, a2, c2, k2, rfl, hR, hk2, hB⟩; have R2 := Lib.hid (ZI.z (y := p + q) hR (by rw [V1.out, HV.out, HV'.out]; exact E.out)); have T2 := Lib.hid (Below.up T1.out hB); clear hB hR; have zb := X.out.below T2.out; obtain ⟨zu, zv, zc, zd, ze, zf⟩ := zb.open; have ZB := Lib.hid zb; clear zb)))
  go_wp2_with fail
  have f1 := ZV.put ZB.out R2.out
  exact bodyPost_ret (v := .agg #[.bool g2, .slice a2 k2 c2]) (by simp [results, Tryd.results14, go_sem, f1.1, f1.2.1, zc, zd]) rfl (fin_Z ZB.out R2.out (by omega) (by omega) (Below.up HW.out T2.out))

theorem zAdd_any (g h : Bool) (a b : Option Addr) (n m c d : Nat) (p q : Int) (w : World) (hp : ZI w (.agg #[.bool g, .slice a n c]) n p) (hq : ZI w (.agg #[.bool h, .slice b m d]) m q) (hn : n ≤ 10000000) (hm : m ≤ 10000000) :
    Calls Tryd.prog 14 #[.agg #[.bool g, .slice a n c], .agg #[.bool h, .slice b m d]] w (Zf w (p + q) (max n m + 1)) := by
  by_cases he : g = h
  · subst he
    exact zAdd_same g a b n m c d p q w hp hq hn hm
  · by_cases hle : q.natAbs ≤ p.natAbs
    · exact zAdd_ge g h a b n m c d p q w hp hq hn hm he hle
    · exact zAdd_lt g h a b n m c d p q w hp hq hn hm he (by omega)
end Go.Proofs.YtkhchaoehlefdaaDoor
