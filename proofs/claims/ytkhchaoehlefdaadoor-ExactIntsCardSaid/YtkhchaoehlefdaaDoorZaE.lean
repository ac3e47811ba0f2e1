/- The document's integers: Sub, Cmp, Mul. -/
import Derived.Test.YtkhchaoehlefdaaDoorZaD
set_option linter.unusedVariables false
set_option linter.unusedSimpArgs false
set_option maxRecDepth 100000
namespace Go.Proofs.YtkhchaoehlefdaaDoor
open Go.RowKit

set_option maxHeartbeats 1600000 in
theorem zSub_any (g h : Bool) (a b : Option Addr) (n m c d : Nat) (p q : Int) (w : World) (hp : ZI w (.agg #[.bool g, .slice a n c]) n p) (hq : ZI w (.agg #[.bool h, .slice b m d]) m q) (hn : n ≤ 10000000) (hm : m ≤ 10000000) :
    Calls Tryd.prog 15 #[.agg #[.bool g, .slice a n c], .agg #[.bool h, .slice b m d]] w (Zf w (p - q) (max n m + 1)) := by
  have hp := Lib.hid hp
  have hq := Lib.hid hq
  go_enter Tryd.func15, Tryd.ntmps15
  go_wp2_with fail
  refine wp_to (fun W => Below w.heap.size w W ∧ ZV W w.heap.size g a n c p ∧ ZV W (w.heap.size + 1) h b m d q ∧ BoxZ W (w.heap.size + 1 + 1)) ⟨Below.three _ _ _ _, (Z2 hp.out hq.out _).1, (Z2 hp.out hq.out _).2, BoxZ.new' (by simp)⟩ ?_
  rintro W ⟨hW, hVA, hVB, hX⟩
  have HW := Lib.hid hW
  have VA := Lib.hid hVA
  have VB := Lib.hid hVB
  have X := Lib.hid hX
  clear hW hVA hVB hX
  obtain ⟨oa0, oa1, oa2, _⟩ := VA.out
  obtain ⟨ob0, ob1, ob2, _⟩ := VB.out
  have D_ := Lib.hid (Below.drew (Below.refl W.heap.size W))
  have M_ := Lib.hid (M4 (P := True) VA.out VB.out)
  have MS_ := Lib.hid (S4 (w := w) g h a b n m c d)
  have s1 : m ≤ 100000000 := by omega
  clear hp hq
  go_region_held3 (fun w' => w'.cell? ⟨w.heap.size, 0, none⟩ = some (.bool g) ∧ w'.cell? ⟨w.heap.size, 1, none⟩ = some (.slice a n c) ∧ w'.cell? ⟨w.heap.size + 1, 0, none⟩ = some (.bool h) ∧ w'.cell? ⟨w.heap.size + 1, 1, none⟩ = some (.slice b m d))
    (((repeat (refine MS_.out _ _ _ ?_)); (first | (with_reducible exact M_.out _ D_.out) | (with_reducible exact M_.out _ T1.out) | (with_reducible exact M_.out _ T2.out))))
    (first
    | (go_at_call 13; ((with_reducible refine (zNeg_any h b m d q _ (VB.out.up D_.out) s1).mono ?_); rintro e w1 ⟨g1, a1, c1, k1, rfl, hR, hk1, hB⟩; have R1 := Lib.hid hR; have s2 : k1 ≤ 10000000 := (by omega); have T1 := Lib.hid (Below.up D_.out hB); clear hB hR))
    | (go_at_call 14; ((with_reducible refine (zAdd_any g g1 a a1 n k1 c c1 p (-q) _ (VA.out.up T1.out) R1.out hn s2).mono ?_); rintro e w2 ⟨g2, a2, c2, k2, rfl, hR, hk2, hB⟩; have R2 := Lib.hid (ZI.z (y := p - q) hR (by omega)); have T2 := Lib.hid (Below.up T1.out hB); clear hB hR; have zb := X.out.below T2.out; obtain ⟨zu, zv, zc, zd, ze, zf⟩ := zb.open; have ZB := Lib.hid zb; clear zb)))
  go_wp2_with fail
  have f1 := ZV.put ZB.out R2.out
  exact bodyPost_ret (v := .agg #[.bool g2, .slice a2 k2 c2]) (by simp [results, Tryd.results15, go_sem, f1.1, f1.2.1, zc, zd]) rfl (fin_Z ZB.out R2.out (by omega) (by omega) (Below.up HW.out T2.out))

theorem ord_sub (p q : Int) : ord (p - q) 0 = ord p q := by
  unfold ord
  by_cases h : p < q
  · rw [if_pos h, if_pos (by omega)]
  · rw [if_neg h, if_neg (by omega)]
    by_cases k : q < p
    · rw [if_pos k, if_pos (by omega)]
    · rw [if_neg k, if_neg (by omega)]

set_option maxHeartbeats 1600000 in
theorem zCmp_any (g h : Bool) (a b : Option Addr) (n m c d : Nat) (p q : Int) (w : World) (hp : ZI w (.agg #[.bool g, .slice a n c]) n p) (hq : ZI w (.agg #[.bool h, .slice b m d]) m q) (hn : n ≤ 10000000) (hm : m ≤ 10000000) :
    Calls Tryd.prog 23 #[.agg #[.bool g, .slice a n c], .agg #[.bool h, .slice b m d]] w fun e w' => e = .returned (.int .i64 (ord p q)) ∧ Below w.heap.size w w' := by
  have hp := Lib.hid hp
  have hq := Lib.hid hq
  go_enter Tryd.func23, Tryd.ntmps23
  go_wp2_with fail
  refine (zSub_any g h a b n m c d p q _ (hp.out.below (Below.two _ _ _)) (hq.out.below (Below.two _ _ _)) hn hm).mono ?_
  rintro e w1 ⟨g1, a1, c1, k1, rfl, hR, hk1, hB⟩
  have R1 := Lib.hid hR
  have BB := Lib.hid (Below.up (Below.two w (.cells #[.bool g, .slice a n c] 28) (.cells #[.bool h, .slice b m d] 28)) hB)
  clear hR hB hp hq
  go_wp2_with fail
  refine (zSign_any g1 a1 k1 c1 (p - q) _ (R1.out.below (Below.one _ _))).mono ?_
  rintro e w2 ⟨rfl, hB⟩
  have BC := Lib.hid (Below.up BB.out (Below.up (Below.one w1 _) hB))
  clear hB BB
  go_wp2_with fail
  go_ret
  exact ⟨ret_int (ord_sub p q), BC.out⟩

/-! ### Mul -/
theorem Vd_set {o : List Int} {j : Nat} (h : j < o.length) (v : Int) : Vd (o.set j v) = Vd o + (v - gI o j) * Bd j := by
  induction o generalizing j with
  | nil => simp at h
  | cons x o ih =>
    cases j with
    | zero => rw [List.set_cons_zero, Vd_cons, Vd_cons, gI_cons_zero, Bd_zero]; omega
    | succ j => rw [List.set_cons_succ, Vd_cons, Vd_cons, ih (by simpa using h), gI_cons_succ, Bd_succ]; grind
theorem D16.set {o : List Int} (h : D16 o) (j : Nat) {v : Int} (k : 0 ≤ v ∧ v ≤ 65535) : D16 (o.set j v) := fun x hx => by
  rcases List.mem_or_eq_of_mem_set hx with hx | hx
  · exact h x hx
  · rw [hx]; exact k
theorem D16_zero (n : Nat) : D16 (List.replicate n 0) := fun x hx => by rw [(List.mem_replicate.1 hx).2]; decide
theorem Vd_zero (n : Nat) : Vd (List.replicate n 0) = 0 := by
  induction n with
  | zero => rfl
  | succ n ih => rw [List.replicate_succ, Vd_cons, ih]; rfl
/-- A row of numbers of the call's own, of a fixed length. -/
def Ol (w : World) (b : Nat) (o : List Int) : Prop := w.heap[b]? = some (.cells (inC o).toArray 3 (0, 0))
theorem Ol.cell {w : World} {b : Nat} {o : List Int} (h : Ol w b o) {j : Nat} (hj : j < o.length) : w.cell? ⟨b, j, none⟩ = some (.int .i64 (gI o j)) := by
  unfold World.cell?
  rw [show w.heap[(⟨b, j, none⟩ : Addr).block]? = _ from h, gI_at hj]
  simp [inC, hj]
theorem Ol.free {w : World} {b : Nat} {o : List Int} (h : Ol w b o) (j : Nat) : w.frozen? ⟨b, j, none⟩ = false := by
  unfold World.frozen?
  rw [show w.heap[(⟨b, j, none⟩ : Addr).block]? = _ from h]
  simp
theorem Ol.lt {w : World} {b : Nat} {o : List Int} (h : Ol w b o) : b < w.heap.size := (Array.getElem?_eq_some_iff.1 h).1
theorem Ol.set {w : World} {b : Nat} {o : List Int} (h : Ol w b o) (j : Nat) (v : Int) : Ol (w.setCell ⟨b, j, none⟩ (.int .i64 v)) b (o.set j v) := by
  have := heap_set2 (i := j) h (.int .i64 v)
  unfold Ol
  rw [this]
  simp [inC, List.map_set]
theorem Ol.drewN {w : World} {b : Nat} {o : List Int} (h : Ol w b o) (n : Nat) : Ol (w.drewN n) b o := h
theorem Ol.ins {w : World} {b n cap : Nat} {o : List Int} (h : Ol w b o) (hn : o.length = n) (hc : n ≤ cap) (hd : D16 o) : InS w (.slice (some ⟨b, 0, none⟩) n cap) o := by
  subst hn
  refine ⟨_, cap, rfl, hc, fun x hx => I64.d (hd x hx), fun _ => ⟨b, 0, rfl, fun k hk => ?_⟩⟩
  rw [Nat.zero_add, h.cell hk, gI_at hk]

/-- 'make' of n numbers. -/
theorem makeI {ops : Array Oper} {rest : List Oper} {o : Oper} {a : Act} {Q : Exit → Act → World → Prop} {w : World}
    (hg : o.guard = none) (l c : Operand) (t : TypeId) (hop : o.op = Op.makeSlice t l c) (h1 : Tryd.prog.underlying t = some (.slice 3))
    (n : Nat) (L C : Int) (hl : a.eval l = .int .i64 L) (hc : a.eval c = .int .i64 C) (hL : L = (n : Int)) (hC : C = (n : Int)) (hn : n ≤ 1000000000)
    (hK : ∀ w', Ol w' w.heap.size (List.replicate n 0) → Below w.heap.size w w' → wpList Tryd.prog ops Q rest (a.put o.dst (.slice (some ⟨w.heap.size, 0, none⟩) n n)) w') :
    wpList Tryd.prog ops Q (o :: rest) a w := by
  obtain ⟨i, hi, hz0, hz1, hz2⟩ := info_parts int_info
  refine wpList_make_full w hg l c t hop w.heap.size 3 i _ 1 h1 hi hz0 hz1 .i64 .i64 L C n hl hc hL hC (by rw [hz2]; omega) (by unfold maxLen; omega) (Nat.le_refl _) ?_
  intro w' hown hgrow
  refine hK w' ?_ ⟨hgrow.os, hgrow.tape, hgrow.output, hgrow.size, fun k hk => hgrow.block k hk (by simp)⟩
  obtain ⟨h1, h2 | ⟨g, cap, cur, hv, hg, hh, hle, hm, hsz, htk⟩⟩ := hown
  · exact absurd h2.1 (by simp)
  · simp only [Value.slice.injEq, Option.some.injEq, Addr.mk.injEq, and_true] at hv
    obtain ⟨hv1, _, hv2⟩ := hv
    subst hv1
    subst hv2
    have e : cur.toList = (madeCells (Value.int .i64 0).cells (n * 1)).toList := by
      rw [← htk, List.take_of_length_le (by simp; omega)]
    have e2 : cur = madeCells (Value.int .i64 0).cells (n * 1) := Array.toList_inj.1 e
    unfold Ol
    rw [hh, e2]
    congr 2
    apply Array.ext
    · simp [madeCells, Value.cells, inC]
    · intro j h1 h2
      simp [madeCells, Value.cells, inC, Nat.mod_one]

theorem mul_sign (p q : Int) : sg (!(decide (p < 0) == decide (q < 0))) ((p.natAbs : Int) * q.natAbs) = p * q := by
  rcases Int.lt_or_le p 0 with h | h
  · have e1 : (p.natAbs : Int) = -p := by omega
    rcases Int.lt_or_le q 0 with k | k
    · have e2 : (q.natAbs : Int) = -q := by omega
      rw [decide_eq_true h, decide_eq_true k, e1, e2]; simp [sg, Int.neg_mul, Int.mul_neg]
    · have e2 : (q.natAbs : Int) = q := by omega
      rw [decide_eq_true h, decide_eq_false (by omega), e1, e2]; simp [sg, Int.neg_mul, Int.mul_neg]
  · have e1 : (p.natAbs : Int) = p := by omega
    rcases Int.lt_or_le q 0 with k | k
    · have e2 : (q.natAbs : Int) = -q := by omega
      rw [decide_eq_false (by omega), decide_eq_true k, e1, e2]; simp [sg, Int.neg_mul, Int.mul_neg]
    · have e2 : (q.natAbs : Int) = q := by omega
      rw [decide_eq_false (by omega), decide_eq_false (by omega), e1, e2]; simp [sg, Int.neg_mul, Int.mul_neg]
/-- One digit of a product in place. -/
theorem mul_step {o : List Int} {i k : Nat} {x y c N T Vy : Int} (hj : i + k < o.length) (h : Vd o + c * Bd (i + k) = T + x * Vy * Bd i) (hN : N = gI o (i + k) + x * y + c) :
    Vd (o.set (i + k) (N % 65536)) + N / 65536 * Bd (i + (k + 1)) = T + x * (Vy + y * Bd k) * Bd i := by
  rw [Vd_set hj, show i + (k + 1) = (i + k) + 1 by omega, Bd_succ]
  have e : N = 65536 * (N / 65536) + N % 65536 := by omega
  rw [Bd_add] at *
  generalize N / 65536 = D at *
  generalize N % 65536 = R at *
  generalize gI o (i + k) = s at *
  generalize Vd o = v at *
  generalize Bd i = bi at *
  generalize Bd k = bk at *
  grind
theorem mul_top {la lb : List Int} (ha : D16 la) (hb : D16 lb) {i : Nat} : Vk la i * Vd lb + gI la i * Vd lb * Bd i < Bd (i + 1 + lb.length) := by
  have h1 := Vk_lt ha (i + 1)
  have h2 := Vd_lt hb
  have h3 := Vd_nonneg hb
  have h4 := Vk_nonneg ha (i + 1)
  have e : Vk la i * Vd lb + gI la i * Vd lb * Bd i = Vk la (i + 1) * Vd lb := by rw [Vk_succ]; grind
  rw [e, Bd_add]
  have h5 := Bd_pos lb.length
  have h6 := Int.mul_le_mul_of_nonneg_right (show Vk la (i + 1) ≤ Bd (i + 1) - 1 by omega) h3
  have h7 := Int.mul_le_mul_of_nonneg_left (show Vd lb ≤ Bd lb.length - 1 by omega) (show 0 ≤ Bd (i + 1) - 1 by have := Bd_pos (i + 1); omega)
  have h8 := Bd_pos (i + 1)
  have e2 : (Bd (i + 1) - 1) * (Bd lb.length - 1) = Bd (i + 1) * Bd lb.length - Bd (i + 1) - Bd lb.length + 1 := by grind
  omega
/-- Between two rounds of the inner loop. -/
def MulI (W : World) (N : Nat) (la lb : List Int) (i k : Nat) (c : Int) (wr : World) : Prop :=
  ∃ o, Ol wr W.heap.size o ∧ o.length = N ∧ D16 o ∧ Vd o + c * Bd (i + k) = Vk la i * Vd lb + gI la i * Vk lb k * Bd i ∧ Below W.heap.size W wr
def MulO (W : World) (N : Nat) (la lb : List Int) (i : Nat) (wr : World) : Prop :=
  ∃ o, Ol wr W.heap.size o ∧ o.length = N ∧ D16 o ∧ Vd o = Vk la i * Vd lb ∧ Below W.heap.size W wr
theorem MulI.start {W : World} {N : Nat} {la lb : List Int} {i : Nat} {wr : World} (h : MulO W N la lb i wr) : MulI W N la lb i 0 0 wr := by
  obtain ⟨o, h1, h2, h3, h4, h5⟩ := h
  exact ⟨o, h1, h2, h3, by rw [h4, Vk_zero]; simp, h5⟩
theorem MulI.done {W : World} {N : Nat} {la lb : List Int} {i k : Nat} {wr : World} (h : MulI W N la lb i k 0 wr) (hk : lb.length ≤ k) : MulO W N la lb (i + 1) wr := by
  obtain ⟨o, h1, h2, h3, h4, h5⟩ := h
  refine ⟨o, h1, h2, h3, ?_, h5⟩
  rw [Vk_all hk] at h4
  rw [Vk_succ]
  generalize Vk la i = s at *
  generalize gI la i = x at *
  generalize Bd i = bi at *
  generalize Vd lb = z at *
  grind
/-- While something is carried, there is room. -/
theorem MulI.room {W : World} {N : Nat} {la lb : List Int} {i k : Nat} {c : Int} {wr : World} (h : MulI W N la lb i k c wr) (ha : D16 la) (hb : D16 lb) (hc : 0 < c) (hk : lb.length ≤ k) : k ≤ lb.length := by
  obtain ⟨o, h1, h2, h3, h4, h5⟩ := h
  rw [Vk_all hk] at h4
  have h6 := mul_top ha hb (i := i)
  have h7 := Vd_nonneg h3
  rcases Nat.lt_or_ge lb.length k with g | g
  · have h8 := Bd_mono (show i + 1 + lb.length ≤ i + k by omega)
    have h9 := Bd_pos (i + k)
    have := Int.mul_le_mul_of_nonneg_right (show 1 ≤ c by omega) (Int.le_of_lt h9)
    omega
  · exact g

set_option maxHeartbeats 3200000 in
theorem zMul_any (g h : Bool) (a b : Option Addr) (n m c d : Nat) (p q : Int) (w : World) (hp : ZI w (.agg #[.bool g, .slice a n c]) n p) (hq : ZI w (.agg #[.bool h, .slice b m d]) m q) (hn : n ≤ 10000000) (hm : m ≤ 10000000) :
    Calls Tryd.prog 16 #[.agg #[.bool g, .slice a n c], .agg #[.bool h, .slice b m d]] w (Zf w (p * q) (n + m + 1)) := by
  obtain ⟨la, hl, hi, hd, hnl, hv, hg⟩ := hp.open
  obtain ⟨lb, hl', hi', hd', hnl', hv', hg'⟩ := hq.open
  have hp := Lib.hid hp
  have hq := Lib.hid hq
  have HIA := Lib.hid (fun w' (k : Below w.heap.size w w') => hi.below k)
  have HIB := Lib.hid (fun w' (k : Below w.heap.size w w') => hi'.below k)
  have HLA := Lib.hid hd
  have HLB := Lib.hid hd'
  have HV := Lib.hid hv
  have HV' := Lib.hid hv'
  have HG := Lib.hid hg
  have HG' := Lib.hid hg'
  have HL := Lib.hid hl
  have HL' := Lib.hid hl'
  clear hi hi' hd hd' hnl hnl' hv hv' hg hg' hl hl'
  obtain ⟨N, hN⟩ : ∃ N, N = n + m + 1 := ⟨_, rfl⟩
  have hNb : N ≤ 1000000000 := by omega
  have HN := Lib.hid hN
  clear hN
  have hsz : ((((w.alloc (.cells #[.bool g, .slice a n c] 28)).alloc (.cells #[.bool h, .slice b m d] 28)).alloc (.cells #[.bool false, .slice none 0 0] 28))).heap.size = w.heap.size + 1 + 1 + 1 := by simp
  have HW := Lib.hid (Below.three w (.cells #[.bool g, .slice a n c] 28) (.cells #[.bool h, .slice b m d] 28) (.cells #[.bool false, .slice none 0 0] 28))
  have VA := Lib.hid (Z2 hp.out hq.out (.cells #[.bool false, .slice none 0 0] 28)).1
  have VB := Lib.hid (Z2 hp.out hq.out (.cells #[.bool false, .slice none 0 0] 28)).2
  have X := Lib.hid (BoxZ.new' (w := (w.alloc (.cells #[.bool g, .slice a n c] 28)).alloc (.cells #[.bool h, .slice b m d] 28)) (b := w.heap.size + 1 + 1) (g := false) (a := none) (n := 0) (c := 0) (by simp))
  have HS := Lib.hid hsz
  clear hsz
  go_enter Tryd.func16, Tryd.ntmps16
  go_wp2_with (at_make; refine makeI rfl _ _ _ rfl (by kernel_rfl) N _ _ rfl rfl (by have := HN.out; omega) (by have := HN.out; omega) hNb ?_; intro w1 hO hB)
  generalize (((w.alloc (.cells #[.bool g, .slice a n c] 28)).alloc (.cells #[.bool h, .slice b m d] 28)).alloc (.cells #[.bool false, .slice none 0 0] 28)) = W at *
  rw [← HS.out]
  have h0 : Hid (MulO W N la lb 0 w1) := Lib.hid ⟨_, hO, by simp, D16_zero _, by rw [Vd_zero, Vk_zero]; simp, hB⟩
  clear hO hB hp hq
  go_loopw [6] (fun i wr => ∃ k : Nat, k ≤ n ∧ i = .int .i64 k ∧ Hid (MulO W N la lb k wr)) (fun i _ => n - (intOf i).toNat)
  case atStart => exact ⟨0, by omega, rfl, h0⟩
  case round =>
    clear h0
    obtain ⟨i, hi, rfl, HO⟩ := hrel
    by_cases hlt : i < n
    · have HI0 : Hid (MulI W N la lb i 0 0 wr) := Lib.hid (MulI.start HO.out)
      have hBr : Below W.heap.size W wr := by obtain ⟨o, _, _, _, _, h⟩ := HO.out; exact h
      obtain ⟨oa0, oa1, oa2, _⟩ := VA.out.below hBr
      obtain ⟨ob0, ob1, ob2, _⟩ := VB.out.below hBr
      obtain ⟨ba, fa, rfl, hba, _, ca⟩ := (HIA.out _ (Below.up HW.out hBr)).at (k := i) (by have := HL.out; omega)
      clear hBr HO
      go_wp2_with fail
      clear oa0 oa1 oa2 ob0 ob1 ob2 ca hba
      go_loopw [7, 8] (fun cv kv wi => ∃ (k : Nat) (cc : Int), k ≤ m + 1 ∧ 0 ≤ cc ∧ cc ≤ 65535 ∧ kv = .int .i64 k ∧ cv = .int .i64 cc ∧ Hid (MulI W N la lb i k cc wi)) (fun _ kv _ => m + 1 - (intOf kv).toNat)
      case atStart => exact ⟨0, 0, by omega, by omega, by omega, rfl, rfl, HI0⟩
      case round =>
        clear HI0
        obtain ⟨k, cc, hk, c0, c1, rfl, rfl, HI⟩ := hrel
        obtain ⟨o, hOl, hlen, hd, hv, hB⟩ := HI.out
        have XA := Lib.hid (VA.out.below hB)
        have XB := Lib.hid (VB.out.below hB)
        by_cases hkm : k < m
        · obtain ⟨oa0, oa1, oa2, _⟩ := XA.out
          obtain ⟨ob0, ob1, ob2, _⟩ := XB.out
          have hiA := HIA.out _ (Below.up HW.out hB)
          obtain ⟨ba', fa', e', hba, _, ca⟩ := hiA.at (k := i) (by have := HL.out; omega)
          cases e'
          rw [← gI_at (by have := HL.out; omega)] at ca
          clear hiA
          have hk1 : k ≤ m := by omega
          have x0 := HLA.out.gI i
          have y0 := HLB.out.gI k
          have z0 := hd.gI (i + k)
          have hik : i + k < N := by have := HN.out; omega
          have cz := hOl.cell (j := i + k) (by omega)
          have fz := hOl.free (i + k)
          have hst := Lib.hid (fun M hM => mul_step (x := gI la i) (y := gI lb k) (c := cc) (N := M) (show i + k < o.length by omega) hv hM)
          have EV := Lib.hid (Vk_succ lb k)
          have DQ := Lib.hid (digit_q _ lb k wr (HIB.out _ (Below.up HW.out hB)))
          have OL := Lib.hid hOl
          have HD := Lib.hid hd
          have HB := Lib.hid hB
          clear hOl hd hB hv HI
          have mb := Int.mul_nonneg x0.1 y0.1
          have mb2 := Int.mul_le_mul x0.2 y0.2 y0.1 (show (0 : Int) ≤ 65535 by decide)
          generalize hx : gI la i = x at *
          generalize hy : gI lb k = y at *
          generalize hz : gI o (i + k) = z at *
          have HX := Lib.hid hx
          have HY := Lib.hid hy
          have HZ := Lib.hid hz
          clear hx hy hz
          obtain ⟨xy, hxy⟩ : ∃ xy, xy = x * y := ⟨_, rfl⟩
          rw [← hxy] at mb mb2
          have q1 : (i : Int) < (n : Int) := by omega
          have q2 : (0 : Int) ≤ (i : Int) := by omega
          have q3 : ((i : Int)).toNat = i := rfl
          have q4 : IntKind.i64.wrap ((i : Int) + (k : Int)) = (i : Int) + (k : Int) := IntWalk.i64_in _ (by omega)
          have q5 : (0 : Int) ≤ (i : Int) + (k : Int) := by omega
          have q6 : (i : Int) + (k : Int) < (N : Int) := by omega
          have q7 : ((i : Int) + (k : Int)).toNat = i + k := by omega
          have q8 : IntKind.i64.wrap (x * y) = xy := by rw [hxy]; exact IntWalk.i64_in _ (by omega)
          have q9 : IntKind.i64.wrap (z + xy) = z + xy := IntWalk.i64_in _ (by omega)
          have q10 : IntKind.i64.wrap (z + xy + cc) = z + xy + cc := IntWalk.i64_in _ (by omega)
          have hxy' := Lib.hid hxy
          clear hxy
          go_wp2_with fail
          go_quiet ((go_at_call 46; with_reducible exact Calls.quiet_of_same (DQ.out _)))
          clear q1 q2 q3 q4 q5 q6 q7 q8 q9 q10
          have hN0 : 0 ≤ z + xy + cc := by omega
          have hN1 : z + xy + cc ≤ 4294967295 := by omega
          obtain ⟨M, hM⟩ : ∃ M, M = z + xy + cc := ⟨_, rfl⟩
          rw [← hM] at hN0 hN1 ⊢
          have HM := Lib.hid (show M = z + x * y + cc by rw [hM, hxy'.out])
          have S : Hid (MulI W N la lb i (k + 1) (M / 65536) ((wr.drewN nq).setCell ⟨W.heap.size, i + k, none⟩ (.int .i64 (M % 65536)))) := Lib.hid ⟨o.set (i + k) (M % 65536), (OL.out.drewN nq).set _ _, by rw [List.length_set]; exact hlen, HD.out.set _ (by omega), by rw [EV.out, HX.out]; exact hst.out _ HM.out, (below_drewN HB.out nq).setCell (p := ⟨W.heap.size, i + k, none⟩) (Nat.le_refl _) _⟩
          clear hst HM EV hM hxy' mb mb2 OL HD DQ HX HY HZ
          have q5 : (0 : Int) ≤ (i : Int) + (k : Int) := by omega
          have q6 : (i : Int) + (k : Int) < (N : Int) := by omega
          have q7 : ((i : Int) + (k : Int)).toNat = i + k := by omega
          go_wp2_with fail
          go_roundw
          case rel => exact ⟨k + 1, _, by omega, by omega, by omega, by go_num, rfl, S⟩
          case measure => simp [intOf] <;> omega
        · by_cases hc : 0 < cc
          · have hk2 := MulI.room HI.out HLA.out HLB.out hc (by have := HL'.out; omega)
            have hkm1 : k ≤ m := by have := HL'.out; omega
            obtain ⟨oa0, oa1, oa2, _⟩ := XA.out
            obtain ⟨ob0, ob1, ob2, _⟩ := XB.out
            have hiA := HIA.out _ (Below.up HW.out hB)
            obtain ⟨ba', fa', e', hba, _, ca⟩ := hiA.at (k := i) (by have := HL.out; omega)
            cases e'
            rw [← gI_at (by have := HL.out; omega)] at ca
            clear hiA hk2
            have x0 := HLA.out.gI i
            have y0 := HLB.out.gI k
            have z0 := hd.gI (i + k)
            have hik : i + k < N := by have := HN.out; omega
            have cz := hOl.cell (j := i + k) (by omega)
            have fz := hOl.free (i + k)
            have hst := Lib.hid (fun M hM => mul_step (x := gI la i) (y := gI lb k) (c := cc) (N := M) (show i + k < o.length by omega) hv hM)
            have EV := Lib.hid (Vk_succ lb k)
            have DQ := Lib.hid (digit_q _ lb k wr (HIB.out _ (Below.up HW.out hB)))
            have OL := Lib.hid hOl
            have HD := Lib.hid hd
            have HB := Lib.hid hB
            clear hOl hd hB hv HI
            have mb := Int.mul_nonneg x0.1 y0.1
            have mb2 := Int.mul_le_mul x0.2 y0.2 y0.1 (show (0 : Int) ≤ 65535 by decide)
            generalize hx : gI la i = x at *
            generalize hy : gI lb k = y at *
            generalize hz : gI o (i + k) = z at *
            have HX := Lib.hid hx
            have HY := Lib.hid hy
            have HZ := Lib.hid hz
            clear hx hy hz
            obtain ⟨xy, hxy⟩ : ∃ xy, xy = x * y := ⟨_, rfl⟩
            rw [← hxy] at mb mb2
            have q1 : (i : Int) < (n : Int) := by omega
            have q2 : (0 : Int) ≤ (i : Int) := by omega
            have q3 : ((i : Int)).toNat = i := rfl
            have q4 : IntKind.i64.wrap ((i : Int) + (k : Int)) = (i : Int) + (k : Int) := IntWalk.i64_in _ (by omega)
            have q5 : (0 : Int) ≤ (i : Int) + (k : Int) := by omega
            have q6 : (i : Int) + (k : Int) < (N : Int) := by omega
            have q7 : ((i : Int) + (k : Int)).toNat = i + k := by omega
            have q8 : IntKind.i64.wrap (x * y) = xy := by rw [hxy]; exact IntWalk.i64_in _ (by omega)
            have q9 : IntKind.i64.wrap (z + xy) = z + xy := IntWalk.i64_in _ (by omega)
            have q10 : IntKind.i64.wrap (z + xy + cc) = z + xy + cc := IntWalk.i64_in _ (by omega)
            have hxy' := Lib.hid hxy
            clear hxy
            go_wp2_with fail
            go_quiet ((go_at_call 46; with_reducible exact Calls.quiet_of_same (DQ.out _)))
            clear q1 q2 q3 q4 q5 q6 q7 q8 q9 q10
            have hN0 : 0 ≤ z + xy + cc := by omega
            have hN1 : z + xy + cc ≤ 4294967295 := by omega
            obtain ⟨M, hM⟩ : ∃ M, M = z + xy + cc := ⟨_, rfl⟩
            rw [← hM] at hN0 hN1 ⊢
            have HM := Lib.hid (show M = z + x * y + cc by rw [hM, hxy'.out])
            have S : Hid (MulI W N la lb i (k + 1) (M / 65536) ((wr.drewN nq).setCell ⟨W.heap.size, i + k, none⟩ (.int .i64 (M % 65536)))) := Lib.hid ⟨o.set (i + k) (M % 65536), (OL.out.drewN nq).set _ _, by rw [List.length_set]; exact hlen, HD.out.set _ (by omega), by rw [EV.out, HX.out]; exact hst.out _ HM.out, (below_drewN HB.out nq).setCell (p := ⟨W.heap.size, i + k, none⟩) (Nat.le_refl _) _⟩
            clear hst HM EV hM hxy' mb mb2 OL HD DQ HX HY HZ
            have q5 : (0 : Int) ≤ (i : Int) + (k : Int) := by omega
            have q6 : (i : Int) + (k : Int) < (N : Int) := by omega
            have q7 : ((i : Int) + (k : Int)).toNat = i + k := by omega
            go_wp2_with fail
            go_roundw
            case rel => exact ⟨k + 1, _, by omega, by omega, by omega, by go_num, rfl, S⟩
            case measure => simp [intOf] <;> omega
          · obtain rfl : cc = 0 := by omega
            have S := Lib.hid (MulI.done HI.out (by have := HL'.out; omega))
            obtain ⟨oa0, oa1, oa2, _⟩ := XA.out
            obtain ⟨ob0, ob1, ob2, _⟩ := XB.out
            clear HI hOl hd hv hB
            have dk : decide ((k : Int) < (m : Int)) = false := decide_eq_false (by omega)
            go_wp2_with fail
            go_roundw
            case rel => exact ⟨i + 1, by omega, by go_num, S⟩
            case measure => simp [intOf] <;> omega
    · obtain rfl : i = n := by omega
      obtain ⟨o, hOl, hlen, hd, hv, hB⟩ := HO.out
      have hI := Lib.hid (hOl.ins hlen (Nat.le_refl N) hd)
      have HD := Lib.hid hd
      have HVo : Hid (Vd o = (p.natAbs : Int) * q.natAbs) := Lib.hid (by rw [hv, Vk_all (by rw [HL.out]; exact Nat.le_refl _), HV.out, HV'.out])
      obtain ⟨oa0, oa1, oa2, _⟩ := VA.out.below hB
      obtain ⟨ob0, ob1, ob2, _⟩ := VB.out.below hB
      have HB := Lib.hid hB
      clear hOl hd hv hB HO
      go_wp2_with fail
      refine (made_any _ _ _ o N _ hI.out HD.out (by omega)).mono ?_
      rintro e w2 ⟨g2, a2, c2, k2, rfl, hR, hk2, hB⟩
      have T2 := Lib.hid (Below.up HB.out hB)
      have zb := X.out.below T2.out
      have R2 := Lib.hid (ZI.z (y := p * q) hR (by
        rw [HVo.out, HG.out, HG'.out]
        exact mul_sign p q))
      obtain ⟨zu, zv, zc, zd, ze, zf⟩ := zb.open
      have ZB := Lib.hid zb
      clear zb hR hB oa0 oa1 oa2 ob0 ob1 ob2
      go_wp2_with fail
      have f1 := ZV.put ZB.out R2.out
      exact bodyPost_ret (v := .agg #[.bool g2, .slice a2 k2 c2]) (by simp [results, Tryd.results16, go_sem, f1.1, f1.2.1, zc, zd]) rfl (fin_Z ZB.out R2.out (by omega) (by have := HN.out; omega) (Below.up HW.out T2.out))
end Go.Proofs.YtkhchaoehlefdaaDoor
