/- Contract: lookAhead. -/
import Derived.Test.YtkhchaoehlefdaaDoorEzC
import Derived.Test.YtkhchaoehlefdaaDoorEyE
set_option linter.unusedVariables false
set_option linter.unusedSimpArgs false
namespace Go.Proofs.YtkhchaoehlefdaaDoor
open Go.RowKit

/-- Steps, as they lie in memory. -/
def StAt (w : World) (b : Nat) (u0 v0 u1 v1 : Int) (o : Bool) : Prop := w.heap[b]? = some (.cells #[.int .u64 u0, .int .u64 v0, .int .u64 u1, .int .u64 v1, .bool o] 91 (0, 0))
theorem StAt.lt {w : World} {b : Nat} {u0 v0 u1 v1 : Int} {o : Bool} (h : StAt w b u0 v0 u1 v1 o) : b < w.heap.size := (Array.getElem?_eq_some_iff.1 h).1
theorem StAt.cells {w : World} {b : Nat} {u0 v0 u1 v1 : Int} {o : Bool} (h : StAt w b u0 v0 u1 v1 o) :
    w.cell? ⟨b, 0, none⟩ = some (.int .u64 u0) ∧ w.cell? ⟨b, 1, none⟩ = some (.int .u64 v0) ∧ w.cell? ⟨b, 2, none⟩ = some (.int .u64 u1) ∧ w.cell? ⟨b, 3, none⟩ = some (.int .u64 v1) ∧ w.cell? ⟨b, 4, none⟩ = some (.bool o) := by
  unfold StAt at h
  simp [World.cell?, h]
theorem StAt.free {w : World} {b : Nat} {u0 v0 u1 v1 : Int} {o : Bool} (h : StAt w b u0 v0 u1 v1 o) :
    w.frozen? ⟨b, 0, none⟩ = false ∧ w.frozen? ⟨b, 1, none⟩ = false ∧ w.frozen? ⟨b, 2, none⟩ = false ∧ w.frozen? ⟨b, 3, none⟩ = false ∧ w.frozen? ⟨b, 4, none⟩ = false := by
  unfold StAt at h
  simp [World.frozen?, h]
theorem StAt.other {w : World} {b : Nat} {u0 v0 u1 v1 : Int} {o : Bool} (h : StAt w b u0 v0 u1 v1 o) {a : Addr} (ha : a.block ≠ b) (v : Value) : StAt (w.setCell a v) b u0 v0 u1 v1 o :=
  (Below.heap_setCell _ _ _ _ (Ne.symm ha)).trans h
theorem heap_set {w : World} {b i : Nat} {C : Array Value} {T : TypeId} {f : Nat × Nat} (h : w.heap[b]? = some (.cells C T f)) (v : Value) : (w.setCell ⟨b, i, none⟩ v).heap[b]? = some (.cells (C.setIfInBounds i v) T f) := by
  simp [World.setCell, Array.getElem?_modify, h]
theorem StAt.set0 {w : World} {b : Nat} {u0 v0 u1 v1 : Int} {o : Bool} (h : StAt w b u0 v0 u1 v1 o) (z : Int) : StAt (w.setCell ⟨b, 0, none⟩ (.int .u64 z)) b z v0 u1 v1 o := heap_set h _
theorem StAt.set1 {w : World} {b : Nat} {u0 v0 u1 v1 : Int} {o : Bool} (h : StAt w b u0 v0 u1 v1 o) (z : Int) : StAt (w.setCell ⟨b, 1, none⟩ (.int .u64 z)) b u0 z u1 v1 o := heap_set h _
theorem StAt.set2 {w : World} {b : Nat} {u0 v0 u1 v1 : Int} {o : Bool} (h : StAt w b u0 v0 u1 v1 o) (z : Int) : StAt (w.setCell ⟨b, 2, none⟩ (.int .u64 z)) b u0 v0 z v1 o := heap_set h _
theorem StAt.set3 {w : World} {b : Nat} {u0 v0 u1 v1 : Int} {o : Bool} (h : StAt w b u0 v0 u1 v1 o) (z : Int) : StAt (w.setCell ⟨b, 3, none⟩ (.int .u64 z)) b u0 v0 u1 z o := heap_set h _
theorem StAt.set4 {w : World} {b : Nat} {u0 v0 u1 v1 : Int} {o : Bool} (h : StAt w b u0 v0 u1 v1 o) (z : Bool) : StAt (w.setCell ⟨b, 4, none⟩ (.bool z)) b u0 v0 u1 v1 z := heap_set h _

/-- The highest bits of a number of m words, in one of k + 3. -/
def hb (x : Nat → Int) (m k s : Nat) : Int := hi64 (wd x m (k + 2)) (wd x m (k + 1)) (wd x m k) (2 ^ s) (2 ^ (32 - s))
theorem hb_is {x : Nat → Int} (hx : Dg x) {m k s : Nat} (hm : m ≤ k + 3) (hs : s < 32) : hb x m k s = V x m / (2 ^ (32 - s) * P k) := by
  obtain ⟨t0, t1, t2⟩ := pow_parts hs
  have h := high_is (wd_dg hx m) k t0 t1 t2
  obtain ⟨d, hd⟩ : ∃ d, k + 3 = m + d := ⟨k + 3 - m, by omega⟩
  rw [hd, wd_V] at h
  exact h.symm
theorem look_start {x y : Nat → Int} (hx : Dg x) (hy : Dg y) {m k s : Nat} (hm : m ≤ k + 3) (hle : V y m ≤ V x (k + 3)) (hs : s < 32) (ht : x (k + 2) * 2 ^ s ≤ 4294967295) :
    wd x (k + 3) (k + 2) * 2 ^ s ≤ 4294967295 ∧ wd y m (k + 2) * 2 ^ s ≤ 4294967295 ∧ 0 ≤ hb y m k s ∧ hb y m k s ≤ hb x (k + 3) k s ∧
    ∃ D, 0 < D ∧ hb x (k + 3) k s = V x (k + 3) / D ∧ hb y m k s = V y m / D := by
  obtain ⟨t0, t1, t2⟩ := pow_parts hs
  have hD : 0 < 2 ^ (32 - s) * P k := Int.mul_pos t1 (P_pos k)
  have e1 := hb_is hx (Nat.le_refl (k + 3)) hs
  have e2 := hb_is hy hm hs
  have e3 : wd x (k + 3) (k + 2) = x (k + 2) := by unfold wd; rw [if_pos (by omega)]
  have e4 : wd y m (k + 2) ≤ x (k + 2) := by
    have hV : V (wd y m) (k + 3) = V y m := by
      obtain ⟨d, hd⟩ : ∃ d, k + 3 = m + d := ⟨k + 3 - m, by omega⟩
      rw [hd, wd_V]
    have h1 : V (wd y m) (k + 3) = V (wd y m) (k + 2) + wd y m (k + 2) * P (k + 2) := V_succ _ _
    have h2 : V x (k + 3) = V x (k + 2) + x (k + 2) * P (k + 2) := V_succ _ _
    have h3 := V_nonneg (wd_dg hy m) (k + 2)
    have h4 := V_lt hx (k + 2)
    have h5 : wd y m (k + 2) * P (k + 2) < (x (k + 2) + 1) * P (k + 2) := by rw [Int.add_mul, Int.one_mul]; omega
    have := Int.lt_of_mul_lt_mul_right h5 (Int.le_of_lt (P_pos _))
    omega
  refine ⟨by rw [e3]; exact ht, ?_, ?_, ?_, _, hD, e1, e2⟩
  · have : wd y m (k + 2) * 2 ^ s ≤ x (k + 2) * 2 ^ s := Int.mul_le_mul_of_nonneg_right e4 (by omega)
    omega
  · rw [e2]; exact Int.ediv_nonneg (V_nonneg hy m) (by omega)
  · rw [e1, e2]; exact Int.ediv_le_ediv hD hle

/-- What is true between two rounds of lookAhead. -/
def LookI (X Y x y U V u v u0 v0 : Int) (o : Bool) : Prop :=
  LI X Y x y U V u v o ∧ (v0 = 0 ∨ GQ X Y u0 v0 U V o) ∧ v ≤ 18446744073709551615 ∧ (0 ≤ u0 ∧ u0 ≤ 4294967295) ∧ (0 ≤ v0 ∧ v0 ≤ 4294967295) ∧ (0 ≤ U ∧ U ≤ 4294967295) ∧ (0 ≤ V ∧ V ≤ 4294967295)
theorem lookI_start {X Y : Int} (h0 : 0 ≤ Y) (h1 : Y ≤ X) : LookI X Y X Y 1 0 0 1 0 0 true :=
  ⟨LI_start h0 h1, .inl rfl, by decide, by decide, by decide, by decide, by decide⟩
theorem lookI_step {X Y x y U V u v u0 v0 : Int} {o : Bool} (h : LookI X Y x y U V u v u0 v0 o) (hX : X ≤ 18446744073709551615) (hy : v ≤ y) (hxy : V + v ≤ x - y) :
    LookI X Y y (x % y) u v (U + x / y * u) (V + x / y * v) U V (!o) ∧ v ≤ 4294967295 ∧ 0 ≤ u ∧ u ≤ v ∧ 0 ≤ V ∧ V ≤ v ∧ 0 ≤ U ∧ U ≤ v ∧ 1 ≤ v ∧ y ≤ x ∧ x ≤ X ∧ 1 ≤ x / y ∧ x / y ≤ x ∧ 0 ≤ x / y * y ∧ x / y * y ≤ x ∧ x - x / y * y = x % y ∧
    0 ≤ x / y * u ∧ U + x / y * u ≤ V + x / y * v ∧ 0 ≤ x / y * v ∧ V + x / y * v ≤ X := by
  obtain ⟨hL, hG, hv, a1, a2, a3, a4⟩ := h
  have s1 := LI_small hL hX hy
  obtain ⟨g1, g2, g3, g4, g5⟩ := LI_step hL hy
  have hL' := hL
  obtain ⟨h0, h1, hxX, hU, hV, hu, hv1, hVv, huv, hUv, hUV, hVu, hUu, hs⟩ := hL
  have hq : x / y ≤ x := Int.ediv_le_self y (by omega)
  have hq0 : 0 ≤ x / y := by omega
  have m1 : 0 ≤ x / y * y := Int.mul_nonneg hq0 h0
  have m2 : 0 ≤ x / y * u := Int.mul_nonneg hq0 hu
  have m3 : 0 ≤ x / y * v := Int.mul_nonneg hq0 (by omega)
  have m4 : U + x / y * u ≤ V + x / y * v := g1.2.2.2.2.2.2.2.2.1
  refine ⟨⟨g1, .inr ⟨x, y, ?_, hy, hxy⟩, by omega, ⟨hU, by omega⟩, ⟨hV, by omega⟩, ⟨hu, by omega⟩, ⟨by omega, s1⟩⟩, s1, hu, huv, hV, hVv, hU, hUv, hv1, h1, hxX, g2, hq, m1, g3, g4, m2, m4, m3, g5⟩
  rw [Bool.not_not]
  exact hL'

/-- What lookAhead says of two numbers. -/
def Good (a b u0 v0 u1 v1 : Int) (o : Bool) : Prop :=
  (0 ≤ u0 ∧ u0 ≤ 4294967295) ∧ (0 ≤ v0 ∧ v0 ≤ 4294967295) ∧ (0 ≤ u1 ∧ u1 ≤ 4294967295) ∧ (0 ≤ v1 ∧ v1 ≤ 4294967295) ∧
  (v0 ≠ 0 → 0 ≤ bft o u1 v1 a b ∧ bft o u1 v1 a b < aft o u0 v0 a b ∧ aft o u0 v0 a b ≤ b ∧ Int.gcd (aft o u0 v0 a b) (bft o u1 v1 a b) = Int.gcd a b)
theorem look_end {X Y x y U V u v u0 v0 a b D : Int} {o : Bool} (h : LookI X Y x y U V u v u0 v0 o) (hD : 0 < D) (hX : X = a / D) (hY : Y = b / D) : Good a b u0 v0 U V o := by
  obtain ⟨hL, hG, hv, a1, a2, a3, a4⟩ := h
  refine ⟨a1, a2, a3, a4, fun h0 => ?_⟩
  rcases hG with g | g
  · exact absurd g h0
  · refine steps_good g h0 hD (a' := a % D) (b' := b % D) ?_ ?_ (Int.emod_nonneg _ (by omega)) (Int.emod_lt_of_pos _ hD) (Int.emod_nonneg _ (by omega)) (Int.emod_lt_of_pos _ hD)
    · rw [hX, Int.mul_comm]; exact (Int.mul_ediv_add_emod a D).symm
    · rw [hY, Int.mul_comm]; exact (Int.mul_ediv_add_emod b D).symm

/-- Where the steps and the result lie. -/
def LookM (w : World) (h0 S : Nat) (u0 v0 u1 v1 : Int) (o : Bool) (wr : World) : Prop :=
  StAt wr S u0 v0 u1 v1 o ∧ StAt wr h0 0 0 0 0 false ∧ S ≠ h0 ∧ w.heap.size ≤ S ∧ w.heap.size ≤ h0 ∧ Below w.heap.size w wr
theorem LookM.start {w w3 : World} (hB : Below w.heap.size w w3) (hz : StAt w3 w.heap.size 0 0 0 0 false) (z0 z1 z2 z3 : Int) (b : Bool) :
    LookM w w.heap.size w3.heap.size z0 z1 z2 z3 b (w3.alloc (.cells #[.int .u64 z0, .int .u64 z1, .int .u64 z2, .int .u64 z3, .bool b] 91)) :=
  ⟨World.alloc_heap_new w3 _, (Below.heap_alloc _ _ _ hz.lt).trans hz, Nat.ne_of_gt hz.lt, hB.size, Nat.le_refl _, hB.alloc hB.size _⟩
theorem LookM.round {w wr : World} {h0 S : Nat} {u0 v0 u1 v1 : Int} {o : Bool} (h : LookM w h0 S u0 v0 u1 v1 o wr) (z0 z1 z2 z3 : Int) (b : Bool) :
    LookM w h0 S z0 z1 z2 z3 b (((((wr.setCell ⟨S, 0, none⟩ (.int .u64 z0)).setCell ⟨S, 2, none⟩ (.int .u64 z2)).setCell ⟨S, 1, none⟩ (.int .u64 z1)).setCell ⟨S, 3, none⟩ (.int .u64 z3)).setCell ⟨S, 4, none⟩ (.bool b)) := by
  obtain ⟨h1, h2, h3, h4, h5, h6⟩ := h
  exact ⟨((((h1.set0 z0).set2 z2).set1 z1).set3 z3).set4 b, ((((h2.other (a := ⟨S, 0, none⟩) h3 _).other (a := ⟨S, 2, none⟩) h3 _).other (a := ⟨S, 1, none⟩) h3 _).other (a := ⟨S, 3, none⟩) h3 _).other (a := ⟨S, 4, none⟩) h3 _, h3, h4, h5,
    ((((h6.setCell (p := ⟨S, 0, none⟩) h4 _).setCell (p := ⟨S, 2, none⟩) h4 _).setCell (p := ⟨S, 1, none⟩) h4 _).setCell (p := ⟨S, 3, none⟩) h4 _).setCell (p := ⟨S, 4, none⟩) h4 _⟩

/-- What lookAhead gives. -/
def LookP (p q : Int) (w : World) (e : Ending) (w' : World) : Prop :=
  ∃ u0 v0 u1 v1 o, e = .returned (.agg #[.int .u64 u0, .int .u64 v0, .int .u64 u1, .int .u64 v1, .bool o]) ∧ Good p q u0 v0 u1 v1 o ∧ Below w.heap.size w w'

set_option maxHeartbeats 4000000 in
set_option maxRecDepth 100000 in
theorem lookAhead_nr {w : World} {u v : Value} {k m : Nat} {p q : Int} (hu : Nr w u (k + 3) p) (hv : Nr w v m q) (hm : m ≤ k + 3) (hle : q ≤ p) (hk : k + 3 ≤ 900000) :
    Calls Tryd.prog 68 #[u, v] w (LookP p q w) := by
  obtain ⟨a, cap, x, rfl, hc, hx, hr, ht, rfl⟩ := hu
  obtain ⟨a2, cap2, y, rfl, hc2, hy, hr2, ht2, rfl⟩ := hv
  have HR := Lib.hid hr
  obtain ⟨d, o, rfl, hrow⟩ := hr (by omega)
  have htop : x (k + 2) ≠ 0 := ht (by omega)
  have g1 : w.cell? ⟨d, o + (k + 2), none⟩ = some (.int .u32 (x (k + 2))) := hrow (k + 2) (by omega)
  have hxt := hx (k + 2)
  have hdw : d < w.heap.size := hrow.lt (by omega)
  have C := Lib.hid (fun w => lead32 (x (k + 2)) w (by omega) hxt.2)
  have LS := Lib.hid (fun s (hs : s < 32) h => look_start hx hy hm hle (s := s) hs h)
  have H1 := Lib.hid (fun W s (hs : s < 32) h1 h2 => highBits_any (k + 3) cap k s (some ⟨d, o, none⟩) x W (by omega) (by omega) hs hx h1 h2)
  have H2 := Lib.hid (fun W s (hs : s < 32) h1 h2 => highBits_any m cap2 k s a2 y W (by omega) (by omega) hs hy h1 h2)
  have HR2 := Lib.hid hr2
  have f0 : Below w.heap.size w (w.alloc (.cells #[.int .u64 0, .int .u64 0, .int .u64 0, .int .u64 0, .bool false] 91)) := (Below.refl _ _).alloc (Nat.le_refl _) _
  have F0 := Lib.hid f0
  have z0 : StAt (w.alloc (.cells #[.int .u64 0, .int .u64 0, .int .u64 0, .int .u64 0, .bool false] 91)) w.heap.size 0 0 0 0 false := World.alloc_heap_new w _
  have Z0 := Lib.hid z0
  have g2 := (f0.cell (p := ⟨d, o + (k + 2), none⟩) hdw).trans g1
  clear hx hr ht hy hr2 ht2 hrow htop hxt f0 z0 g1
  go_enter Tryd.func68, Tryd.ntmps68
  go_wp2_with fail
  refine (C.out _).mono ?_
  rintro e w1 ⟨s, rfl, hs, l0, l1, rfl⟩
  obtain ⟨s1, s2, s3, s4, s5⟩ := LS.out s hs l1
  unfold hb at s3 s4 s5
  have S5 := Lib.hid s5
  have S34 := Lib.hid (lookI_start s3 s4)
  clear C l0 l1 LS g2 s5 s3 s4
  go_wp2_with fail
  refine (H1.out _ s hs (HR.out.below F0.out) s1).mono ?_
  rintro e w2 ⟨rfl, x0, x1, hB1⟩
  have HB1 := Lib.hid hB1
  clear hB1 H1 s1
  go_wp2_with fail
  refine (H2.out _ s hs ((HR2.out.below F0.out).below HB1.out) s2).mono ?_
  rintro e w3 ⟨rfl, y0, y1, hB2⟩
  have HB2 := Lib.hid hB2
  clear hB2 H2 s2
  have HS := Lib.hid (LookM.start ((F0.out.trans (HB1.out.mono F0.out.size)).trans (HB2.out.mono (Nat.le_trans F0.out.size HB1.out.size))) (((HB2.out.block _ (Nat.lt_of_lt_of_le Z0.out.lt HB1.out.size)).trans (HB1.out.block _ Z0.out.lt)).trans Z0.out) 0 0 1 0 true)
  have hlt0 := (Nat.lt_of_lt_of_le (Nat.lt_of_lt_of_le Z0.out.lt HB1.out.size) HB2.out.size)
  have HX := Lib.hid (And.intro x0 x1)
  clear F0 Z0 HB1 HB2 HR HR2
  generalize hi64 (wd x (k + 3) (k + 2)) (wd x (k + 3) (k + 1)) (wd x (k + 3) k) (2 ^ s) (2 ^ (32 - s)) = X at *
  generalize hi64 (wd y m (k + 2)) (wd y m (k + 1)) (wd y m k) (2 ^ s) (2 ^ (32 - s)) = Y at *
  go_wp2_with fail
  go_loopw [6, 7, 9, 10] (fun sx sy su sv wr => ∃ (xx yy U V u v u0 v0 : Int) (o : Bool), sx = .int .u64 xx ∧ sy = .int .u64 yy ∧ su = .int .u64 u ∧ sv = .int .u64 v ∧ Hid (LookI X Y xx yy U V u v u0 v0 o) ∧ Hid (LookM w w.heap.size w3.heap.size u0 v0 U V o wr)) (fun _ sy _ _ _ => (intOf sy).toNat)
  case atStart => exact ⟨X, Y, 1, 0, 0, 1, 0, 0, true, rfl, rfl, rfl, rfl, S34, HS⟩
  case round =>
    clear S34 HS x0 x1 y0 y1
    obtain ⟨xx, yy, U, V', u, v, u0, v0, oo, rfl, rfl, rfl, rfl, A, M⟩ := hrel
    obtain ⟨⟨ca, cb, cc, cd, ce⟩, ⟨fa, fb, fc, fd, fe⟩⟩ := And.intro M.out.1.cells M.out.1.free
    by_cases h1 : v ≤ yy
    · obtain ⟨v32, p0⟩ : v ≤ 4294967295 ∧ 0 ≤ V' ∧ V' ≤ v ∧ 1 ≤ v ∧ yy ≤ xx ∧ xx ≤ X := by
        have hL := A.out.1
        have := LI_small hL HX.out.2 h1
        exact ⟨this, hL.2.2.2.2.1, hL.2.2.2.2.2.2.2.1, hL.2.2.2.2.2.2.1, hL.2.1, hL.2.2.1⟩
      obtain ⟨p0, p1, p2, p3, p4⟩ := p0
      have hX64 := HX.out.2
      by_cases h2 : V' + v ≤ xx - yy
      · obtain ⟨I, b1, b2, b3, b4, b5, b6, b7, b8, b9, b10, b11, b12, b13, b14, e15, b16, b17, b18, b19⟩ := lookI_step A.out HX.out.2 h1 h2
        have hd1 : decide (v ≤ yy) = true := decide_eq_true h1
        have hd2 : decide (V' + v ≤ xx - yy) = true := decide_eq_true h2
        have hq0 : (yy == 0) = false := by simp; omega
        have htd : IntKind.u64.wrap (xx.tdiv yy) = xx / yy := IntWalk.u64_quo xx yy ⟨by omega, by omega, by omega⟩
        have hr1 := Int.emod_lt_of_pos xx (show 0 < yy by omega)
        have hr0 := Int.emod_nonneg xx (show yy ≠ 0 by omega)
        rw [← e15] at I hr1 hr0
        have HI := Lib.hid I
        have MR := Lib.hid (M.out.round U V' u v (!oo))
        clear I e15 A M S5 p0 p1 p2 p3 p4 HX
        generalize xx / yy = q at *
        go_wp2_with fail
        go_roundw
        case rel => exact ⟨_, _, _, _, _, _, _, _, _, rfl, rfl, rfl, rfl, HI, MR⟩
        case measure => simp [intOf] <;> omega
      · have hd2 : decide (V' + v ≤ xx - yy) = false := decide_eq_false h2
        have hd1 : decide (v ≤ yy) = true := decide_eq_true h1
        obtain ⟨⟨ka, kb, kc, kd, ke⟩, ⟨ja, jb, jc, jd, je⟩⟩ := And.intro M.out.2.1.cells M.out.2.1.free
        have F := Lib.hid (look_end A.out S5.out.choose_spec.1 S5.out.choose_spec.2.1 S5.out.choose_spec.2.2)
        have HB := Lib.hid M.out.2.2.2.2.2
        clear A M S5
        go_wp2_with fail
        exact bodyPost_ret (v := .agg #[.int .u64 u0, .int .u64 v0, .int .u64 U, .int .u64 V', .bool oo]) (by simp [results, Tryd.results68, go_sem, ka, kb, kc, kd, ke]) rfl
          ⟨u0, v0, U, V', oo, rfl, F.out, ((((HB.out.setCell (p := ⟨w.heap.size, 0, none⟩) (Nat.le_refl _) _).setCell (p := ⟨w.heap.size, 1, none⟩) (Nat.le_refl _) _).setCell (p := ⟨w.heap.size, 2, none⟩) (Nat.le_refl _) _).setCell (p := ⟨w.heap.size, 3, none⟩) (Nat.le_refl _) _).setCell (p := ⟨w.heap.size, 4, none⟩) (Nat.le_refl _) _⟩
    · have hd1 : decide (v ≤ yy) = false := decide_eq_false h1
      obtain ⟨⟨ka, kb, kc, kd, ke⟩, ⟨ja, jb, jc, jd, je⟩⟩ := And.intro M.out.2.1.cells M.out.2.1.free
      have F := Lib.hid (look_end A.out S5.out.choose_spec.1 S5.out.choose_spec.2.1 S5.out.choose_spec.2.2)
      have HB := Lib.hid M.out.2.2.2.2.2
      clear A M S5
      go_wp2_with fail
      exact bodyPost_ret (v := .agg #[.int .u64 u0, .int .u64 v0, .int .u64 U, .int .u64 V', .bool oo]) (by simp [results, Tryd.results68, go_sem, ka, kb, kc, kd, ke]) rfl
        ⟨u0, v0, U, V', oo, rfl, F.out, ((((HB.out.setCell (p := ⟨w.heap.size, 0, none⟩) (Nat.le_refl _) _).setCell (p := ⟨w.heap.size, 1, none⟩) (Nat.le_refl _) _).setCell (p := ⟨w.heap.size, 2, none⟩) (Nat.le_refl _) _).setCell (p := ⟨w.heap.size, 3, none⟩) (Nat.le_refl _) _).setCell (p := ⟨w.heap.size, 4, none⟩) (Nat.le_refl _) _⟩
end Go.Proofs.YtkhchaoehlefdaaDoor
