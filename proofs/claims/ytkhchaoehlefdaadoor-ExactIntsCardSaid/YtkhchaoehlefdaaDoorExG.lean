/- Contracts: addProduct, longProduct, product of short numbers. -/
import Derived.Test.YtkhchaoehlefdaaDoorExF
namespace Go.Proofs.YtkhchaoehlefdaaDoor
open Go.RowKit

theorem prod_step {o x y : Nat → Int} {u : Int} {k : Nat} {c s c' : Int} (h : V o k + c * P k = V x k + u * V y k) (e : s + c' * 4294967296 = c + (y k * u + x k)) (o' : Nat → Int) (ho : ∀ j, j < k → o' j = o j) (hk : o' k = s) :
    V o' (k + 1) + c' * P (k + 1) = V x (k + 1) + u * V y (k + 1) := by
  rw [V_succ, V_succ, V_succ, P_succ, V_congr ho, hk]
  generalize V o k = a at *
  generalize P k = p at *
  grind
theorem mul_bounds {a b : Int} (ha : 0 ≤ a ∧ a ≤ 4294967295) (hb : 0 ≤ b ∧ b ≤ 4294967295) : 0 ≤ a * b ∧ a * b ≤ 18446744065119617025 := by
  have h1 := Int.mul_nonneg ha.1 hb.1
  have h2 := Int.mul_le_mul ha.2 hb.2 hb.1 (by omega : (0 : Int) ≤ 4294967295)
  omega

/-- What is true between two rounds of addProduct. -/
def MulRel (b off N : Nat) (x y : Nat → Int) (u : Int) (w : World) (k : Nat) (c : Int) (wr : World) : Prop :=
  ∃ x', Own wr b N x' ∧ Dg x' ∧ (∀ j, j < off ∨ off + k ≤ j → x' j = x j) ∧ V (sh x' off) k + c * P k = V (sh x off) k + u * V y k ∧ 0 ≤ c ∧ c ≤ 4294967295 ∧ Chg b w wr

theorem mulRel_step {b off N : Nat} {x y : Nat → Int} {u : Int} {w : World} {k : Nat} {c : Int} {wr : World} (h : MulRel b off N x y u w k c wr) (hx : Dg x) (hy : Dg y) (hu : 0 ≤ u ∧ u ≤ 4294967295) (hN : off + k < N) :
    MulRel b off N x y u w (k + 1) ((c + (y k * u + x (off + k))) / 4294967296) (wr.setCell ⟨b, off + k, none⟩ (.int .u32 ((c + (y k * u + x (off + k))) % 4294967296))) := by
  obtain ⟨x', hO, hd, hs, hv, c0, c1, hC⟩ := h
  have a1 := hx (off + k)
  have a2 := mul_bounds (hy k) hu
  generalize hp : y k * u = p at *
  refine ⟨upd x' (off + k) ((c + (p + x (off + k))) % 4294967296), hO.set hN _, hd.upd _ (by omega) (by omega), fun j hj => ?_, ?_, by omega, by omega, hC.setCell rfl _⟩
  · rw [upd_other (by omega)]; exact hs j (by omega)
  · rw [sh_upd]
    refine prod_step (s := (c + (p + x (off + k))) % 4294967296) hv ?_ _ (fun j hj => upd_other (by omega)) (upd_same _ _ _)
    rw [hp]
    show _ = c + (p + x (off + k))
    omega

set_option maxHeartbeats 800000 in
theorem addProduct_any (b off n m N cap cap2 : Nat) (a : Option Addr) (x y : Nat → Int) (u : Int) (w : World) (hm : n ≤ m) (hN : off + m ≤ N) (hn : m ≤ 1000000000)
    (hx : Dg x) (hy : Dg y) (hu : 0 ≤ u ∧ u ≤ 4294967295) (hO : Own w b N x) (hr : Sl w a n y) (hne : 0 < n → ∀ c o, a = some ⟨c, o, none⟩ → c ≠ b) :
    Calls Tryd.prog 77 #[.slice (some ⟨b, off, none⟩) m cap, .slice a n cap2, .int .u32 u] w fun e w' =>
      ∃ c, e = .returned (.int .u32 c) ∧ MulRel b off N x y u w n c w' := by
  have HR := Lib.hid hr
  have HN := Lib.hid hne
  have HX := Lib.hid hx
  have HY := Lib.hid hy
  have h0 : Hid (MulRel b off N x y u w 0 0 w) := ⟨x, hO, hx, fun _ _ => rfl, by simp [V_zero], by omega, by omega, Chg.refl _ _⟩
  obtain ⟨u0, u1⟩ := hu
  clear hr hne hx hy hO
  go_enter Tryd.func77, Tryd.ntmps77
  go_wp2_with fail
  go_loopw [7, 12] (fun c i wr => ∃ (k : Nat) (cc : Int), k ≤ n ∧ i = .int .i64 k ∧ c = .int .u64 cc ∧ Hid (MulRel b off N x y u w k cc wr)) (fun _ i _ => n - (intOf i).toNat)
  case atStart => exact ⟨0, 0, by omega, rfl, rfl, h0⟩
  case round =>
    clear h0
    obtain ⟨k, cc, hk, rfl, rfl, A⟩ := hrel
    obtain ⟨x', hO', hd', hs', hv', c0, c1, hC'⟩ := A.out
    by_cases hlt : k < n
    · obtain ⟨d, o, rfl, hrow⟩ := HR.out (by omega)
      have hdb := HN.out (by omega) d o rfl
      have g1 : wr.cell? ⟨d, o + k, none⟩ = some (.int .u32 (y k)) := (hrow.chg hC' hdb) k hlt
      have g2 : wr.cell? ⟨b, off + k, none⟩ = some (.int .u32 (x (off + k))) := by rw [← hs' (off + k) (by omega)]; exact hO'.cell (by omega)
      have g3 : wr.frozen? ⟨b, off + k, none⟩ = false := hO'.free _
      have S : Hid _ := mulRel_step A.out HX.out HY.out ⟨u0, u1⟩ (show off + k < N by omega)
      obtain ⟨b1, b2⟩ := HX.out (off + k)
      obtain ⟨b3, b4⟩ := HY.out k
      obtain ⟨b5, b6⟩ := mul_bounds (HY.out k) ⟨u0, u1⟩
      clear A hO' hd' hs' hv' hC' HR HN HX HY hrow
      generalize x (off + k) = xk at *
      generalize y k = yk at *
      go_wp2_with fail
      go_roundw
      case rel => exact ⟨k + 1, _, by omega, rfl, rfl, S⟩
      case measure => simp [intOf] <;> omega
    · obtain rfl : k = n := by omega
      clear HR HN HX HY hO' hd' hs' hv' hC'
      go_wp2_with fail
      go_ret
      exact ⟨_, ret_int (by omega), A.out⟩

/-- What is true between two rounds of longProduct. -/
def LongRel (b n m : Nat) (x y : Nat → Int) (w : World) (i : Nat) (wr : World) : Prop :=
  ∃ z, Own wr b (n + m) z ∧ Dg z ∧ (∀ j, n + i ≤ j → z j = 0) ∧ V z (n + i) = V x n * V y i ∧ Below w.heap.size w wr

theorem longRel_step {b n m : Nat} {x y z : Nat → Int} {w wr w1 : World} {i : Nat} {c : Int} (hz : ∀ j, n + i ≤ j → z j = 0) (hv : V z (n + i) = V x n * V y i) (hB : Below w.heap.size w wr) (hb : w.heap.size ≤ b)
    (hi : i < m) (h : MulRel b i (n + m) z x (y i) wr n c w1) : LongRel b n m x y w (i + 1) (w1.setCell ⟨b, i + n, none⟩ (.int .u32 c)) := by
  rw [Nat.add_comm i n]
  obtain ⟨z', hO', hd', hs', hv', c0, c1, hC'⟩ := h
  refine ⟨upd z' (n + i) c, hO'.set (by omega) _, hd'.upd _ (by omega) (by omega), fun j hj => ?_, ?_, ?_⟩
  · rw [upd_other (by omega), hs' j (by omega)]; exact hz j (by omega)
  · rw [← Nat.add_assoc, V_succ, upd_same, V_congr (y := z') (fun j hj => upd_other (by omega)), Nat.add_comm n i, V_add, V_congr (x := z') (y := z) (fun j hj => hs' j (by omega)), V_succ, P_add]
    rw [Nat.add_comm, V_add] at hv
    generalize V z i = p1 at *
    generalize V (sh z i) n = p2 at *
    generalize V (sh z' i) n = p3 at *
    generalize P i = p4 at *
    generalize P n = p5 at *
    generalize V x n = p6 at *
    generalize V y i = p7 at *
    grind
  · exact (Chg.below hB hC' hB.size hb).setCell (p := ⟨b, n + i, none⟩) hb _

set_option maxHeartbeats 1600000 in
set_option maxRecDepth 100000 in
theorem longProduct_any (a a2 : Option Addr) (n m cap cap2 : Nat) (x y : Nat → Int) (w : World) (hn : n ≤ 100000000) (hm : m ≤ n) (hx : Dg x) (hy : Dg y) (hr : Sl w a n x) (hr2 : Sl w a2 m y) :
    Calls Tryd.prog 64 #[.slice a n cap, .slice a2 m cap2] w fun e w' => ∃ v k, e = .returned v ∧ Nt w' w.heap.size v k (V x n * V y m) ∧ k ≤ n + m ∧ Below w.heap.size w w' := by
  have HX := Lib.hid hx
  have HY := Lib.hid hy
  have HR := Lib.hid hr
  have HR2 := Lib.hid hr2
  clear hr hr2 hx hy
  go_enter Tryd.func64, Tryd.ntmps64
  go_wp2_with (at_make; refine make32 rfl _ _ _ rfl (by kernel_rfl) (n + m) _ _ rfl rfl (by omega) (by omega) (by omega) ?_; intro w1 hO hB)
  have h0 : Hid (LongRel w.heap.size n m x y w 0 w1) := ⟨_, hO, Dg_zero, fun _ _ => rfl, by rw [V_zeros (fun _ _ => rfl)]; simp [V_zero], hB⟩
  clear hO hB
  go_loopw [16] (fun i wr => ∃ k : Nat, k ≤ m ∧ i = .int .i64 k ∧ Hid (LongRel w.heap.size n m x y w k wr)) (fun i _ => m - (intOf i).toNat)
  case atStart => exact ⟨0, by omega, rfl, h0⟩
  case round =>
    clear h0
    obtain ⟨k, hk, rfl, A⟩ := hrel
    obtain ⟨z, hO, hd, hz, hv, hB⟩ := A.out
    by_cases hlt : k < m
    · obtain ⟨d, o, rfl, hrow⟩ := HR2.out (by omega)
      have g1 : wr.cell? ⟨d, o + k, none⟩ = some (.int .u32 (y k)) := (hrow.below hB) k hlt
      have C := Lib.hid (addProduct_any w.heap.size k n (n + m - k) (n + m) (n + m - k) cap a z x (y k) wr (by omega) (by omega) (by omega) hd HX.out (HY.out k) hO (sl_below HR.out hB) (sl_ne HR.out (Nat.le_refl _)))
      have D := Lib.hid (fun c w1 h => longRel_step (c := c) (w1 := w1) hz hv hB (Nat.le_refl _) hlt h)
      have sz : w.heap.size < wr.heap.size := hO.lt
      clear A hO hd hz hv hB HR HR2 HX HY hrow
      generalize y k = yk at *
      go_wp2_with fail
      refine C.out.mono ?_
      rintro e w2 ⟨c, rfl, hM⟩
      have S : Hid _ := D.out c w2 hM
      obtain ⟨z', hO', _, _, _, c0, c1, _⟩ := hM
      have g2 := hO'.cell (j := k + n) (by omega)
      have g3 := hO'.free (k + n)
      clear hO' C D g1
      generalize z' (k + n) = zk at *
      go_wp2_with fail
      go_roundw
      case rel => exact ⟨k + 1, by omega, rfl, S⟩
      case measure => simp [intOf] <;> omega
    · obtain rfl : k = m := by omega
      have HV := Lib.hid hv
      clear HR HR2 HX HY A hv
      go_wp2_with fail
      refine (trim_any _ (n + k) _ z wr (by omega) (Nat.le_refl _) (sl_own hO (Nat.le_refl _))).mono ?_
      rintro e w4 ⟨rfl, rfl⟩
      go_wp2_with fail
      go_ret
      refine ⟨_, _, rfl, ?_, tl_le z _, hB⟩
      have := nt_of_trim hO hd (Nat.le_refl w.heap.size) (Nat.le_refl (n + k)) (Nat.le_refl (n + k))
      rw [HV.out] at this
      exact this

set_option maxHeartbeats 800000 in
theorem product_short (a a2 : Option Addr) (n m cap cap2 : Nat) (x y : Nat → Int) (w : World) (hn : n ≤ 100000000) (hn2 : m ≤ 100000000) (hm : n < 40 ∨ m < 40) (hx : Dg x) (hy : Dg y) (hr : Sl w a n x) (hr2 : Sl w a2 m y) :
    Calls Tryd.prog 41 #[.slice a n cap, .slice a2 m cap2] w fun e w' => ∃ v k, e = .returned v ∧ Nt w' w.heap.size v k (V x n * V y m) ∧ k ≤ n + m ∧ Below w.heap.size w w' := by
  have HX := Lib.hid hx
  have HY := Lib.hid hy
  have HR := Lib.hid hr
  have HR2 := Lib.hid hr2
  clear hr hr2 hx hy
  by_cases h : n < m
  · have h40 : n < 40 := by omega
    clear hm
    go_enter Tryd.func41, Tryd.ntmps41
    go_wp2_with fail
    refine (longProduct_any a2 a m n cap2 cap y x w hn2 (by omega) HY.out HX.out HR2.out HR.out).mono ?_
    rintro e w1 ⟨v, k, rfl, hN, hk, hB⟩
    have HN := Lib.hid hN
    clear hN
    go_wp2_with fail
    go_ret
    exact ⟨v, k, rfl, by rw [Int.mul_comm]; exact HN.out, by omega, hB⟩
  · have h40 : m < 40 := by omega
    clear hm
    go_enter Tryd.func41, Tryd.ntmps41
    go_wp2_with fail
    refine (longProduct_any a a2 n m cap cap2 x y w hn (by omega) HX.out HY.out HR.out HR2.out).mono ?_
    rintro e w1 ⟨v, k, rfl, hN, hk, hB⟩
    have HN := Lib.hid hN
    clear hN
    go_wp2_with fail
    go_ret
    exact ⟨v, k, rfl, HN.out, hk, hB⟩
end Go.Proofs.YtkhchaoehlefdaaDoor
