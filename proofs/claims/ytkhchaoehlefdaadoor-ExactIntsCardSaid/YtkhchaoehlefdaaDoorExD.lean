/- Contracts: fresh, ofWord, addWords, addTo, takeFrom. -/
import Derived.Test.YtkhchaoehlefdaaDoorExC
import Derived.Deep.LoopGhost
namespace Go.Proofs.YtkhchaoehlefdaaDoor
open Go.RowKit

theorem sl_below {w w' : World} {a : Option Addr} {n : Nat} {x : Nat → Int} (h : Sl w a n x) (k : Below w.heap.size w w') : Sl w' a n x :=
  fun hn => let ⟨b, off, e, hr⟩ := h hn; ⟨b, off, e, hr.below k⟩

set_option maxRecDepth 100000 in
theorem fresh_any (a : Option Addr) (n cap : Nat) (x : Nat → Int) (w : World) (hn : n ≤ 1000000000) (hd : Dg x) (hr : Sl w a n x) :
    Calls Tryd.prog 39 #[.slice a n cap] w fun e w' => ∃ v, e = .returned v ∧ Fr w' w.heap.size v n x ∧ Below w.heap.size w w' := by
  have HR := Lib.hid hr
  clear hr
  by_cases h0 : n = 0
  · subst h0
    go_enter Tryd.func39, Tryd.ntmps39
    go_wp2_with fail
    go_ret
    exact ⟨_, rfl, ⟨_, _, rfl, by omega, hd, fun h => absurd h (by omega)⟩, Below.refl _ _⟩
  · have h1 : 0 < n := by omega
    have h2 : ((n : Int) == 0) = false := by simp; omega
    go_enter Tryd.func39, Tryd.ntmps39
    go_wp2_with (first
      | (at_make; refine make32 rfl _ _ _ rfl (by kernel_rfl) n _ _ rfl rfl rfl rfl hn ?_; intro w1 hO hB)
      | ((with_reducible refine is_copy ?_); refine copy32 rfl _ _ _ _ rfl (by kernel_rfl) w.heap.size 0 n n a n cap rfl rfl n _ x hO n (by simp) (by omega) (sl_below HR.out hB) ?_; intro w2 hO2 hC))
    go_ret
    exact ⟨_, rfl, ⟨_, _, rfl, by omega, hd, fun _ => ⟨_, _, rfl, Nat.le_refl _, Nat.le_refl _, hO2.congr fun j hj => by simpa using cpy_in (x := fun _ => 0) (off := 0) (y := x) hj⟩⟩,
      Chg.below hB hC hB.size (Nat.le_refl _)⟩

theorem ofWord_any (z : Int) (hz : 0 ≤ z ∧ z ≤ 18446744073709551615) (w : World) :
    Calls Tryd.prog 58 #[.int .u64 z] w fun e w' => ∃ v n, e = .returned v ∧ Nt w' w.heap.size v n z ∧ n ≤ 2 ∧ Below w.heap.size w w' := by
  obtain ⟨z0, z1⟩ := hz
  have hO : Own (w.alloc (Obj.cells #[Value.int IntKind.u32 (z % 4294967296), Value.int IntKind.u32 (z / 4294967296)] 62)) w.heap.size 2 (fun j => if j = 0 then z % 4294967296 else if j = 1 then z / 4294967296 else 0) := by
    refine ⟨#[Value.int IntKind.u32 (z % 4294967296), Value.int IntKind.u32 (z / 4294967296)], heap_alloc_new _ _, rfl, fun j hj => ?_⟩
    rcases j with _ | _ | j
    · rfl
    · rfl
    · omega
  have hd : Dg (fun j => if j = 0 then z % 4294967296 else if j = 1 then z / 4294967296 else 0) := by
    intro j; dsimp only; split
    · omega
    · split <;> omega
  have hv : V (fun j => if j = 0 then z % 4294967296 else if j = 1 then z / 4294967296 else 0) 2 = z := by
    simp only [V_succ, V_zero, P_succ, P_zero]; simp; omega
  generalize hx : (fun j => if j = 0 then z % 4294967296 else if j = 1 then z / 4294967296 else 0 : Nat → Int) = x at hO hd hv
  clear hx
  have HV := Lib.hid hv
  clear hv
  go_enter Tryd.func58, Tryd.ntmps58
  go_wp2_with fail
  refine (trim_any _ _ _ x _ (by omega) (by omega) ?_).mono ?_
  · intro _; exact ⟨_, _, rfl, hO.row0 (Nat.le_refl _)⟩
  rintro e w' ⟨rfl, rfl⟩
  go_wp2_with fail
  go_ret
  have h2 := tl_le x 2
  exact ⟨_, _, rfl, ⟨x, ⟨_, _, rfl, by omega, hd, fun _ => ⟨_, _, rfl, Nat.le_refl _, h2, hO⟩⟩, by rw [V_tl]; exact HV.out, tl_top x 2⟩, h2, (Below.refl _ _).alloc (Nat.le_refl _) _⟩

/-! ### Sums in place -/
theorem carry_step {o x y : Nat → Int} {k : Nat} {c s c' : Int} (h : V o k + c * P k = V x k + V y k) (e : s + c' * 4294967296 = x k + y k + c) (o' : Nat → Int) (ho : ∀ j, j < k → o' j = o j) (hk : o' k = s) :
    V o' (k + 1) + c' * P (k + 1) = V x (k + 1) + V y (k + 1) := by
  rw [V_succ, V_succ, V_succ, P_succ, V_congr ho, hk]
  generalize V o k = a at *
  generalize P k = p at *
  grind
theorem sh_upd {x : Nat → Int} {off k : Nat} {v : Int} : sh (upd x (off + k) v) off = upd (sh x off) k v := by
  funext j; simp only [sh, upd]; by_cases h : j = k
  · rw [if_pos h, if_pos (by omega)]
  · rw [if_neg h, if_neg (by omega)]

/-- What is true between two rounds of addWords. -/
def AddRel (b off N : Nat) (x y : Nat → Int) (w : World) (k : Nat) (c : Int) (wr : World) : Prop :=
  ∃ x', Own wr b N x' ∧ Dg x' ∧ (∀ j, j < off ∨ off + k ≤ j → x' j = x j) ∧ V (sh x' off) k + c * P k = V (sh x off) k + V y k ∧ 0 ≤ c ∧ c ≤ 1 ∧ Chg b w wr

theorem addRel_step {b off N : Nat} {x y : Nat → Int} {w : World} {k : Nat} {c : Int} {wr : World} (h : AddRel b off N x y w k c wr) (hx : Dg x) (hy : Dg y) (hN : off + k < N) :
    AddRel b off N x y w (k + 1) ((x (off + k) + y k + c) / 4294967296) (wr.setCell ⟨b, off + k, none⟩ (.int .u32 ((x (off + k) + y k + c) % 4294967296))) := by
  obtain ⟨x', hO, hd, hs, hv, c0, c1, hC⟩ := h
  have a1 := hx (off + k)
  have a2 := hy k
  refine ⟨upd x' (off + k) ((x (off + k) + y k + c) % 4294967296), hO.set hN _, hd.upd _ (by omega) (by omega), fun j hj => ?_, ?_, by omega, by omega, hC.setCell rfl _⟩
  · rw [upd_other (by omega)]; exact hs j (by omega)
  · rw [sh_upd]
    refine carry_step (s := (x (off + k) + y k + c) % 4294967296) hv ?_ _ (fun j hj => upd_other (by omega)) (upd_same _ _ _)
    show _ = x (off + k) + _ + _
    omega

set_option maxHeartbeats 800000 in
theorem addWords_any (b off n m N cap cap2 : Nat) (a : Option Addr) (x y : Nat → Int) (w : World) (hm : n ≤ m) (hN : off + m ≤ N) (hn : m ≤ 1000000000)
    (hx : Dg x) (hy : Dg y) (hO : Own w b N x) (hr : Sl w a n y) (hne : 0 < n → ∀ c o, a = some ⟨c, o, none⟩ → c ≠ b) :
    Calls Tryd.prog 78 #[.slice (some ⟨b, off, none⟩) m cap, .slice a n cap2] w fun e w' =>
      ∃ c, e = .returned (.int .u32 c) ∧ AddRel b off N x y w n c w' := by
  have HR := Lib.hid hr
  have HN := Lib.hid hne
  have HX := Lib.hid hx
  have HY := Lib.hid hy
  have h0 : AddRel b off N x y w 0 0 w := ⟨x, hO, hx, fun _ _ => rfl, by simp [V_zero], by omega, by omega, Chg.refl _ _⟩
  clear hr hne hx hy hO
  go_enter Tryd.func78, Tryd.ntmps78
  go_wp2_with fail
  go_loopw [5, 10] (fun c i wr => ∃ (k : Nat) (cc : Int), k ≤ n ∧ i = .int .i64 k ∧ c = .int .u32 cc ∧ AddRel b off N x y w k cc wr) (fun _ i _ => n - (intOf i).toNat)
  case atStart => exact ⟨0, 0, by omega, rfl, rfl, h0⟩
  case round =>
    obtain ⟨k, cc, hk, rfl, rfl, hA⟩ := hrel
    by_cases hlt : k < n
    · obtain ⟨d, o, rfl, hrow⟩ := HR.out (by omega)
      have hdb := HN.out (by omega) d o rfl
      have A := Lib.hid hA
      obtain ⟨x', hO', hd', hs', hv', c0, c1, hC'⟩ := hA
      have g1 : wr.cell? ⟨d, o + k, none⟩ = some (.int .u32 (y k)) := (hrow.chg hC' hdb) k hlt
      have g2 : wr.cell? ⟨b, off + k, none⟩ = some (.int .u32 (x (off + k))) := by rw [← hs' (off + k) (by omega)]; exact hO'.cell (by omega)
      have g3 : wr.frozen? ⟨b, off + k, none⟩ = false := hO'.free _
      have S := Lib.hid (addRel_step A.out HX.out HY.out (show off + k < N by omega))
      have b1 := HX.out (off + k)
      have b2 := HY.out k
      clear A hO' hd' hs' hv' hC' HR HN HX HY hrow h0
      generalize x (off + k) = xk at *
      generalize y k = yk at *
      go_wp2_with (go_at_call 79; refine (add32 _ _ _ b1 b2 ⟨c0, c1⟩ _).mono ?_; rintro e w' ⟨rfl, rfl⟩)
      go_roundw
      case rel => exact ⟨k + 1, _, by omega, rfl, rfl, S.out⟩
      case measure => simp [intOf] <;> omega
    · obtain rfl : k = n := by omega
      clear HR HN HX HY h0
      have A := Lib.hid hA
      clear hA
      go_wp2_with fail
      go_ret
      exact ⟨_, rfl, A.out⟩

/-- With zeros behind. -/
def zx (y : Nat → Int) (n : Nat) : Nat → Int := fun j => if j < n then y j else 0
theorem Dg.zx {y : Nat → Int} (h : Dg y) (n : Nat) : Dg (zx y n) := by
  intro j; simp only [Go.Proofs.YtkhchaoehlefdaaDoor.zx]; split
  · exact h j
  · omega
theorem zx_in {y : Nat → Int} {n j : Nat} (h : j < n) : zx y n j = y j := by simp [zx, h]
theorem zx_out {y : Nat → Int} {n j : Nat} (h : n ≤ j) : zx y n j = 0 := by simp [zx]; omega
theorem V_zx_le {y : Nat → Int} {n k : Nat} (h : k ≤ n) : V (zx y n) k = V y k := V_congr fun j hj => zx_in (by omega)
theorem V_zx (y : Nat → Int) (n : Nat) : ∀ k, n ≤ k → V (zx y n) k = V y n := by
  intro k hk
  obtain ⟨d, rfl⟩ := Nat.exists_eq_add_of_le hk
  rw [V_add, V_zx_le (Nat.le_refl n), V_zeros (x := sh (zx y n) n) (fun j _ => zx_out (by omega))]; simp

/-- What is left in place after all: what lies behind is as it was. -/
theorem V_rest {x x' : Nat → Int} {k m : Nat} (hkm : k ≤ m) (hs : ∀ j, k ≤ j → x' j = x j) : V x' m - V x' k = V x m - V x k := by
  obtain ⟨d, rfl⟩ := Nat.exists_eq_add_of_le hkm
  rw [V_add, V_add, V_congr (x := sh x' k) (y := sh x k) (fun j _ => hs _ (by omega))]; omega

/-- What addTo leaves. -/
def Added (b off m N : Nat) (x : Nat → Int) (z : Int) (w w' : World) : Prop :=
  ∃ x', Own w' b N x' ∧ Dg x' ∧ (∀ j, j < off ∨ off + m ≤ j → x' j = x j) ∧ V (sh x' off) m = z ∧ Chg b w w'

theorem added_of {b off n m N k : Nat} {x y : Nat → Int} {w w' : World} (hkm : k ≤ m) (hnk : n ≤ k) (h : AddRel b off N x (zx y n) w k 0 w') : Added b off m N x (V (sh x off) m + V y n) w w' := by
  obtain ⟨x', hO, hd, hs, hv, _, _, hC⟩ := h
  refine ⟨x', hO, hd, fun j hj => hs j (by omega), ?_, hC⟩
  have := V_rest (x := sh x off) (x' := sh x' off) hkm (fun j hj => hs _ (by omega))
  rw [V_zx y n k hnk] at hv
  omega
theorem addRel_room {b off n m N k : Nat} {x y : Nat → Int} {w w' : World} (hkm : k ≤ m) (hnk : n ≤ k) (hf : V (sh x off) m + V y n < P m) {c : Int} (hc : c ≠ 0) (h : AddRel b off N x (zx y n) w k c w') : k < m := by
  obtain ⟨x', hO, hd, hs, hv, c0, c1, hC⟩ := h
  rcases Nat.lt_or_ge k m with g | g
  · exact g
  · obtain rfl : k = m := by omega
    obtain rfl : c = 1 := by omega
    rw [V_zx y n k hnk] at hv
    have := V_nonneg (hd.sh off) k
    omega

set_option maxHeartbeats 800000 in
theorem addTo_any (b off n m N cap cap2 : Nat) (a : Option Addr) (x y : Nat → Int) (w : World) (hm : n ≤ m) (hN : off + m ≤ N) (hn : m ≤ 1000000000)
    (hx : Dg x) (hy : Dg y) (hO : Own w b N x) (hr : Sl w a n y) (hne : 0 < n → ∀ c o, a = some ⟨c, o, none⟩ → c ≠ b) (hf : V (sh x off) m + V y n < P m) :
    Calls Tryd.prog 65 #[.slice (some ⟨b, off, none⟩) m cap, .slice a n cap2] w fun e w' =>
      e = .returned (.tuple #[]) ∧ Added b off m N x (V (sh x off) m + V y n) w w' := by
  have HX := Lib.hid hx
  have HY := Lib.hid hy
  have HF := Lib.hid hf
  have C := Lib.hid (addWords_any b off n m N cap cap2 a x y w hm hN hn hx hy hO hr hne)
  clear hr hne hx hy hO hf
  go_enter Tryd.func65, Tryd.ntmps65
  go_wp2_with fail
  refine C.out.mono ?_
  rintro e w1 ⟨c, rfl, hA0⟩
  have A1 : Hid (AddRel b off N x (zx y n) w n c w1) := by
    obtain ⟨x', hO, hd, hs, hv, c0, c1, hC⟩ := hA0
    exact ⟨x', hO, hd, hs, by rw [V_zx_le (Nat.le_refl n)]; exact hv, c0, c1, hC⟩
  clear hA0 C
  go_wp2_with fail
  go_loopw [4, 5] (fun c i wr => ∃ (k : Nat) (cc : Int), n ≤ k ∧ k ≤ m ∧ i = .int .i64 k ∧ c = .int .u32 cc ∧ Hid (AddRel b off N x (zx y n) w k cc wr)) (fun _ i _ => m - (intOf i).toNat)
  case atStart => exact ⟨n, c, by omega, by omega, rfl, rfl, A1⟩
  case round =>
    obtain ⟨k, cc, hk, hkm, rfl, rfl, A⟩ := hrel
    clear A1
    by_cases hc : cc = 0
    · subst hc
      go_wp2_with fail
      go_end0
      exact ⟨rfl, added_of hkm hk A.out⟩
    · have hlt := addRel_room hkm hk HF.out hc A.out
      obtain ⟨x', hO', hd', hs', hv', c0, c1, hC'⟩ := A.out
      have g2 : wr.cell? ⟨b, off + k, none⟩ = some (.int .u32 (x (off + k))) := by rw [← hs' (off + k) (by omega)]; exact hO'.cell (by omega)
      have g3 : wr.frozen? ⟨b, off + k, none⟩ = false := hO'.free _
      have S : Hid _ := addRel_step A.out HX.out (HY.out.zx n) (show off + k < N by omega)
      rw [zx_out hk] at S
      have b1 := HX.out (off + k)
      clear A hO' hd' hs' hv' hC' HX HY HF
      generalize x (off + k) = xk at *
      have z1 : xk + 0 + cc = xk + cc := by omega
      rw [z1] at S
      have AD := Lib.hid (fun w => add32 xk 0 cc b1 (by omega) ⟨c0, c1⟩ w)
      rw [z1] at AD
      clear z1
      go_wp2_with (go_at_call 79; refine (AD.out _).mono ?_; rintro e w' ⟨rfl, rfl⟩)
      go_roundw
      case rel => exact ⟨k + 1, _, by omega, by omega, rfl, rfl, S⟩
      case measure => simp [intOf] <;> omega
end Go.Proofs.YtkhchaoehlefdaaDoor
