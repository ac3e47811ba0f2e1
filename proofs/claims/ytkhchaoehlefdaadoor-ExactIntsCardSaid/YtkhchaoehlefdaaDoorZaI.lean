/- From integers of the program to the document's, and back; whether both are the same. -/
import Derived.StillTailTactics
import Derived.Test.YtkhchaoehlefdaaDoorZaH
import Derived.Test.YtkhchaoehlefdaaDoorEzIv
set_option linter.unusedVariables false
set_option linter.unusedSimpArgs false
set_option maxRecDepth 100000
namespace Go.Proofs.YtkhchaoehlefdaaDoor
open Go.RowKit

/-- Two numbers behind a row. -/
theorem append_two {ops : Array Oper} {rest : List Oper} {o : Oper} {a : Act} {Q : Exit → Act → World → Prop} {W : World} (hgd : o.guard = none) (s y : Operand)
    (ho : o.op = .call { callee := .builtin .append, args := #[s, y], argTypes := #[26, 26] }) {B : Nat} {v : Value} {l : List Int}
    (hs : a.eval s = v) (h : Io B W v l) (g : Nat) (x z : Int) (hi : I64 x) (hj : I64 z) (hy : a.eval y = .slice (some ⟨g, 0, none⟩) 2 2) (c0 : W.cell? ⟨g, 0, none⟩ = some (.int .i64 x)) (c1 : W.cell? ⟨g, 1, none⟩ = some (.int .i64 z))
    (hl : l.length ≤ 1000000000) (hB : B ≤ W.heap.size)
    (hK : ∀ v' w', Io B w' v' (l ++ [x, z]) → Below B W w' → wpList Tryd.prog ops Q rest (a.put o.dst v') w') :
    wpList Tryd.prog ops Q (o :: rest) a W := by
  refine wpList_append_rw hgd s y _ _ ho (.int .i64 0) 8 int_slice int_info rfl (by decide) hs h.1 _ hy 2 [.int .i64 x, .int .i64 z]
    (Src.ofSlice W int_slice ⟨g, 0, none⟩ 2 2 _ rfl (fun j u hj => ?_) (fun u hu => ?_)) (by unfold maxLen; omega) (by omega) hB fun v' w' h1 h2 h3 => hK v' w' ⟨?_, ?_⟩ (grown_below h2 (fun g hg => (h.1.lt g hg).1) hB)
  · match j, hj with
    | 0, hj => simp at hj; subst hj; simpa [Addr.add] using c0
    | 1, hj => simp at hj; subst hj; simpa [Addr.add] using c1
  · simp at hu
    rcases hu with rfl | rfl <;> rfl
  · have e : inC l ++ [.int .i64 x, .int .i64 z] = inC (l ++ [x, z]) := by simp [inC]
    rw [← e, List.length_append]
    exact h1
  · intro u hu
    rcases List.mem_append.1 hu with hu | hu
    · exact h.2 u hu
    · simp at hu
      rcases hu with rfl | rfl
      · exact hi
      · exact hj
theorem new_two (W : World) (a b : Value) (t : TypeId) : (W.alloc (.cells #[a, b] t)).cell? ⟨W.heap.size, 0, none⟩ = some a ∧ (W.alloc (.cells #[a, b] t)).cell? ⟨W.heap.size, 1, none⟩ = some b := by
  have h := _root_.Go.heap_alloc_new W (.cells #[a, b] t)
  unfold World.cell?; rw [h]; exact ⟨rfl, rfl⟩

/-- The same at a step of a region that draws its order. -/
theorem step_append_two {ops : Array Oper} {o : Oper} {a : Act} {K : Act → World → Prop} {Q : Exit → Act → World → Prop} {E : Prop} {W : World} (hgd : o.guard = none) (s y : Operand)
    (ho : o.op = .call { callee := .builtin .append, args := #[s, y], argTypes := #[26, 26] }) {B : Nat} {v : Value} {l : List Int}
    (hs : a.eval s = v) (h : Io B W v l) (g : Nat) (x z : Int) (hi : I64 x) (hj : I64 z) (hy : a.eval y = .slice (some ⟨g, 0, none⟩) 2 2) (c0 : W.cell? ⟨g, 0, none⟩ = some (.int .i64 x)) (c1 : W.cell? ⟨g, 1, none⟩ = some (.int .i64 z))
    (hl : l.length ≤ 1000000000) (hB : B ≤ W.heap.size)
    (hK : ∀ v' w', Io B w' v' (l ++ [x, z]) → Below B W w' → K (a.put o.dst v') w') :
    if Region.wanted o (yielded ops a.tmps) = true then Oper.wp Tryd.prog o a W K Q else E := by
  refine step_append_rw hgd s y _ _ ho (.int .i64 0) 8 int_slice int_info rfl (by decide) hs h.1 _ hy 2 [.int .i64 x, .int .i64 z]
    (Src.ofSlice W int_slice ⟨g, 0, none⟩ 2 2 _ rfl (fun j u hj => ?_) (fun u hu => ?_)) (by unfold maxLen; omega) (by omega) hB fun v' w' h1 h2 h3 => hK v' w' ⟨?_, ?_⟩ (grown_below h2 (fun g hg => (h.1.lt g hg).1) hB)
  · match j, hj with
    | 0, hj => simp at hj; subst hj; simpa [Addr.add] using c0
    | 1, hj => simp at hj; subst hj; simpa [Addr.add] using c1
  · simp at hu
    rcases hu with rfl | rfl <;> rfl
  · have e : inC l ++ [.int .i64 x, .int .i64 z] = inC (l ++ [x, z]) := by simp [inC]
    rw [← e, List.length_append]
    exact h1
  · intro u hu
    rcases List.mem_append.1 hu with hu | hu
    · exact h.2 u hu
    · simp at hu
      rcases hu with rfl | rfl
      · exact hi
      · exact hj

/-! ### From -/
def FromI (W : World) (x : Nat → Int) (k : Nat) (v : Value) (wr : World) : Prop :=
  ∃ o, Io W.heap.size wr v o ∧ o.length = 2 * k ∧ D16 o ∧ Vd o = V x k ∧ Below W.heap.size W wr
theorem from_step {o : List Int} {k : Nat} {x : Nat → Int} {X : Int} (ho : o.length = 2 * k) (h : Vd o = V x k) (hX : x k = X) : Vd (o ++ [X % 65536, X / 65536]) = V x (k + 1) := by
  rw [Vd_append, ho, Bd_P, V_succ, h, hX, Vd_cons, Vd_cons, Vd_nil]
  have e : X = 65536 * (X / 65536) + X % 65536 := by omega
  generalize X / 65536 = D at *
  generalize X % 65536 = R at *
  generalize P k = p at *
  subst e
  grind

set_option maxHeartbeats 1600000 in
theorem zFrom_any (ng : Bool) (a : Option Addr) (n c : Nat) (x : Nat → Int) (w : World) (hc : n ≤ c) (hd : Dg x) (hs : Sl w a n x) (hn : n ≤ 10000000) :
    Calls Tryd.prog 6 #[.agg #[.bool ng, .slice a n c]] w (Zf w (sg ng (V x n)) (2 * n)) := by
  have HS := Lib.hid (fun w' (k : Below w.heap.size w w') => sl_below hs k)
  have HX := Lib.hid hd
  have HW := Lib.hid (Below.two w (.cells #[.bool ng, .slice a n c] 24) (.cells #[.bool false, .slice none 0 0] 28))
  have VA := Lib.hid ((IV.new (show AI w (.agg #[.bool ng, .slice a n c]) n _ from ⟨ng, a, c, x, rfl, hc, hd, hs, rfl⟩)).below (Below.one _ (.cells #[.bool false, .slice none 0 0] 28)))
  have X := Lib.hid (BoxZ.new' (w := w.alloc (.cells #[.bool ng, .slice a n c] 24)) (b := w.heap.size + 1) (g := false) (a := none) (n := 0) (c := 0) (by simp))
  clear hd hs
  obtain ⟨va0, va1, va2, _⟩ := VA.out
  go_enter Tryd.func6, Tryd.ntmps6
  go_wp2_with fail
  clear va0 va1 va2
  generalize ((w.alloc (.cells #[.bool ng, .slice a n c] 24)).alloc (.cells #[.bool false, .slice none 0 0] 28)) = W at *
  have h0 : Hid (FromI W x 0 (.slice none 0 0) W) := Lib.hid ⟨[], Io.nil _ _, rfl, D16_nil, rfl, Below.refl _ _⟩
  go_loopw [3, 4] (fun v i wr => ∃ k : Nat, k ≤ n ∧ i = .int .i64 k ∧ Hid (FromI W x k v wr)) (fun _ i _ => n - (intOf i).toNat)
  case atStart => exact ⟨0, Nat.zero_le _, rfl, h0⟩
  case round =>
    clear h0
    obtain ⟨k, hk, rfl, HI⟩ := hrel
    obtain ⟨o, hO, hlen, hd, hv, hB⟩ := HI.out
    obtain ⟨va0, va1, va2, _⟩ := VA.out.below hB
    by_cases hlt : k < n
    · obtain ⟨vsa, vsc, rfl, _⟩ := hO.slice hlen
      obtain ⟨b, off, rfl, hrow⟩ := HS.out _ (Below.up HW.out hB) (by omega)
      have hcell := hrow k hlt
      have hxb := HX.out k
      have OO := Lib.hid hO
      have HD := Lib.hid hd
      have HV := Lib.hid hv
      have HB := Lib.hid hB
      clear hO hd hv hB HI hrow
      generalize hx : x k = xk at hcell hxb
      have HXK := Lib.hid hx
      clear hx
      have q1 : (k : Int) < (n : Int) := by omega
      have q2 : (0 : Int) ≤ (k : Int) := by omega
      have q3 : ((k : Int)).toNat = k := rfl
      have q4 : xk.tmod 65536 = xk % 65536 := Int.tmod_eq_emod_of_nonneg hxb.1
      have q5 : xk.tdiv 65536 = xk / 65536 := Int.tdiv_eq_ediv_of_nonneg hxb.1
      have q6 : IntKind.u32.wrap (xk / 65536) = xk / 65536 := IntWalk.u32_in _ (by omega)
      have q7 : IntKind.i64.wrap (xk / 65536) = xk / 65536 := IntWalk.i64_in _ (by omega)
      have q8 : IntKind.i64.wrap (xk % 65536) = xk % 65536 := IntWalk.i64_in _ (by omega)
      have i1 : I64 (xk % 65536) := by unfold I64; omega
      have i2 : I64 (xk / 65536) := by unfold I64; omega
      go_wp2_with fail
      have b1 : Below wr.heap.size wr (wr.alloc (.cells #[.int .i64 (xk % 65536), .int .i64 (xk / 65536)] 3)).drew := (Below.one _ _).drew
      have OB : Hid (Io W.heap.size (wr.alloc (.cells #[.int .i64 (xk % 65536), .int .i64 (xk / 65536)] 3)).drew (.slice vsa (2 * k) vsc) o) := Lib.hid (OO.out.below b1)
      have B1 := Lib.hid b1
      have n0 : (wr.alloc (.cells #[.int .i64 (xk % 65536), .int .i64 (xk / 65536)] 3)).drew.cell? ⟨wr.heap.size, 0, none⟩ = some (.int .i64 (xk % 65536)) := by rw [World.cell?_drew]; exact (new_two _ _ _ _).1
      have n1 : (wr.alloc (.cells #[.int .i64 (xk % 65536), .int .i64 (xk / 65536)] 3)).drew.cell? ⟨wr.heap.size, 1, none⟩ = some (.int .i64 (xk / 65536)) := by rw [World.cell?_drew]; exact (new_two _ _ _ _).2
      have hWs : W.heap.size ≤ wr.heap.size := HB.out.size
      clear b1 HS
      go_region_law (first
        | ((refine step_append_two rfl _ _ (by rfl) (by rfl) OB.out wr.heap.size (xk % 65536) (xk / 65536) i1 i2 (by rfl) n0 n1 (by omega) (by simp; omega) ?_); intro v5 w5 h5 g5; have H5 := Lib.hid h5; have G5 := Lib.hid g5; clear h5 g5))
      all_goals
        have S : Hid (FromI W x (k + 1) v5 w5) := Lib.hid ⟨_, H5.out, by simp [hlen]; omega, (HD.out.app ((D16.one (by omega)).app (D16.one (by omega)))), from_step hlen HV.out HXK.out, HB.out.trans (((B1.out).mono hWs).trans G5.out)⟩
        clear q1 q2 q3 q4 q5 q6 q7 q8 n0 n1
        go_wp2_with fail
        go_roundw
        case rel => exact ⟨k + 1, by omega, by go_num, S⟩
        case measure => simp [intOf]; omega
    · obtain rfl : k = n := by omega
      obtain ⟨a2, c2, rfl, hI⟩ := hO.slice (n := 2 * k) hlen
      have MD := Lib.hid (made_any ng a2 c2 o (2 * k) wr hI hd (by omega))
      rw [hv] at MD
      have HB := Lib.hid hB
      clear HI hO hd hv hB hI
      go_wp2_with fail
      refine MD.out.mono ?_
      rintro e w2 ⟨g2, a3, c3, k3, rfl, hR, hk3, hB⟩
      have T2 := Lib.hid (Below.up HB.out hB)
      have R2 := Lib.hid hR
      have zb := X.out.below T2.out
      obtain ⟨zu, zv, zc, zd, ze, zf⟩ := zb.open
      have ZB := Lib.hid zb
      clear zb hR hB MD
      go_wp2_with fail
      have f1 := ZV.put ZB.out R2.out
      exact bodyPost_ret (v := .agg #[.bool g2, .slice a3 k3 c3]) (by simp [results, Tryd.results6, go_sem, f1.1, f1.2.1, zc, zd]) rfl (fin_Z ZB.out R2.out (by omega) hk3 (Below.up HW.out T2.out))
end Go.Proofs.YtkhchaoehlefdaaDoor
