/- Layer 5: bytes of the call's own; the writer. -/
import Derived.Deep.RegionLaw
import Derived.Lib.UnsafeStr
import Derived.Laws.Shifts
import Derived.Test.YtanillahofohgaaRaH
set_option linter.unusedVariables false
set_option linter.unusedSimpArgs false
namespace Go.Proofs.Ytanillahofohgaa
open Go.RowKit

/-- A slice of bytes of the call's own. -/
def By (B : Nat) (W : World) (v : Value) (l : List UInt8) : Prop := Rw 5 1 B W v l.length (Lib.byteCells l)
theorem u8_info : (Try.prog.info? 5).map (fun i => (i.zero, i.size, i.bytes)) = some (some (.int .u8 0), 1, 1) := by kernel_rfl
theorem u8_slice : Try.prog.underlying 51 = some (.slice 5) := by kernel_rfl
theorem str_kind : Try.prog.underlying 9 = some .string := by kernel_rfl
theorem bc_append (l m : List UInt8) : Lib.byteCells l ++ Lib.byteCells m = Lib.byteCells (l ++ m) := by simp [Lib.byteCells]
theorem By.form {B : Nat} {W : World} {v : Value} {l : List UInt8} (h : By B W v l) : ∃ a n c, v = .slice a n c := by
  obtain ⟨a, cap, rfl, _⟩ := Rw.form h
  exact ⟨a, _, cap, rfl⟩
/-- A byte behind a row, at a step of a region that draws its order. -/
theorem step_append_byte {ops : Array Oper} {o : Oper} {a : Act} {K : Act → World → Prop} {Q : Exit → Act → World → Prop} {E : Prop} {W : World} (hgd : o.guard = none) (s y : Operand)
    (ho : o.op = .call { callee := .builtin .append, args := #[s, y], argTypes := #[51, 51] }) {B : Nat} {v : Value} {l : List UInt8}
    (hs : a.eval s = v) (h : By B W v l) (g : Nat) (x : UInt8) (hy : a.eval y = .slice (some ⟨g, 0, none⟩) 1 1) (c0 : W.cell? ⟨g, 0, none⟩ = some (.int .u8 (x.toNat : Nat))) (hl : l.length ≤ 1000000000000) (hB : B ≤ W.heap.size)
    (hK : ∀ v' w', By B w' v' (l ++ [x]) → W.grownBy w' v.ownBlock → (v'.ownBlock = v.ownBlock ∨ ∃ g, v'.ownBlock = some g ∧ W.heap.size ≤ g) → K (a.put o.dst v') w') :
    if Region.wanted o (yielded ops a.tmps) = true then Oper.wp Try.prog o a W K Q else E := by
  refine step_append_rw hgd s y _ _ ho (.int .u8 0) 1 u8_slice u8_info rfl (by decide) hs h _ hy 1 (Lib.byteCells [x])
    (Src.ofSlice W u8_slice ⟨g, 0, none⟩ 1 1 _ rfl (fun j u hj => ?_) (fun u hu => by simp [Lib.byteCells] at hu; subst hu; rfl)) (by unfold maxLen; omega) (by omega) hB fun v' w' h1 h2 h3 => hK v' w' ?_ h2 h3
  · match j, hj with
    | 0, hj => simp [Lib.byteCells] at hj; subst hj; simpa [Addr.add] using c0
  · unfold By
    rw [← bc_append, List.length_append]
    exact h1

/-! ### Numbers as bytes, the highest first -/
def beL (n : Nat) : Nat → List UInt8
  | 0 => []
  | s + 1 => UInt8.ofNat (n / 256 ^ s % 256) :: beL n s
theorem beL_len (n : Nat) : ∀ s, (beL n s).length = s
  | 0 => rfl
  | s + 1 => by simp [beL, beL_len n s]
theorem beL_succ (n s : Nat) : beL n (s + 1) = UInt8.ofNat (n / 256 ^ s % 256) :: beL n s := rfl
attribute [irreducible] beL

/-- A writer at block b, whose bytes are l; its row lay at block r when the world was w0. -/
def Wr (b r : Nat) (w0 w : World) (l : List UInt8) : Prop :=
  ∃ v, RF w b 109 1 (fun _ => v) ∧ By 0 w v l ∧ (∀ g, v.ownBlock = some g → g = r ∨ w0.heap.size ≤ g) ∧ Below 0 w0 w ∧ ∀ k, k < w0.heap.size → k ≠ b → k ≠ r → w.heap[k]? = w0.heap[k]?

theorem write_end {b r : Nat} {w0 wr W1 w5 : World} {m l' : List UInt8} {v v5 : Value} (rf : RF wr b 109 1 (fun _ => v)) (by0 : By 0 wr v m) (ho : ∀ g, v.ownBlock = some g → g = r ∨ w0.heap.size ≤ g) (bl : Below 0 w0 wr)
    (hk : ∀ k, k < w0.heap.size → k ≠ b → k ≠ r → wr.heap[k]? = w0.heap[k]?) (B1 : Below wr.heap.size wr W1) (H5 : By 0 w5 v5 l') (G5 : W1.grownBy w5 v.ownBlock) (L5 : v5.ownBlock = v.ownBlock ∨ ∃ g, v5.ownBlock = some g ∧ W1.heap.size ≤ g) (E5 : w5.heap[b]? = wr.heap[b]?) :
    Wr b r w0 (w5.setCell ⟨b, 0, none⟩ v5) l' := by
  have s1 := bl.size
  have s2 := B1.size
  have r5 := rf.of_block E5
  refine ⟨v5, (r5.set 0 v5).congr (fun j hj => by rw [if_pos (by omega)]), Rw.same H5 (fun g hg => Below.heap_setCell _ _ _ _ (by
    rintro rfl
    obtain ⟨c, fz, e1⟩ := Rw.kind H5 _ hg
    obtain ⟨c2, fz2, e2⟩ := r5.kind
    rw [e1] at e2
    cases e2)), fun g hg => ?_, ?_, fun k hk1 hk2 hk3 => ?_⟩
  · rcases L5 with h | ⟨g', h, hg'⟩
    · exact ho g (h ▸ hg)
    · rw [hg] at h
      cases h
      right; omega
  · exact (((bl.trans (B1.mono (Nat.zero_le _))).trans (grown_below G5 (fun _ _ => Nat.zero_le _) (Nat.zero_le _)))).setCell (p := ⟨b, 0, none⟩) (Nat.zero_le _) _
  · rw [Below.heap_setCell _ _ _ _ hk2, G5.block k (by omega) (fun e => by rcases ho k e.symm with h | h <;> omega), B1.block k (by omega), hk k hk1 hk2 hk3]

set_option maxRecDepth 100000 in
set_option maxHeartbeats 1600000 in
theorem write_any (b r : Nat) (w0 w : World) (l : List UInt8) (n size : Nat) (hw : Wr b r w0 w l) (hn : n < 9223372036854775808) (hs : size ≤ 6) (hl : l.length ≤ 1000000000) :
    Calls Try.prog 74 #[.pointer (some ⟨b, 0, none⟩), .int .i64 (n : Nat), .int .i64 (size : Nat)] w fun e w' => e = .returned (.tuple #[]) ∧ Wr b r w0 w' (l ++ beL n size) := by
  have HW := Lib.hid hw
  clear hw
  go_enter Try.func74, Try.ntmps74
  go_wp2_with fail
  go_loopw [6] (fun i wr => ∃ (q : Nat) (m : List UInt8), q ≤ size ∧ i = .int .i64 ((q : Int) - 1) ∧ Hid (m ++ beL n q = l ++ beL n size) ∧ Hid (Wr b r w0 wr m)) (fun i _ => (intOf i + 1).toNat)
  case atStart => exact ⟨size, l, Nat.le_refl _, rfl, Lib.hid rfl, HW⟩
  case round =>
    obtain ⟨q, m, hq, rfl, HE, HR⟩ := hrel
    have hml : m.length ≤ 1000000006 := by
      have := congrArg List.length HE.out
      simp only [List.length_append, beL_len] at this
      omega
    obtain ⟨v, rf, by0, ho, bl, hk⟩ := HR.out
    obtain ⟨va, vn, vc, rfl⟩ := by0.form
    match q, hq, HE with
    | 0, hq, HE =>
      go_wp2_with fail
      go_end0
      have e : m = l ++ beL n size := by rw [← HE.out]; unfold beL; simp
      exact ⟨rfl, by rw [← e]; exact HR.out⟩
    | q + 1, hq, HE =>
      have c0 := rf.cell (i := 0) (by omega)
      have f0 := rf.frozen (i := 0) (by omega)
      have hb := rf.lt
      go_wp2_with fail
      have WQ : IntKind.i64.wrap (8 * (q : Int)) = 8 * (q : Int) := IntWalk.i64_in _ (by omega)
      have HB := Lib.hid (beL_succ n q)
      have WX : IntKind.u8.wrap ((n : Int) / 2 ^ (8 * (q : Int)).toNat) = ((UInt8.ofNat (n / 256 ^ q % 256)).toNat : Int) := by
        have e1 : (256 : Nat) ^ q = 2 ^ (8 * q) := by rw [Nat.pow_mul]
        have e2 : (n : Int) / 2 ^ (8 * q) = ((n / 2 ^ (8 * q) : Nat) : Int) := by simp
        rw [show (8 * (q : Int)).toNat = 8 * q by omega, e1, e2, IntKind.wrap_u8]
        simp
      generalize UInt8.ofNat (n / 256 ^ q % 256) = x at *
      have b1 : Below wr.heap.size wr (wr.alloc (.cells #[.int .u8 (x.toNat : Nat)] 5)).drew := ((Below.refl _ _).alloc (Nat.le_refl _) _).drew
      have BY : Hid (By 0 (wr.alloc (.cells #[.int .u8 (x.toNat : Nat)] 5)).drew (.slice va vn vc) m) := Lib.hid (by0.below b1)
      have CX : (wr.alloc (.cells #[.int .u8 (x.toNat : Nat)] 5)).drew.cell? ⟨wr.heap.size, 0, none⟩ = some (.int .u8 (x.toNat : Nat)) := by rw [World.cell?_drew]; exact new_one _ _ _
      have NE : Hid (some b ≠ (Value.slice va vn vc).ownBlock) := Lib.hid fun e => by
        obtain ⟨c, fz, e1⟩ := Rw.kind by0 b e.symm
        obtain ⟨c2, fz2, e2⟩ := rf.kind
        rw [e1] at e2
        cases e2
      have B1 := Lib.hid b1
      have C0 := Lib.hid c0
      have F0 := Lib.hid f0
      clear b1
      go_region_law (first
        | ((refine step_append_byte rfl _ _ (by rfl) (by rfl) BY.out wr.heap.size x (by rfl) CX (by omega) (by omega) ?_); intro v5 w5 h5 g5 l5; obtain ⟨a5, m5, k5, rfl⟩ := By.form h5; have H5 := Lib.hid h5; have G5 := Lib.hid g5; have L5 := Lib.hid l5; have E5 : Hid (w5.heap[b]? = wr.heap[b]?) := Lib.hid ((g5.block b (by simp; omega) NE.out).trans (B1.out.block b hb)); have c5 := (World.cell?_of_block (w := wr) E5.out).trans C0.out; have f5 := (World.frozen?_of_block (w := wr) E5.out).trans F0.out; clear h5 g5 l5))
      all_goals
        go_wp2
        go_roundw
        case rel => exact ⟨q, m ++ [x], by omega, by go_num, Lib.hid (by rw [← HE.out, HB.out, List.append_assoc]; rfl), Lib.hid (write_end rf by0 ho bl hk B1.out H5.out G5.out L5.out E5.out)⟩
        case measure => simp [intOf]
end Go.Proofs.Ytanillahofohgaa
