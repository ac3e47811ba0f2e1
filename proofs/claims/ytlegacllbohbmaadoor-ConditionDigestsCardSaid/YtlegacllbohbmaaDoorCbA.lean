/- Layer 4: what a book is in memory. -/
import Derived.ChangeKeysEq
import Derived.Test.YtlegacllbohbmaaDoorCaI
set_option linter.unusedVariables false
set_option linter.unusedSimpArgs false
namespace Go.Proofs.YtlegacllbohbmaaDoor
open Go.RowKit Go.Shelf

/-! ### The smallest functions -/
theorem isKind_any (k : Int) (w : World) : Calls Tryd.prog 19 #[.int .i64 k] w fun e w' => e = .returned (.bool (inB k 0 6)) ∧ w = w' := by
  by_cases h1 : 0 ≤ k
  · by_cases h2 : k < 7
    all_goals
      go_enter Tryd.func19, Tryd.ntmps19
      go_wp2
      go_ret
      exact ⟨ret_bool (by unfold inB; grind), rfl⟩
  · go_enter Tryd.func19, Tryd.ntmps19
    go_wp2
    go_ret
    exact ⟨ret_bool (by unfold inB; grind), rfl⟩
theorem isTime_any (t : Int) (w : World) : Calls Tryd.prog 22 #[.int .i64 t] w fun e w' => e = .returned (.bool (inB t 0 1099511627776)) ∧ w = w' := by
  by_cases h1 : 0 ≤ t
  · by_cases h2 : t ≤ 1099511627776
    all_goals
      go_enter Tryd.func22, Tryd.ntmps22
      go_wp2
      go_ret
      exact ⟨ret_bool (by unfold inB; grind), rfl⟩
  · go_enter Tryd.func22, Tryd.ntmps22
    go_wp2
    go_ret
    exact ⟨ret_bool (by unfold inB; grind), rfl⟩

/-! ### What a book has -/
abbrev Ents := List (Int × Int)
structure Vr where
  cl : Bool
  sp : List (Int × Ents)
structure Bk where
  vs : List ((Int × Int) × Vr)
  cn : Nat → Int
  tg : List (ByteArray × (Nat → Int))
  lg : List UInt8
  sm : Nat

/-- A list of entries in a row of its own. -/
def EntS (W : World) (v : Value) (l : Ents) : Prop :=
  ∃ a cap, v = .slice a l.length cap ∧ l.length ≤ cap ∧ (∀ x ∈ l, (-9223372036854775808 ≤ x.1 ∧ x.1 ≤ 9223372036854775807) ∧ (-9223372036854775808 ≤ x.2 ∧ x.2 ≤ 9223372036854775807)) ∧
    (0 < l.length → ∃ b off, a = some ⟨b, off, none⟩ ∧ (∃ c fz, W.heap[b]? = some (.cells c 36 fz)) ∧
      ∀ k (h : k < l.length), W.cell? ⟨b, off + 2 * k, none⟩ = some (.int .i64 (l[k]).1) ∧ W.cell? ⟨b, off + 2 * k + 1, none⟩ = some (.int .i64 (l[k]).2))
theorem EntS.same {W W' : World} {v : Value} {l : Ents} (h : EntS W v l) (k : ∀ (b : Nat) (c : Array Value) (fz : Nat × Nat), W.heap[b]? = some (.cells c 36 fz) → W'.heap[b]? = W.heap[b]?) : EntS W' v l := by
  obtain ⟨a, cap, rfl, hc, hb, hx⟩ := h
  refine ⟨a, cap, rfl, hc, hb, fun h0 => ?_⟩
  obtain ⟨b, off, rfl, ⟨c, fz, hbb⟩, hcell⟩ := hx h0
  have e := k b c fz hbb
  exact ⟨b, off, rfl, ⟨c, fz, e.trans hbb⟩, fun j hj => ⟨(World.cell?_of_block (w := W) e).trans (hcell j hj).1, (World.cell?_of_block (w := W) e).trans (hcell j hj).2⟩⟩
theorem EntS.below {W W' : World} {v : Value} {l : Ents} (h : EntS W v l) (k : Below W.heap.size W W') : EntS W' v l :=
  h.same fun b c fz hb => k.block b (Array.getElem?_eq_some_iff.1 hb).1
theorem EntS.kept {e : TypeId} {o : Option Nat} {W W' : World} {v : Value} {l : Ents} (h : EntS W v l) (k : Lib.OthersKept e o W W') (he : 36 ≠ e) (ho : ∀ b, o = some b → ∀ (c : Array Value) (fz : Nat × Nat), W.heap[b]? ≠ some (.cells c 36 fz)) : EntS W' v l :=
  h.same fun b c fz hb => (k b _ hb (by rintro e0; exact ho b e0.symm c fz hb) (fun c' fz' e' => he (by cases e'; rfl))).trans hb.symm

/-- The cells of spans. -/
def spC (sp : List (Int × Ents)) (ls : List Value) : List Value := (sp.zip ls).flatMap fun x => [.int .i64 x.1.1, x.2]
/-- The spans of a version. -/
def SpanS (B : Nat) (W : World) (v : Value) (sp : List (Int × Ents)) : Prop :=
  ∃ ls : List Value, ls.length = sp.length ∧ Rw 96 2 B W v sp.length (spC sp ls) ∧ ((∀ x ∈ sp, 0 ≤ x.1 ∧ x.1 ≤ 1099511627776) ∧ sp.Pairwise (fun x y => x.1 < y.1) ∧ sp.length ≤ 64) ∧ ∀ i (h : i < sp.length) (h' : i < ls.length), EntS W ls[i] sp[i].2
/-- A version. -/
def VerAt (B : Nat) (W : World) (vb : Nat) (sv : Value) (x : Vr) : Prop :=
  B ≤ vb ∧ (∃ f, RF W vb 67 2 f ∧ f 0 = .bool x.cl ∧ f 1 = sv) ∧ SpanS B W sv x.sp
/-- The entries of a book's map. -/
def MapIs (es : Array MapEntry) (vs : List ((Int × Int) × Vr)) (vbs : List Nat) : Prop :=
  vbs.length = vs.length ∧ es.toList.map (fun e => (e.key, e.val)) = (vs.zip vbs).map fun x => (.agg #[.int .i64 x.1.1.1, .int .i64 x.1.1.2], .pointer (some ⟨x.2, 0, none⟩))
/-- The cells of tags. -/
def tgC (x : ByteArray × (Nat → Int)) : List Value := .string x.1 :: (List.range 7).map fun k => .int .i64 (x.2 k)
/-- A book: where its versions lie, their spans, its tags, its log. -/
structure BookW (B : Nat) (W : World) (bb : Nat) (S : Bk) (mb clk : Nat) (es : Array MapEntry) (vbs : List Nat) (svs : List Value) (tv lv : Value) (f : Nat → Value) : Prop where
  hbb : B ≤ bb
  rf : RF W bb 53 12 f
  f0 : f 0 = .pointer (some ⟨bb, 0, none⟩)
  f1 : f 1 = .map (some mb)
  fc : ∀ k, k < 7 → f (2 + k) = .int .i64 (S.cn k) ∧ 0 ≤ S.cn k ∧ S.cn k ≤ 64
  f9 : f 9 = tv
  f10 : f 10 = lv
  f11 : f 11 = .int .u64 S.sm
  sm : S.sm < 18446744073709551616
  hmb : B ≤ mb
  map : W.heap[mb]? = some (.map es clk)
  mi : MapIs es S.vs vbs
  nd : vbs.Nodup
  svl : svs.length = S.vs.length
  ver : ∀ i (h : i < S.vs.length) (h1 : i < vbs.length) (h2 : i < svs.length), VerAt B W vbs[i] svs[i] (S.vs[i]).2
  apart : ∀ i j (h1 : i < svs.length) (h2 : j < svs.length), i ≠ j → svs[i].ownBlock = none ∨ svs[i].ownBlock ≠ svs[j].ownBlock
  tags : Rw 72 8 B W tv S.tg.length (S.tg.flatMap tgC)
  tgl : S.tg.length ≤ 64
  log : By B W lv S.lg
def BookAt (B : Nat) (W : World) (bb : Nat) (S : Bk) : Prop :=
  ∃ (mb clk : Nat) (es : Array MapEntry) (vbs : List Nat) (svs : List Value) (tv lv : Value) (f : Nat → Value), BookW B W bb S mb clk es vbs svs tv lv f

/-! ### A key of two numbers -/
theorem eqInt (d : Nat) (a x : Int) (w : World) : (Op.equalIn (d + 1) 3 (.int .i64 a) (.int .i64 x)).run Tryd.prog w = .ok (a == x) w := run_equalIn_int w d 3 .i64 .i64 a x Tryd.underlying3
theorem key_eq (a b x y : Int) (w : World) : (Op.equal 59 (.agg #[.int .i64 a, .int .i64 b]) (.agg #[.int .i64 x, .int .i64 y])).run Tryd.prog w = .ok (a == x && b == y) w := by
  have p0 : ∀ (u v : Int) w, (part 3 #[.int .i64 u, .int .i64 v] 0).run Tryd.prog w = .ok (.int .i64 u) w := fun _ _ _ => by kernel_rfl
  have p1 : ∀ (u v : Int) w, (part 3 #[.int .i64 u, .int .i64 v] 1).run Tryd.prog w = .ok (.int .i64 v) w := fun _ _ _ => by kernel_rfl
  have q : ∀ (u v : Int) w, (Op.equalIn 9999 3 (.int .i64 u) (.int .i64 v)).run Tryd.prog w = .ok (u == v) w := fun u v w => eqInt 9998 u v w
  have hu := Tryd.underlying59
  show (Op.equalIn 10000 _ _ _).run _ _ = _
  rw [show (10000 : Nat) = 9999 + 1 from rfl, run_equalIn_struct w 9999 59 _ _ (by rw [hu]; simp [Program.fieldsOf, hu]) (by kernel_rfl)]
  simp only [Program.fieldsOf, hu, Op.eqFields]
  simp only [ne_eq, Sem.run_bind, p0, p1, q, Result.andThen_ok]
  by_cases h1 : a = x <;> by_cases h2 : b = y <;> simp [h1, h2, p0, p1, q, Op.eqFields]
theorem key_check (em : Bool) (a b : Int) (w : World) : (Instr.checkKey em 10000 59 (.agg #[.int .i64 a, .int .i64 b])).run Tryd.prog w = .ok () w := by kernel_rfl

/-- The key of a version, as a test. -/
def isKey (k n : Int) (x : Int × Int) : Bool := k == x.1 && n == x.2
theorem asking (k n : Int) (w : World) : ∀ (ks : List (Int × Int)) (l : List MapEntry) (i : Nat), l.map (·.key) = ks.map (fun x => .agg #[.int .i64 x.1, .int .i64 x.2]) →
    (Instr.findAsking 59 (.agg #[.int .i64 k, .int .i64 n]) l i).run Tryd.prog w = .ok ((ks.findIdx? (isKey k n)).bind fun j => (l[j]?).map fun e => (i + j, e.val)) w
  | [], [], i, _ => by simp [Instr.findAsking]
  | [], _ :: _, _, h => by simp at h
  | _ :: _, [], _, h => by simp at h
  | x :: ks, e :: l, i, h => by
    simp only [List.map_cons, List.cons.injEq] at h
    obtain ⟨h1, h2⟩ := h
    rw [Instr.findAsking, h1]
    simp only [Sem.run_bind, key_eq, Result.andThen_ok]
    rw [List.findIdx?_cons]
    by_cases hk : (k == x.1 && n == x.2) = true
    · rw [hk]
      have : isKey k n x = true := hk
      simp [this]
    · have hk' : (k == x.1 && n == x.2) = false := by simpa using hk
      rw [hk']
      have : isKey k n x = false := hk'
      rw [this]
      have ih := asking k n w ks l (i + 1) h2
      simp only [Bool.false_eq_true, if_false]
      rw [ih]
      cases ks.findIdx? (isKey k n) with
      | none => rfl
      | some j =>
        simp only [Option.map_some, Option.bind_some]
        rw [List.getElem?_cons_succ]
        congr 2
        funext e
        congr 1
        omega
end Go.Proofs.YtlegacllbohbmaaDoor
