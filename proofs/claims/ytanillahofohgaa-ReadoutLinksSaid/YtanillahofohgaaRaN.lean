/- Layer 5: the head of a frame as bytes; Pack. -/
import Derived.Lib.SlBytesConst
import Derived.Test.YtanillahofohgaaRaM
set_option linter.unusedVariables false
set_option linter.unusedSimpArgs false
namespace Go.Proofs.Ytanillahofohgaa
open Go.RowKit

/-- Where the numbers of a head are. -/
def NumsAt (w : World) (g fb hb : Nat) : Prop :=
  w.cell? ⟨g, 0, none⟩ = some (.pointer (some ⟨fb, 0, none⟩)) ∧ w.cell? ⟨g, 1, none⟩ = some (.pointer (some ⟨fb, 1, none⟩)) ∧ w.cell? ⟨g, 2, none⟩ = some (.pointer (some ⟨fb, 2, none⟩)) ∧
    w.cell? ⟨g, 3, none⟩ = some (.pointer (some ⟨fb, 3, none⟩)) ∧ w.cell? ⟨g, 4, none⟩ = some (.pointer (some ⟨hb, 0, none⟩))
theorem new_five (W : World) (a b c d e : Value) (t : TypeId) : (W.alloc (.cells #[a, b, c, d, e] t)).cell? ⟨W.heap.size, 0, none⟩ = some a ∧ (W.alloc (.cells #[a, b, c, d, e] t)).cell? ⟨W.heap.size, 1, none⟩ = some b ∧ (W.alloc (.cells #[a, b, c, d, e] t)).cell? ⟨W.heap.size, 2, none⟩ = some c ∧
    (W.alloc (.cells #[a, b, c, d, e] t)).cell? ⟨W.heap.size, 3, none⟩ = some d ∧ (W.alloc (.cells #[a, b, c, d, e] t)).cell? ⟨W.heap.size, 4, none⟩ = some e := by
  have h := _root_.Go.heap_alloc_new W (.cells #[a, b, c, d, e] t)
  refine ⟨?_, ?_, ?_, ?_, ?_⟩ <;> (unfold World.cell?; rw [h]; rfl)
theorem headNumbers_any (fb hb : Nat) (w : World) :
    Calls Try.prog 60 #[.pointer (some ⟨fb, 0, none⟩), .pointer (some ⟨hb, 0, none⟩)] w fun e w' => e = .returned (.slice (some ⟨w.heap.size, 0, none⟩) 5 5) ∧ NumsAt w' w.heap.size fb hb ∧ Below w.heap.size w w' ∧ w'.heap.size = w.heap.size + 1 := by
  go_enter Try.func60, Try.ntmps60
  go_wp2_with fail
  go_region
  all_goals
    go_wp2_with fail
    go_ret
    exact ⟨rfl, new_five w _ _ _ _ _ _, (((Below.refl _ _).alloc (Nat.le_refl _) _).drew), by simp⟩

theorem NumsAt.kept {w w' : World} {g fb hb : Nat} (h : NumsAt w g fb hb) (k : w'.heap[g]? = w.heap[g]?) : NumsAt w' g fb hb := by
  obtain ⟨h0, h1, h2, h3, h4⟩ := h
  exact ⟨(World.cell?_of_block (w := w) k).trans h0, (World.cell?_of_block (w := w) k).trans h1, (World.cell?_of_block (w := w) k).trans h2, (World.cell?_of_block (w := w) k).trans h3, (World.cell?_of_block (w := w) k).trans h4⟩
theorem NumsAt.lt {w : World} {g fb hb : Nat} (h : NumsAt w g fb hb) : g < w.heap.size := cell_lt h.1
/-- The numbers of a head, in a frame's block and a block of their own. -/
def FN (w : World) (fb hb l s e t n : Nat) : Prop :=
  w.cell? ⟨fb, 0, none⟩ = some (.int .i64 (l : Nat)) ∧ w.cell? ⟨fb, 1, none⟩ = some (.int .i64 (s : Nat)) ∧ w.cell? ⟨fb, 2, none⟩ = some (.int .i64 (e : Nat)) ∧ w.cell? ⟨fb, 3, none⟩ = some (.int .i64 (t : Nat)) ∧ w.cell? ⟨hb, 0, none⟩ = some (.int .i64 (n : Nat))
theorem FN.kept {w w' : World} {fb hb l s e t n : Nat} (h : FN w fb hb l s e t n) (k1 : w'.heap[fb]? = w.heap[fb]?) (k2 : w'.heap[hb]? = w.heap[hb]?) : FN w' fb hb l s e t n := by
  obtain ⟨h0, h1, h2, h3, h4⟩ := h
  exact ⟨(World.cell?_of_block (w := w) k1).trans h0, (World.cell?_of_block (w := w) k1).trans h1, (World.cell?_of_block (w := w) k1).trans h2, (World.cell?_of_block (w := w) k1).trans h3, (World.cell?_of_block (w := w) k2).trans h4⟩
/-- The writer's methods in a row. -/
def FU (w : World) (g b : Nat) : Prop :=
  w.cell? ⟨g, 0, none⟩ = some (.func (.func 61) #[.pointer (some ⟨b, 0, none⟩)] #[]) ∧ w.cell? ⟨g, 1, none⟩ = some (.func (.func 61) #[.pointer (some ⟨b, 0, none⟩)] #[]) ∧
    w.cell? ⟨g, 2, none⟩ = some (.func (.func 62) #[.pointer (some ⟨b, 0, none⟩)] #[]) ∧ w.cell? ⟨g, 3, none⟩ = some (.func (.func 63) #[.pointer (some ⟨b, 0, none⟩)] #[]) ∧ w.cell? ⟨g, 4, none⟩ = some (.func (.func 64) #[.pointer (some ⟨b, 0, none⟩)] #[])
theorem FU.kept {w w' : World} {g b : Nat} (h : FU w g b) (k : w'.heap[g]? = w.heap[g]?) : FU w' g b := by
  obtain ⟨h0, h1, h2, h3, h4⟩ := h
  exact ⟨(World.cell?_of_block (w := w) k).trans h0, (World.cell?_of_block (w := w) k).trans h1, (World.cell?_of_block (w := w) k).trans h2, (World.cell?_of_block (w := w) k).trans h3, (World.cell?_of_block (w := w) k).trans h4⟩
def headL (f : Fr) : List UInt8 := ((((([90, 195] ++ beL f.l.toNat 1) ++ beL f.s.toNat 1) ++ beL f.e.toNat 4) ++ beL f.t.toNat 6) ++ beL f.hs.length 2)
theorem headL_len (f : Fr) : (headL f).length = 16 := by unfold headL; simp [beL_len]

/-- The memory ahead of the loop over the numbers. -/
theorem head_mem (w1 : World) (X fb hb l s e t n : Nat) (hX : w1.heap.size = X + 3) (h1 : fb < X + 2) (h2 : hb < X + 2) (hN : NumsAt w1 (X + 2) fb hb) (hF : FN w1 fb hb l s e t n) (W : World)
    (hW : W = ((w1.alloc (.cells #[.int .u8 90, .int .u8 195] 5 (2, 3))).alloc (.cells #[.slice (some ⟨X + 3, 0, none⟩) 2 2] 109)).alloc (.cells #[.func (.func 61) #[.pointer (some ⟨X + 3 + 1, 0, none⟩)] #[], .func (.func 61) #[.pointer (some ⟨X + 3 + 1, 0, none⟩)] #[],
      .func (.func 62) #[.pointer (some ⟨X + 3 + 1, 0, none⟩)] #[], .func (.func 63) #[.pointer (some ⟨X + 3 + 1, 0, none⟩)] #[], .func (.func 64) #[.pointer (some ⟨X + 3 + 1, 0, none⟩)] #[]] 110)) :
    Wr (X + 3 + 1) (X + 3) W W [90, 195] ∧ FU W (X + 3 + 1 + 1) (X + 3 + 1) ∧ NumsAt W (X + 2) fb hb ∧ FN W fb hb l s e t n ∧ Below w1.heap.size w1 W ∧ W.heap.size = X + 6 := by
  generalize hA : w1.alloc (.cells #[.int .u8 90, .int .u8 195] 5 (2, 3)) = wA at *
  generalize hB : wA.alloc (.cells #[.slice (some ⟨X + 3, 0, none⟩) 2 2] 109) = wB at *
  have zA : wA.heap.size = X + 4 := by rw [← hA, World.size_alloc, hX]
  have zB : wB.heap.size = X + 5 := by rw [← hB, World.size_alloc, zA]
  have zW : W.heap.size = X + 6 := by rw [hW, World.size_alloc, zB]
  have kA : Below w1.heap.size w1 wA := by rw [← hA]; exact (Below.refl _ _).alloc (Nat.le_refl _) _
  have kB : Below wA.heap.size wA wB := by rw [← hB]; exact (Below.refl _ _).alloc (Nat.le_refl _) _
  have kW : Below wB.heap.size wB W := by rw [hW]; exact (Below.refl _ _).alloc (Nat.le_refl _) _
  have kAW : Below wA.heap.size wA W := Below.up kB kW
  have k1W : Below w1.heap.size w1 W := Below.up kA kAW
  have rA : RF wA (X + 3) 5 2 (fun i => ((#[.int .u8 90, .int .u8 195] : Array Value)[i]?).getD default) := by
    refine ⟨#[.int .u8 90, .int .u8 195], (2, 3), ?_, rfl, fun j hj h => by simp at h; omega, fun i hi => ?_⟩
    rotate_left
    · match i, hi with
      | 0, _ => rfl
      | 1, _ => rfl
    rw [← hA, ← hX]
    exact _root_.Go.heap_alloc_new w1 _
  have rB : RF wB (X + 4) 109 1 (fun _ => .slice (some ⟨X + 3, 0, none⟩) 2 2) := by
    rw [← hB, ← zA]
    exact RF_new wA _ _ 1 _ rfl (fun i hi => by obtain rfl : i = 0 := by omega
                                                rfl)
  have hy : By 0 W (.slice (some ⟨X + 3, 0, none⟩) 2 2) [90, 195] := by
    refine ⟨rfl, .inr ⟨X + 3, 2, _, rfl, Nat.zero_le _, rA.below kAW, Nat.le_refl _, by decide, fun j hj => ?_⟩⟩
    match j, hj with
    | 0, _ => rfl
    | 1, _ => rfl
  refine ⟨⟨_, rB.below kW, hy, (fun g hg => by simp [Value.ownBlock] at hg; exact .inl hg.symm), Below.refl _ _, fun _ _ _ _ => rfl⟩, ?_, hN.kept (k1W.block _ (by omega)), hF.kept (k1W.block _ (by omega)) (k1W.block _ (by omega)), k1W, zW⟩
  rw [hW, show X + 3 + 1 + 1 = wB.heap.size by omega]
  exact new_five wB _ _ _ _ _ _

set_option maxRecDepth 100000 in
set_option maxHeartbeats 3200000 in
theorem packHead_any (f : Fr) (v : Value) (w : World) (h : HiS w v f.hs) (hl : f.hs.length ≤ 4096) (h1 : 0 ≤ f.l ∧ f.l ≤ 9223372036854775807) (h2 : 0 ≤ f.s ∧ f.s ≤ 9223372036854775807) (h3 : 0 ≤ f.e ∧ f.e ≤ 9223372036854775807) (h4 : 0 ≤ f.t ∧ f.t ≤ 9223372036854775807) :
    Calls Try.prog 44 #[f.val v] w fun e w' => e = .returned (.string ⟨(shutL (headL f)).toArray⟩) ∧ Below w.heap.size w w' := by
  obtain ⟨l, s, e, t, hs⟩ := f
  simp only at h hl h1 h2 h3 h4
  unfold Fr.val headL
  simp only
  obtain ⟨a, cap, rfl, hc⟩ := h.form
  clear h
  obtain ⟨l, rfl⟩ : ∃ n : Nat, l = (n : Int) := ⟨l.toNat, by omega⟩
  obtain ⟨s, rfl⟩ : ∃ n : Nat, s = (n : Int) := ⟨s.toNat, by omega⟩
  obtain ⟨e, rfl⟩ : ∃ n : Nat, e = (n : Int) := ⟨e.toNat, by omega⟩
  obtain ⟨t, rfl⟩ : ∃ n : Nat, t = (n : Int) := ⟨t.toNat, by omega⟩
  simp only [Int.toNat_natCast]
  have cf := new_five w (.int .i64 (l : Nat)) (.int .i64 (s : Nat)) (.int .i64 (e : Nat)) (.int .i64 (t : Nat)) (.slice a hs.length cap) 38
  have ch := new_one (w.alloc (.cells #[.int .i64 (l : Nat), .int .i64 (s : Nat), .int .i64 (e : Nat), .int .i64 (t : Nat), .slice a hs.length cap] 38)) (.int .i64 (hs.length : Nat)) 3
  have b0 : Below w.heap.size w ((w.alloc (.cells #[.int .i64 (l : Nat), .int .i64 (s : Nat), .int .i64 (e : Nat), .int .i64 (t : Nat), .slice a hs.length cap] 38)).alloc (.cells #[.int .i64 (hs.length : Nat)] 3)) := ((Below.refl _ _).alloc (Nat.le_refl _) _).alloc (by simp) _
  have hz : ((w.alloc (.cells #[.int .i64 (l : Nat), .int .i64 (s : Nat), .int .i64 (e : Nat), .int .i64 (t : Nat), .slice a hs.length cap] 38)).alloc (.cells #[.int .i64 (hs.length : Nat)] 3)).heap.size = w.heap.size + 2 := by simp
  have FN0 : Hid (FN ((w.alloc (.cells #[.int .i64 (l : Nat), .int .i64 (s : Nat), .int .i64 (e : Nat), .int .i64 (t : Nat), .slice a hs.length cap] 38)).alloc (.cells #[.int .i64 (hs.length : Nat)] 3)) w.heap.size (w.heap.size + 1) l s e t hs.length) := Lib.hid (by
    have k : Below (w.alloc (.cells #[.int .i64 (l : Nat), .int .i64 (s : Nat), .int .i64 (e : Nat), .int .i64 (t : Nat), .slice a hs.length cap] 38)).heap.size (w.alloc (.cells #[.int .i64 (l : Nat), .int .i64 (s : Nat), .int .i64 (e : Nat), .int .i64 (t : Nat), .slice a hs.length cap] 38)) ((w.alloc (.cells #[.int .i64 (l : Nat), .int .i64 (s : Nat), .int .i64 (e : Nat), .int .i64 (t : Nat), .slice a hs.length cap] 38)).alloc (.cells #[.int .i64 (hs.length : Nat)] 3)) := (Below.refl _ _).alloc (Nat.le_refl _) _
    rw [World.size_alloc] at ch
    exact ⟨bc k cf.1, bc k cf.2.1, bc k cf.2.2.1, bc k cf.2.2.2.1, ch⟩)
  have B0 := Lib.hid b0
  clear cf ch b0
  go_enter Try.func44, Try.ntmps44
  go_wp2_with fail
  generalize ((w.alloc (.cells #[.int .i64 (l : Nat), .int .i64 (s : Nat), .int .i64 (e : Nat), .int .i64 (t : Nat), .slice a hs.length cap] 38)).alloc (.cells #[.int .i64 (hs.length : Nat)] 3)) = w0 at *
  refine (headNumbers_any _ _ w0).mono ?_
  rintro en w1 ⟨rfl, n1, b1, z1⟩
  have N1 := Lib.hid n1
  have F1 := Lib.hid (FN0.out.kept (b1.block _ (by omega)) (b1.block _ (by omega)))
  have B1 := Lib.hid (Below.up B0.out b1)
  have hz1 : w1.heap.size = w.heap.size + 3 := by omega
  clear n1 b1 FN0 B0 z1
  rw [hz] at N1 ⊢
  have CS := Lib.run_convert_bytes_const (P := Try.prog) w1 51 5 #[.int .u8 90, .int .u8 195] 2 2 u8_slice (by kernel_rfl)
  rw [hz1] at CS
  go_wp2_with fail
  obtain ⟨W, hW⟩ : ∃ W, W = ((w1.alloc (.cells #[.int .u8 90, .int .u8 195] 5 (2, 3))).alloc (.cells #[.slice (some ⟨w.heap.size + 3, 0, none⟩) 2 2] 109)).alloc (.cells #[.func (.func 61) #[.pointer (some ⟨w.heap.size + 3 + 1, 0, none⟩)] #[], .func (.func 61) #[.pointer (some ⟨w.heap.size + 3 + 1, 0, none⟩)] #[],
      .func (.func 62) #[.pointer (some ⟨w.heap.size + 3 + 1, 0, none⟩)] #[], .func (.func 63) #[.pointer (some ⟨w.heap.size + 3 + 1, 0, none⟩)] #[], .func (.func 64) #[.pointer (some ⟨w.heap.size + 3 + 1, 0, none⟩)] #[]] 110) := ⟨_, rfl⟩
  obtain ⟨hwr, hfu, hnu, hfn, hbw, hzw⟩ := head_mem w1 w.heap.size _ _ l s e t hs.length hz1 (by omega) (by omega) N1.out F1.out W hW
  rw [← hW]
  have B2 : Hid (Below w.heap.size w W) := Lib.hid (Below.up B1.out hbw)
  clear hW CS N1 F1 B1 hbw hz hz1
  have HWR := Lib.hid hwr
  have HFU := Lib.hid hfu
  have HNU := Lib.hid hnu
  have HFN := Lib.hid hfn
  clear hwr hfu hnu hfn
  refine wp_loop_rounds 6 ?_
  have T0 := Lib.hid (one_any _ _ _ _ _ l HWR.out (by omega) (by simp))
  rw [rounds_succ]
  obtain ⟨u0, u1, u2, u3, u4⟩ := HFU.out
  obtain ⟨p0, p1, p2, p3, p4⟩ := HNU.out
  obtain ⟨q0, q1, q2, q3, q4⟩ := HFN.out
  clear u1 u2 u3 u4 p1 p2 p3 p4 q1 q2 q3 q4
  go_wp2_with (go_at_call 61; refine T0.out.mono ?_; rintro e w2 ⟨rfl, h2⟩; have W2 := Lib.hid h2; clear h2)
  clear u0 p0 q0 T0
  have u1 := W2.out.cell HFU.out.2.1 (by omega) (by omega)
  have p1 := W2.out.cell HNU.out.2.1 (by omega) (by omega)
  have q1 := W2.out.cell HFN.out.2.1 (by omega) (by omega)
  have T1 := Lib.hid (one_any _ _ _ _ _ s W2.out (by omega) (by simp [beL_len]))
  rw [rounds_succ]
  go_wp2_with (go_at_call 61; refine T1.out.mono ?_; rintro e w3 ⟨rfl, h2⟩; have W3 := Lib.hid h2; clear h2)
  clear u1 p1 q1 T1
  have u2 := W3.out.cell HFU.out.2.2.1 (by omega) (by omega)
  have p2 := W3.out.cell HNU.out.2.2.1 (by omega) (by omega)
  have q2 := W3.out.cell HFN.out.2.2.1 (by omega) (by omega)
  have T2 := Lib.hid (four_any _ _ _ _ _ e W3.out (by omega) (by simp [beL_len]))
  rw [rounds_succ]
  go_wp2_with (go_at_call 62; refine T2.out.mono ?_; rintro e w4 ⟨rfl, h2⟩; have W4 := Lib.hid h2; clear h2)
  clear u2 p2 q2 T2
  have u3 := W4.out.cell HFU.out.2.2.2.1 (by omega) (by omega)
  have p3 := W4.out.cell HNU.out.2.2.2.1 (by omega) (by omega)
  have q3 := W4.out.cell HFN.out.2.2.2.1 (by omega) (by omega)
  have T3 := Lib.hid (six_any _ _ _ _ _ t W4.out (by omega) (by simp [beL_len]))
  rw [rounds_succ]
  go_wp2_with (go_at_call 63; refine T3.out.mono ?_; rintro e w5 ⟨rfl, h2⟩; have W5 := Lib.hid h2; clear h2)
  clear u3 p3 q3 T3
  have u4 := W5.out.cell HFU.out.2.2.2.2 (by omega) (by omega)
  have p4 := W5.out.cell HNU.out.2.2.2.2 (by omega) (by omega)
  have q4 := W5.out.cell HFN.out.2.2.2.2 (by omega) (by omega)
  have T4 := Lib.hid (two_any _ _ _ _ _ hs.length W5.out (by omega) (by simp [beL_len]))
  rw [rounds_succ]
  go_wp2_with (go_at_call 64; refine T4.out.mono ?_; rintro e w6 ⟨rfl, h2⟩; have W6 := Lib.hid h2; clear h2)
  clear u4 p4 q4 T4
  have HS := Lib.hid (sealed_any _ _ _ _ _ W6.out (by simp [beL_len]))
  rw [rounds_succ]
  go_wp2_with (go_at_call 65; refine HS.out.mono ?_; rintro e w' ⟨rfl, h1⟩; have H1 := Lib.hid h1; clear h1)
  go_ret
  exact ⟨ret_str (by simp), B2.out.trans (H1.out.done (by omega) (by omega) (by omega))⟩

/-- The bytes of a frame. -/
def packL (f : Fr) : List UInt8 := shutL (headL f) ++ shutL (hbL f.hs)
def packErr (f : Fr) : Int := if f.ok then 0 else 2
def packB (f : Fr) : List UInt8 := if f.ok then packL f else []
theorem packL_len (f : Fr) : (packL f).length = 20 + 4 * f.hs.length := by unfold packL; rw [List.length_append, shutL_len, shutL_len, headL_len, hbL_len]; omega
theorem hitsB_mem : ∀ (l : Hits) (b : Int), hitsB b l = true → -1 ≤ b → ∀ x ∈ l, (0 ≤ x.1 ∧ x.1 ≤ 4095) ∧ (1 ≤ x.2 ∧ x.2 ≤ 4095)
  | [], _, _, _, _, hx => by cases hx
  | y :: l, b, h, h1, x, hx => by
    simp only [hitsB, Bool.and_eq_true] at h
    obtain ⟨h3, h4⟩ := h
    simp only [hitB, Bool.and_eq_true, decide_eq_true_eq] at h3
    rcases List.mem_cons.1 hx with rfl | hx
    · have := inB_true.1 h3.2
      omega
    · exact hitsB_mem l y.1 h4 (by omega) x hx
theorem ok_bd {f : Fr} (h : f.ok = true) : (0 ≤ f.l ∧ f.l ≤ 15) ∧ (0 ≤ f.s ∧ f.s ≤ 31) ∧ (0 ≤ f.e ∧ f.e ≤ 4294967295) ∧ (0 ≤ f.t ∧ f.t ≤ 1099511627776) ∧ f.hs.length ≤ 4096 ∧ hitsB (-1) f.hs = true := by
  unfold Fr.ok headB evB at h
  simp only [Bool.and_eq_true, decide_eq_true_eq] at h
  have a1 := inB_true.1 h.1.1.1.1
  have a2 := inB_true.1 h.1.1.1.2
  have a3 := inB_true.1 h.1.1.2.1
  have a4 := inB_true.1 h.1.1.2.2
  exact ⟨a1, a2, a3, a4, by omega, h.2⟩

set_option maxRecDepth 100000 in
set_option maxHeartbeats 1600000 in
theorem Pack_any (f : Fr) (v : Value) (w : World) (h : HiS w v f.hs) (hl : f.hs.length ≤ 1099511627776) :
    Calls Try.prog 18 #[f.val v] w fun e w' => e = .returned (.tuple #[.string ⟨(packB f).toArray⟩, .int .i64 (packErr f)]) ∧ Below w.heap.size w w' := by
  have H := Lib.hid h
  obtain ⟨a, cap, rfl, hc⟩ := h.form
  clear h
  have hf : f.val (.slice a f.hs.length cap) = .agg #[.int .i64 f.l, .int .i64 f.s, .int .i64 f.e, .int .i64 f.t, .slice a f.hs.length cap] := rfl
  have b0 : Below w.heap.size w (w.alloc (.cells #[.int .i64 f.l, .int .i64 f.s, .int .i64 f.e, .int .i64 f.t, .slice a f.hs.length cap] 38)) := (Below.refl _ _).alloc (Nat.le_refl _) _
  have c0 := new_five w (.int .i64 f.l) (.int .i64 f.s) (.int .i64 f.e) (.int .i64 f.t) (.slice a f.hs.length cap) 38
  have B0 := Lib.hid b0
  have C0 := Lib.hid c0
  have CK := Lib.hid (fun W (k : Below w.heap.size w W) => Check_any f (.slice a f.hs.length cap) W (H.out.below k) hl)
  rw [hf] at CK
  have PH := Lib.hid (fun W (k : Below w.heap.size w W) (ho : f.ok = true) => packHead_any f (.slice a f.hs.length cap) W (H.out.below k) (ok_bd ho).2.2.2.2.1 ⟨(ok_bd ho).1.1, by have := (ok_bd ho).1.2; omega⟩ ⟨(ok_bd ho).2.1.1, by have := (ok_bd ho).2.1.2; omega⟩ ⟨(ok_bd ho).2.2.1.1, by have := (ok_bd ho).2.2.1.2; omega⟩ ⟨(ok_bd ho).2.2.2.1.1, by have := (ok_bd ho).2.2.2.1.2; omega⟩)
  rw [hf] at PH
  have PT := Lib.hid (fun W (k : Below w.heap.size w W) (ho : f.ok = true) => packHits_any (.slice a f.hs.length cap) f.hs W (H.out.below k) (ok_bd ho).2.2.2.2.1 (fun x hx => by have := hitsB_mem f.hs (-1) (ok_bd ho).2.2.2.2.2 (by omega) x hx; omega))
  rw [hf]
  clear b0 c0 hf
  cases ho : f.ok with
  | false =>
    have he : Hid (packErr f = 2 ∧ packB f = []) := Lib.hid (by unfold packErr packB; rw [ho]; exact ⟨rfl, rfl⟩)
    clear PH PT
    rw [ho] at CK
    go_enter Try.func18, Try.ntmps18
    go_wp2_with (go_at_call 20; refine (CK.out _ B0.out).mono ?_; rintro e w1 ⟨rfl, b1⟩; have B1 := Lib.hid (Below.up B0.out b1); clear b1)
    go_ret2
    exact ⟨(by rw [he.out.1, he.out.2]; rfl), B1.out⟩
  | true =>
    have hlen : (packL f).length ≤ 100000 := by rw [packL_len]; have := (ok_bd ho).2.2.2.2.1; omega
    have he : Hid (packErr f = 0 ∧ packB f = packL f) := Lib.hid (by unfold packErr packB; rw [ho]; exact ⟨rfl, rfl⟩)
    obtain ⟨s1, hs1⟩ : ∃ s : ByteArray, s = ⟨(shutL (headL f)).toArray⟩ := ⟨_, rfl⟩
    obtain ⟨s2, hs2⟩ : ∃ s : ByteArray, s = ⟨(shutL (hbL f.hs)).toArray⟩ := ⟨_, rfl⟩
    obtain ⟨s3, hs3⟩ : ∃ s : ByteArray, s = s1 ++ s2 := ⟨_, rfl⟩
    have hs4 : s3 = ⟨(packL f).toArray⟩ := by
      apply ByteArray.ext
      apply Array.ext'
      rw [hs3, cat_size, hs1, hs2]
      simp [packL]
    have ea := add_str s1 s2 s3 hs3 (by rw [hs4, size_str]; omega)
    have H4 := Lib.hid hs4
    rw [← hs1] at PH
    rw [← hs2] at PT
    rw [ho] at CK
    have HO := Lib.hid ho
    clear hs1 hs2 hs3 hs4 ho
    go_enter Try.func18, Try.ntmps18
    go_wp2_with (go_at_call 20; refine (CK.out _ B0.out).mono ?_; rintro e w1 ⟨rfl, b1⟩; have B1 := Lib.hid (Below.up B0.out b1); have C1 := Lib.hid (show w1.cell? ⟨w.heap.size, 0, none⟩ = _ ∧ w1.cell? ⟨w.heap.size, 1, none⟩ = _ ∧ w1.cell? ⟨w.heap.size, 2, none⟩ = _ ∧ w1.cell? ⟨w.heap.size, 3, none⟩ = _ ∧ w1.cell? ⟨w.heap.size, 4, none⟩ = _ from ⟨bc b1 C0.out.1, bc b1 C0.out.2.1, bc b1 C0.out.2.2.1, bc b1 C0.out.2.2.2.1, bc b1 C0.out.2.2.2.2⟩); clear b1)
    obtain ⟨d0, d1, d2, d3, d4⟩ := C1.out
    have BD : Hid (Below w.heap.size w w1.drew) := Lib.hid B1.out.drew
    clear CK C0 B0
    go_region_law
      (first
        | (rw [if_pos (by rfl)]; go_simp; go_at_call 44; ((with_reducible refine (PH.out _ BD.out HO.out).mono ?_); rintro e w2 ⟨rfl, b2⟩; have B2 := Lib.hid (Below.up BD.out b2); have e4 : w2.cell? ⟨w.heap.size, 4, none⟩ = some (.slice a f.hs.length cap) := bc b2 C1.out.2.2.2.2; clear b2; dsimp only))
        | (rw [if_pos (by rfl)]; go_simp; go_at_call 45; ((with_reducible refine (PT.out _ B2.out HO.out).mono ?_); rintro e w3 ⟨rfl, b3⟩; have B3 := Lib.hid (Below.up B2.out b3); clear b3; dsimp only)))
    all_goals
      go_wp2_with fail
      go_ret2
      exact ⟨(by rw [he.out.1, he.out.2, ← H4.out]; rfl), B3.out⟩
end Go.Proofs.Ytanillahofohgaa
