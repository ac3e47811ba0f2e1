/- Layer 5: the document's Unpack. -/
import Derived.Test.YtanillahofohgaaRbH
import Derived.StillTailTactics
import Derived.Deep.CutRange
import Derived.Deep.RegionLaw
set_option linter.unusedVariables false
set_option linter.unusedSimpArgs false
set_option maxRecDepth 100000
namespace Go.Proofs.Ytanillahofohgaa
open Go.RowKit

set_option maxHeartbeats 1600000 in
theorem value_any (l : List UInt8) (w : World) (hl : l.length ≤ 6) :
    Calls Try.prog 52 #[.string (str l)] w fun e w' => e = .returned (.int .i64 (beV l : Nat)) ∧ w' = w := by
  have hsz := str_size l
  obtain ⟨s, hs1⟩ : ∃ s, s = str l := ⟨_, rfl⟩
  have HAT : Hid (∀ k (h : k < s.size) (h' : k < l.length), s[k] = l[k]) := Lib.hid (by subst hs1; exact fun k h h' => str_at l k h h')
  rw [← hs1] at hsz ⊢
  clear hs1
  go_enter Try.func52, Try.ntmps52
  go_wp2_with fail
  go_loopw [3, 4] (fun n i wr => ∃ k : Nat, k ≤ l.length ∧ i = .int .i64 k ∧ n = .int .i64 (beV (l.take k) : Nat) ∧ wr = w) (fun _ i _ => l.length - (intOf i).toNat)
  case atStart => exact ⟨0, Nat.zero_le _, rfl, rfl, rfl⟩
  case round =>
    obtain ⟨k, hk, rfl, rfl, rfl⟩ := hrel
    by_cases hkl : k < l.length
    · have hks : k < s.size := by omega
      have HT := Lib.hid (beV_take l k hkl)
      have hv := beV_lt l k (by omega)
      have hp : 256 ^ k ≤ 256 ^ 5 := Nat.pow_le_pow_right (by decide) (by omega)
      have hv2 : beV (l.take k) < 1099511627776 := by have : (256 : Nat) ^ 5 = 1099511627776 := by decide
                                                      omega
      have ha := HAT.out k hks hkl
      have hy := byte_lt l[k]
      generalize beV (l.take k) = n at *
      rw [← ha] at hy HT
      have W1 : IntKind.i64.wrap (256 * (n : Int)) = 256 * (n : Int) := IntWalk.i64_in _ (by omega)
      have W2 : IntKind.i64.wrap (256 * (n : Int) + (s[k].toNat : Int)) = 256 * (n : Int) + (s[k].toNat : Int) := IntWalk.i64_in _ (by omega)
      clear hv hp ha
      go_wp2_with fail
      go_roundw
      case rel => exact ⟨k + 1, by omega, by go_num, by rw [HT.out]; go_num, by trivial⟩
      case measure => simp [intOf]; omega
    · obtain rfl : k = l.length := by omega
      have ht : Hid (l.take l.length = l) := Lib.hid (List.take_of_length_le (Nat.le_refl _))
      rw [ht.out]
      go_wp2_with fail
      go_ret
      exact ⟨rfl, rfl⟩
theorem str_mid (l : List UInt8) (i j : Nat) : (str l).extract i (i + j) = str ((l.drop i).take j) := by
  apply ByteArray.ext
  apply Array.ext'
  rw [ByteArray.data_extract, Array.toList_extract, List.extract_eq_take_drop, str_list, str_list, Nat.add_sub_cancel_left]
theorem sub_any (m : List UInt8) (i j : Nat) (h : i + j ≤ m.length) (a b : Int) (ha : a = (i : Int)) (hb : b = ((i + j : Nat) : Int)) : ∀ W : World, (Instr.slice 9 (.string (str m)) (some (.int .i64 a)) (some (.int .i64 b)) none).run Try.prog W = .ok (.string (str ((m.drop i).take j))) W := fun W => by
  subst ha hb
  rw [run_slice_string W 9 (str m) .i64 .i64 (i : Int) ((i + j : Nat) : Int) str_kind (by omega) (by omega) (by rw [str_size]; omega), Int.toNat_natCast, Int.toNat_natCast, str_mid]
/-- A hit behind a row, in a region. -/
theorem step_append_hit {ops : Array Oper} {o : Oper} {a : Act} {K : Act → World → Prop} {Q : Exit → Act → World → Prop} {E : Prop} {W : World} (hgd : o.guard = none) (s y : Operand)
    (ho : o.op = .call { callee := .builtin .append, args := #[s, y], argTypes := #[25, 25] }) {B : Nat} {v : Value} {l : Hits}
    (hs : a.eval s = v) (h : Ho B W v l) (g : Nat) (x1 x2 : Int) (hi : I64 x1 ∧ I64 x2) (hy : a.eval y = .slice (some ⟨g, 0, none⟩) 1 1) (c0 : W.cell? ⟨g, 0, none⟩ = some (.int .i64 x1)) (c1 : W.cell? ⟨g, 1, none⟩ = some (.int .i64 x2))
    (hl : l.length ≤ 1000000000) (hB : B ≤ W.heap.size)
    (hK : ∀ v' w', Ho B w' v' (l ++ [(x1, x2)]) → Below B W w' → K (a.put o.dst v') w') :
    if Region.wanted o (yielded ops a.tmps) = true then Oper.wp Try.prog o a W K Q else E := by
  refine step_append_rw hgd s y _ _ ho (.agg #[.int .i64 0, .int .i64 0]) 16 raw_slice raw_info rfl (by decide) hs h.1 _ hy 1 [.int .i64 x1, .int .i64 x2]
    (Src.ofSlice W raw_slice ⟨g, 0, none⟩ 1 1 _ rfl (fun j u hj => ?_) (fun u hu => ?_)) (by unfold maxLen; omega) (by omega) hB fun v' w' h1 h2 h3 => hK v' w' ⟨?_, ?_⟩ (grown_below h2 (fun g hg => (h.1.lt g hg).1) hB)
  · match j, hj with
    | 0, hj => simp at hj; subst hj; simpa [Addr.add] using c0
    | 1, hj => simp at hj; subst hj; simpa [Addr.add] using c1
  · simp at hu
    rcases hu with rfl | rfl <;> rfl
  · rw [← hiC_append, List.length_append]
    exact h1
  · intro x hx
    rcases List.mem_append.1 hx with hx | hx
    · exact h.2 x hx
    · rw [List.mem_singleton.1 hx]; exact hi

set_option maxHeartbeats 6400000 in
theorem refUnpack_any (m : List UInt8) (w : World) (hm : m.length ≤ 1000000) :
    Calls Try.prog 24 #[.string (str m)] w (UnpPost w m) := by
  have hsz := str_size m
  have hf0 := FrB.fresh w
  have b0 : Below w.heap.size w (w.alloc (.cells #[.int .i64 0, .int .i64 0, .int .i64 0, .int .i64 0, .slice none 0 0] 38)) := (Below.refl _ _).alloc (Nat.le_refl _) _
  have hz0 : (w.alloc (.cells #[.int .i64 0, .int .i64 0, .int .i64 0, .int .i64 0, .slice none 0 0] 38)).heap.size = w.heap.size + 1 := by simp
  obtain ⟨w0, hw0⟩ : ∃ W, W = w.alloc (.cells #[.int .i64 0, .int .i64 0, .int .i64 0, .int .i64 0, .slice none 0 0] 38) := ⟨_, rfl⟩
  rw [← hw0] at hf0 b0 hz0
  have F0 := Lib.hid hf0
  have B0 := Lib.hid b0
  clear hf0 b0
  by_cases h20 : 20 ≤ m.length
  · have i20 : (20 : Int) ≤ (m.length : Int) := by omega
    have q1 := slen m 2 1 (by omega)
    have q2 := slen m 3 1 (by omega)
    have q3 := slen m 4 4 (by omega)
    have q4 := slen m 8 6 (by omega)
    have q5 := slen m 14 2 (by omega)
    have c1 := sub_any m 2 1 (by omega) 2 3 rfl rfl
    have c2 := sub_any m 3 1 (by omega) 3 4 rfl rfl
    have c3 := sub_any m 4 4 (by omega) 4 8 rfl rfl
    have c4 := sub_any m 8 6 (by omega) 8 14 rfl rfl
    have c5 := sub_any m 14 2 (by omega) 14 16 rfl rfl
    have V1 := Lib.hid (fun W => value_any ((m.drop 2).take 1) W (by omega))
    have V2 := Lib.hid (fun W => value_any ((m.drop 3).take 1) W (by omega))
    have V3 := Lib.hid (fun W => value_any ((m.drop 4).take 4) W (by omega))
    have V4 := Lib.hid (fun W => value_any ((m.drop 8).take 6) W (by omega))
    have V5 := Lib.hid (fun W => value_any ((m.drop 14).take 2) W (by omega))
    have HN := Lib.hid (show hdN m = beV ((m.drop 14).take 2) from rfl)
    have hn := beV2_lt (m.drop 14)
    rw [← HN.out] at V5 hn
    have HUF : Hid (unpF m = ⟨(beV ((m.drop 2).take 1) : Nat), (beV ((m.drop 3).take 1) : Nat), (beV ((m.drop 4).take 4) : Nat), (beV ((m.drop 8).take 6) : Nat), rawL (m.drop 18) (hdN m)⟩) := Lib.hid rfl
    obtain ⟨y1, hy1⟩ : ∃ y, y = (m.drop 2).take 1 := ⟨_, rfl⟩
    obtain ⟨y2, hy2⟩ : ∃ y, y = (m.drop 3).take 1 := ⟨_, rfl⟩
    obtain ⟨y3, hy3⟩ : ∃ y, y = (m.drop 4).take 4 := ⟨_, rfl⟩
    obtain ⟨y4, hy4⟩ : ∃ y, y = (m.drop 8).take 6 := ⟨_, rfl⟩
    obtain ⟨y5, hy5⟩ : ∃ y, y = (m.drop 14).take 2 := ⟨_, rfl⟩
    rw [← hy1] at c1 V1 HUF
    rw [← hy2] at c2 V2 HUF
    rw [← hy3] at c3 V3 HUF
    rw [← hy4] at c4 V4 HUF
    rw [← hy5] at c5 V5
    clear hy1 hy2 hy3 hy4 hy5 q1 q2 q3 q4 q5
    go_enter Try.func24, Try.ntmps24
    go_wp2_with fail
    rw [← hw0]
    clear hw0
    go_cut [5] from 15 to 27 (fun s0 wx => s0 = .pointer (some ⟨w.heap.size + 1, 0, none⟩) ∧ wx = (w0.alloc (.cells #[.int .i64 (beV y1 : Nat), .int .i64 (beV y2 : Nat), .int .i64 (beV y3 : Nat), .int .i64 (beV y4 : Nat), .slice none 0 0] 38)).drew)
    case first =>
      go_region_law
        (first
          | (refine step_at (Eq.refl true) ?_; go_simp; go_at_call 52; ((with_reducible refine (V1.out _).mono ?_); rintro e wv ⟨rfl, rfl⟩; dsimp only))
          | (refine step_at (Eq.refl true) ?_; go_simp; go_at_call 52; ((with_reducible refine (V2.out _).mono ?_); rintro e wv ⟨rfl, rfl⟩; dsimp only))
          | (refine step_at (Eq.refl true) ?_; go_simp; go_at_call 52; ((with_reducible refine (V3.out _).mono ?_); rintro e wv ⟨rfl, rfl⟩; dsimp only))
          | (refine step_at (Eq.refl true) ?_; go_simp; go_at_call 52; ((with_reducible refine (V4.out _).mono ?_); rintro e wv ⟨rfl, rfl⟩; dsimp only)))
      all_goals
        go_wp2_with fail
        go_meet
        exact ⟨rfl, rfl⟩
    case rest =>
      obtain ⟨rfl, rfl⟩ := hcut
      have hf1 : FrB (w0.alloc (.cells #[.int .i64 (beV y1 : Nat), .int .i64 (beV y2 : Nat), .int .i64 (beV y3 : Nat), .int .i64 (beV y4 : Nat), .slice none 0 0] 38)).drew w0.heap.size (beV y1 : Nat) (beV y2 : Nat) (beV y3 : Nat) (beV y4 : Nat) (.slice none 0 0) := RF_new w0 _ _ 5 _ rfl (fun i hi => by unfold frC; rw [Array.getElem?_eq_getElem hi]; rfl)
      have b1 : Below w0.heap.size w0 (w0.alloc (.cells #[.int .i64 (beV y1 : Nat), .int .i64 (beV y2 : Nat), .int .i64 (beV y3 : Nat), .int .i64 (beV y4 : Nat), .slice none 0 0] 38)).drew := ((Below.refl _ _).alloc (Nat.le_refl _) _).drew
      have z1 : (w0.alloc (.cells #[.int .i64 (beV y1 : Nat), .int .i64 (beV y2 : Nat), .int .i64 (beV y3 : Nat), .int .i64 (beV y4 : Nat), .slice none 0 0] 38)).drew.heap.size = w.heap.size + 2 := by simp [hz0]
      have F1 := Lib.hid (F0.out.below b1)
      have B1 := Lib.hid (Below.up B0.out b1)
      rw [hz0] at hf1
      have G1 := Lib.hid hf1
      clear hf1 b1 F0 B0 c1 c2 c3 c4 V1 V2 V3 V4
      generalize (w0.alloc (.cells #[.int .i64 (beV y1 : Nat), .int .i64 (beV y2 : Nat), .int .i64 (beV y3 : Nat), .int .i64 (beV y4 : Nat), .slice none 0 0] 38)).drew = w1 at *
      obtain ⟨n, hnn⟩ : ∃ n, n = hdN m := ⟨_, rfl⟩
      have HNN := Lib.hid hnn
      rw [← hnn] at V5 hn HUF
      clear hnn HN
      have WM : IntKind.i64.wrap (4 * (n : Int)) = 4 * (n : Int) := IntWalk.i64_in _ (by omega)
      have WA : IntKind.i64.wrap (20 + 4 * (n : Int)) = 20 + 4 * (n : Int) := IntWalk.i64_in _ (by omega)
      have hcase : (m.length : Int) < 20 + 4 * (n : Int) ∨ ¬ (m.length : Int) < 20 + 4 * (n : Int) := by omega
      obtain ⟨q0, q1, q2, q3, q4⟩ := F1.out.cells
      obtain ⟨⟨z0, z1', z2, z3, z4⟩, s0, s1, s2, s3, s4⟩ := F1.out.selfs
      rcases hcase with hc | hc
      · have hno : Hid (unpOk m = false) := Lib.hid (by
          cases hu : unpOk m with
          | false => rfl
          | true => have := unpOk_len hu; rw [← HNN.out] at this; omega)
        go_wp2_with (go_at_call 52; refine (V5.out _).mono ?_; rintro e wv ⟨rfl, rfl⟩)
        refine bodyPost_ret (v := .tuple #[.agg #[.int .i64 0, .int .i64 0, .int .i64 0, .int .i64 0, .slice none 0 0], .int .i64 0, .int .i64 5]) (by simp [results, Try.results24, go_sem, q0, q1, q2, q3, q4]) rfl ⟨(fun h => by rw [hno.out] at h; cases h), (fun _ => rfl), B1.out⟩
      · clear s0 s1 s2 s3 s4 z0 z1' z2 z3 z4 q0 q1 q2 q3 q4
        go_wp2_with (go_at_call 52; refine (V5.out _).mono ?_; rintro e wv ⟨rfl, rfl⟩)
        clear c5 V5 hsz
        have GH : Hid (Ho (w.heap.size + 2) wv (.slice none 0 0) ((rawL (m.drop 18) n).take 0)) := Lib.hid (Ho.nil _ _)
        go_loopw [7, 8] (fun i _ wr => ∃ (k : Nat) (v : Value), k ≤ n ∧ i = .int .i64 k ∧ Hid (FrB wr w.heap.size 0 0 0 0 (.slice none 0 0)) ∧ Hid (FrB wr (w.heap.size + 1) (beV y1 : Nat) (beV y2 : Nat) (beV y3 : Nat) (beV y4 : Nat) v) ∧ Hid (Ho (w.heap.size + 2) wr v ((rawL (m.drop 18) n).take k)) ∧ Hid (Below w.heap.size w wr) ∧ Hid (w.heap.size + 2 ≤ wr.heap.size)) (fun i _ _ => n - (intOf i).toNat)
        case atStart => exact ⟨0, _, Nat.zero_le _, rfl, F1, G1, GH, B1, Lib.hid (by omega)⟩
        case round =>
          obtain ⟨k, v, hk, rfl, F2, G2, H2, B2, Z2⟩ := hrel
          by_cases hlt : k < n
          · have hkl : k < (rawL (m.drop 18) n).length := by rw [rawL_len]; exact hlt
            have hx := rawL_at n k (m.drop 18) hkl
            rw [List.drop_drop, List.drop_drop] at hx
            have HT := Lib.hid (List.take_succ_eq_append_getElem hkl)
            rw [hx] at HT
            have X1 := Lib.hid (fun W => value_any ((m.drop (18 + 4 * k)).take 2) W (by rw [List.length_take]; omega))
            have X2 := Lib.hid (fun W => value_any ((m.drop (18 + (4 * k + 2))).take 2) W (by rw [List.length_take]; omega))
            have d1 := sub_any m (18 + 4 * k) 2 (by omega) (18 + 4 * (k : Int)) (18 + 4 * (k : Int) + 2) (by omega) (by omega)
            have d2 := sub_any m (18 + (4 * k + 2)) 2 (by omega) (18 + 4 * (k : Int) + 2) (18 + 4 * (k : Int) + 4) (by omega) (by omega)
            have v1 := beV2_lt (m.drop (18 + 4 * k))
            have v2 := beV2_lt (m.drop (18 + (4 * k + 2)))
            have w1' : IntKind.i64.wrap (4 * (k : Int)) = 4 * (k : Int) := IntWalk.i64_in _ (by omega)
            have w2' : IntKind.i64.wrap (18 + 4 * (k : Int)) = 18 + 4 * (k : Int) := IntWalk.i64_in _ (by omega)
            have w3' : IntKind.i64.wrap (18 + 4 * (k : Int) + 2) = 18 + 4 * (k : Int) + 2 := IntWalk.i64_in _ (by omega)
            have w4' : IntKind.i64.wrap (18 + 4 * (k : Int) + 4) = 18 + 4 * (k : Int) + 4 := IntWalk.i64_in _ (by omega)
            have hll : ((rawL (m.drop 18) n).take k).length ≤ 65536 := by rw [List.length_take]; omega
            generalize (m.drop (18 + 4 * k)).take 2 = u1 at *
            generalize (m.drop (18 + (4 * k + 2))).take 2 = u2 at *
            generalize beV u1 = n1 at *
            generalize beV u2 = n2 at *
            generalize (rawL (m.drop 18) n).take k = L at *
            have hhi : I64 (n1 : Int) ∧ I64 (n2 : Int) := by unfold I64; omega
            obtain ⟨a2, l2, e2, _⟩ := H2.out.hi.form
            subst e2
            have p4 := G2.out.cells.2.2.2.2
            have f4 := RF.frozen G2.out (i := 4) (by omega)
            have pA : (wr.alloc (.cells #[.int .i64 (n1 : Nat), .int .i64 (n2 : Nat)] 35)).cell? ⟨w.heap.size + 1, 4, none⟩ = some (.slice a2 L.length l2) := bc ((Below.refl _ _).alloc (Nat.le_refl _) _) p4
            have hz2 := Z2.out
            have W2 : Hid (Ho (w.heap.size + 2) (wr.alloc (.cells #[.int .i64 (n1 : Nat), .int .i64 (n2 : Nat)] 35)).drew (.slice a2 L.length l2) L) := Lib.hid (H2.out.below ((Below.refl _ _).alloc (Nat.le_refl _) _).drew)
            have CX := Lib.hid (new_two wr (.int .i64 (n1 : Nat)) (.int .i64 (n2 : Nat)) 35)
            have BX : Hid (Below wr.heap.size wr (wr.alloc (.cells #[.int .i64 (n1 : Nat), .int .i64 (n2 : Nat)] 35)).drew) := Lib.hid ((Below.refl _ _).alloc (Nat.le_refl _) _).drew
            have P4 := Lib.hid p4
            have Q4 := Lib.hid f4
            clear hx v1 v2
            go_wp2_with fail
            go_region_law (first
              | (refine step_at (Eq.refl true) ?_; go_simp; go_at_call 52; ((with_reducible refine (X1.out _).mono ?_); rintro e wv ⟨rfl, rfl⟩; dsimp only))
              | (refine step_at (Eq.refl true) ?_; go_simp; go_at_call 52; ((with_reducible refine (X2.out _).mono ?_); rintro e wv ⟨rfl, rfl⟩; dsimp only))
              | ((refine step_append_hit rfl _ _ (by rfl) (by rfl) W2.out wr.heap.size (n1 : Int) (n2 : Int) hhi (by rfl) CX.out.1 CX.out.2 (by omega) (by simp; omega) ?_); intro v5 w5 h5 g5; obtain ⟨a5, l5, e5, _⟩ := h5.hi.form; subst e5; have H5 := Lib.hid h5; have B5 := Lib.hid g5; have E5 : Hid (w5.heap[w.heap.size + 1]? = wr.heap[w.heap.size + 1]?) := Lib.hid ((g5.block _ (by omega)).trans (BX.out.block _ (by omega))); have c5 := (World.cell?_of_block (w := wr) E5.out).trans P4.out; have f5 := (World.frozen?_of_block (w := wr) E5.out).trans Q4.out; clear h5 g5))
            all_goals
              go_wp2_with fail
              have hb5 := B5.out.size
              have hbx := BX.out.size
              have F6 := Lib.hid (RF.of_block F2.out (w' := w5.setCell ⟨w.heap.size + 1, 4, none⟩ (.slice a5 (L ++ [((n1 : Int), (n2 : Int))]).length l5)) ((Below.heap_setCell _ _ _ _ (by show w.heap.size ≠ w.heap.size + 1; omega)).trans ((B5.out.block _ (by omega)).trans (BX.out.block _ (by omega)))))
              have G6 := Lib.hid (FrB.set4 (RF.of_block G2.out E5.out : FrB w5 (w.heap.size + 1) _ _ _ _ _) (.slice a5 (L ++ [((n1 : Int), (n2 : Int))]).length l5))
              have H6 := Lib.hid (H5.out.onb (OnB.setA (w.heap.size + 1) 4 w5 (.slice a5 (L ++ [((n1 : Int), (n2 : Int))]).length l5)) (by omega))
              have B6 := Lib.hid (((B2.out.trans (BX.out.mono (by omega))).trans (B5.out.mono (by omega))).setCell (p := ⟨w.heap.size + 1, 4, none⟩) (Nat.le_succ _) (.slice a5 (L ++ [((n1 : Int), (n2 : Int))]).length l5))
              have hlen : (L ++ [((n1 : Int), (n2 : Int))]).length = L.length + 1 := by simp
              rw [hlen] at F6 G6 H6 B6
              go_roundw
              case rel => exact ⟨k + 1, _, by omega, by go_num, F6, G6, Lib.hid (by rw [HT.out]; exact H6.out), B6, Lib.hid (by simp; omega)⟩
              case measure => simp [intOf]; omega
          · obtain rfl : k = n := by omega
            have hfull : Hid ((rawL (m.drop 18) k).take k = rawL (m.drop 18) k) := Lib.hid (List.take_of_length_le (by rw [rawL_len]; exact Nat.le_refl _))
            rw [hfull.out] at H2
            have hl2 := rawL_len k (m.drop 18)
            obtain ⟨a2, l2, e2, _⟩ := H2.out.hi.form
            rw [hl2] at e2
            subst e2
            have RP := Lib.hid (refPack_any (unpF m) _ wr (by rw [HUF.out]; exact H2.out.hi) (by rw [HUF.out]; simp only; omega))
            have hv : (unpF m).val (.slice a2 k l2) = .agg #[.int .i64 (beV y1 : Nat), .int .i64 (beV y2 : Nat), .int .i64 (beV y3 : Nat), .int .i64 (beV y4 : Nat), .slice a2 k l2] := by rw [HUF.out]; rfl
            rw [hv] at RP
            have HV := Lib.hid hv
            have hpl := packL_len (unpF m)
            have hhs : (unpF m).hs.length = k := by rw [HUF.out]; exact hl2
            rw [hhs] at hpl
            have HH : Hid ((unpF m).hs = rawL (m.drop 18) k) := Lib.hid (by rw [HUF.out])
            have REF := Lib.hid (refOk_iff m (by rw [← HNN.out]; omega))
            have HRF : Hid (refOk m = ((unpF m).ok && decide (packL (unpF m) = m.take (20 + 4 * k)))) := Lib.hid (by rw [HNN.out]; rfl)
            generalize hF : unpF m = F at *
            generalize rawL (m.drop 18) k = hits at *
            obtain ⟨p0, p1, p2, p3, p4⟩ := G2.out.cells
            have HHS := Lib.hid hhs
            have HFF := Lib.hid hF
            clear hv HUF hfull GH hhs hl2 hF hk hlt
            go_wp2_with fail
            refine RP.out.mono ?_
            rintro e w3 ⟨rfl, b3⟩
            have F3 := Lib.hid (F2.out.below b3)
            have G3 := Lib.hid (G2.out.below b3)
            have H3 := Lib.hid (H2.out.below b3)
            have B3 := Lib.hid (Below.up B2.out b3)
            clear b3 RP p0 p1 p2 p3 p4
            obtain ⟨p0, p1, p2, p3, p4⟩ := G3.out.cells
            obtain ⟨q0, q1, q2, q3, q4⟩ := F3.out.cells
            cases ho : F.ok with
            | false =>
              have hno : Hid (unpOk m = false) := Lib.hid (by rw [← REF.out, HRF.out, ho]; rfl)
              have he : packErr F = 2 ∧ packB F = [] := by unfold packErr packB; rw [ho]; exact ⟨rfl, rfl⟩
              rw [he.1, he.2]
              obtain ⟨⟨z0, z1', z2, z3, z4⟩, s0, s1, s2, s3, s4⟩ := F3.out.selfs
              go_wp2_with fail
              refine bodyPost_ret (v := .tuple #[.agg #[.int .i64 0, .int .i64 0, .int .i64 0, .int .i64 0, .slice none 0 0], .int .i64 0, .int .i64 5]) (by simp [results, Try.results24, go_sem, q0, q1, q2, q3, q4]) rfl ⟨(fun h => by rw [hno.out] at h; cases h), (fun _ => rfl), B3.out⟩
            | true =>
              have he : packErr F = 0 ∧ packB F = packL F := by unfold packErr packB; rw [ho]; exact ⟨rfl, rfl⟩
              rw [he.1, he.2]
              have hps := str_size (packL F)
              rw [hpl] at hps
              have hsz := str_size m
              have SL : ∀ W, (Instr.slice 9 (.string (str m)) none (some (.int .i64 (20 + 4 * (k : Int)))) none).run Try.prog W = .ok (.string (str (m.take (20 + 4 * k)))) W := fun W => by
                rw [run_slice_string_h W 9 (str m) str_kind .i64 (20 + 4 * (k : Int)) (by omega) (by omega), show (20 + 4 * (k : Int)).toNat = 20 + 4 * k by omega, str_take]
              by_cases hpk : packL F = m.take (20 + 4 * k)
              · have hyes : Hid (unpOk m = true) := Lib.hid (by rw [← REF.out, HRF.out, ho, decide_eq_true hpk]; rfl)
                rw [← hpk] at SL
                obtain ⟨⟨z0, z1', z2, z3, z4⟩, -⟩ := F3.out.selfs
                clear hpk
                generalize packL F = pk at *
                clear HRF REF
                go_wp2_with fail
                obtain ⟨W9, hW9⟩ : ∃ W9, W9 = (((((w3.setCell ⟨w.heap.size, 0, none⟩ (.int .i64 (beV y1 : Nat))).setCell ⟨w.heap.size, 1, none⟩ (.int .i64 (beV y2 : Nat))).setCell ⟨w.heap.size, 2, none⟩ (.int .i64 (beV y3 : Nat))).setCell ⟨w.heap.size, 3, none⟩ (.int .i64 (beV y4 : Nat))).setCell ⟨w.heap.size, 4, none⟩ (.slice a2 k l2)) := ⟨_, rfl⟩
                obtain ⟨hf9, ho9⟩ := five_frb F3.out (beV y1 : Nat) (beV y2 : Nat) (beV y3 : Nat) (beV y4 : Nat) (.slice a2 k l2)
                rw [← hW9] at hf9 ho9 ⊢
                obtain ⟨r0, r1, r2, r3, r4⟩ := hf9.cells
                refine bodyPost_ret (v := .tuple #[.agg #[.int .i64 (beV y1 : Nat), .int .i64 (beV y2 : Nat), .int .i64 (beV y3 : Nat), .int .i64 (beV y4 : Nat), .slice a2 k l2], .int .i64 (20 + 4 * (k : Int)), .int .i64 0]) (by simp [results, Try.results24, go_sem, r0, r1, r2, r3, r4]) rfl ⟨(fun _ => ⟨.slice a2 k l2, ?_, ?_⟩), (fun h => by rw [hyes.out] at h; cases h), B3.out.trans (ho9.below (Nat.le_refl _))⟩
                · rw [HFF.out, HV.out, ← HNN.out]
                  simp
                · rw [HFF.out, HH.out]
                  exact (H3.out.onb ho9 (by omega)).mono (by omega)
              · have hno : Hid (unpOk m = false) := Lib.hid (by rw [← REF.out, HRF.out, ho, decide_eq_false hpk]; rfl)
                have hb1 : ((str (packL F)).toList == (str (m.take (20 + 4 * k))).toList) = false := by rw [beq_str]; exact decide_eq_false hpk
                have hb2 : ¬ str (packL F) = str (m.take (20 + 4 * k)) := by rw [str_eq]; exact hpk
                obtain ⟨⟨z0, z1', z2, z3, z4⟩, s0, s1, s2, s3, s4⟩ := F3.out.selfs
                clear hpk HRF REF
                generalize packL F = pk at *
                generalize m.take (20 + 4 * k) = mk at *
                go_wp2_with fail
                refine bodyPost_ret (v := .tuple #[.agg #[.int .i64 0, .int .i64 0, .int .i64 0, .int .i64 0, .slice none 0 0], .int .i64 0, .int .i64 5]) (by simp [results, Try.results24, go_sem, q0, q1, q2, q3, q4]) rfl ⟨(fun h => by rw [hno.out] at h; cases h), (fun _ => rfl), B3.out⟩
  · have hno : Hid (unpOk m = false) := Lib.hid (by
      cases hu : unpOk m with
      | false => rfl
      | true => have := unpOk_len hu; omega)
    have i20 : (m.length : Int) < 20 := by omega
    obtain ⟨q0, q1, q2, q3, q4⟩ := F0.out.cells
    obtain ⟨⟨z0, z1', z2, z3, z4⟩, s0, s1, s2, s3, s4⟩ := F0.out.selfs
    rw [hw0] at q0 q1 q2 q3 q4 z0 z1' z2 z3 z4 s0 s1 s2 s3 s4
    go_enter Try.func24, Try.ntmps24
    go_wp2_with fail
    refine bodyPost_ret (v := .tuple #[.agg #[.int .i64 0, .int .i64 0, .int .i64 0, .int .i64 0, .slice none 0 0], .int .i64 0, .int .i64 5]) (by simp [results, Try.results24, go_sem, q0, q1, q2, q3, q4]) rfl ⟨(fun h => by rw [hno.out] at h; cases h), (fun _ => rfl), (by rw [← hw0]; exact B0.out)⟩
end Go.Proofs.Ytanillahofohgaa
