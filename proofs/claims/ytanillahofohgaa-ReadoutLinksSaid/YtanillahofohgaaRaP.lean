/- Layer 5: the hits of a frame, read. -/
import Derived.Test.YtanillahofohgaaRaO
set_option linter.unusedVariables false
set_option linter.unusedSimpArgs false
namespace Go.Proofs.Ytanillahofohgaa
open Go.RowKit

/-- The hits in some bytes. -/
def rawL (m : List UInt8) : Nat → Hits
  | 0 => []
  | n + 1 => ((beV (m.take 2) : Int), (beV ((m.drop 2).take 2) : Int)) :: rawL (m.drop 4) n
theorem rawL_len : ∀ (n : Nat) (m : List UInt8), (rawL m n).length = n
  | 0, _ => rfl
  | n + 1, m => by rw [rawL, List.length_cons, rawL_len n]
theorem rawL_at : ∀ (n k : Nat) (m : List UInt8) (h : k < (rawL m n).length), (rawL m n)[k] = ((beV ((m.drop (4 * k)).take 2) : Int), (beV ((m.drop (4 * k + 2)).take 2) : Int))
  | 0, k, m, h => by simp [rawL] at h
  | n + 1, 0, m, h => by simp [rawL]
  | n + 1, k + 1, m, h => by
    have h' : k < (rawL (m.drop 4) n).length := by simpa [rawL] using h
    have := rawL_at n k (m.drop 4) h'
    rw [List.drop_drop, List.drop_drop] at this
    rw [show 4 * (k + 1) = 4 + 4 * k by omega, show 4 + 4 * k + 2 = 4 + (4 * k + 2) by omega, ← this]
    rfl
theorem beV2_lt (l : List UInt8) : beV (l.take 2) < 65536 := by
  by_cases h : 2 ≤ l.length
  · exact beV_lt l 2 h
  · have h1 := beV_lt l l.length (Nat.le_refl _)
    rw [List.take_of_length_le (by omega)] at h1 ⊢
    have : 256 ^ l.length ≤ 256 ^ 2 := Nat.pow_le_pow_right (by decide) (by omega)
    have e : (256 : Nat) ^ 2 = 65536 := by decide
    omega
theorem rawL_bd (m : List UInt8) (n : Nat) (x : Int × Int) (h : x ∈ rawL m n) : (0 ≤ x.1 ∧ x.1 < 65536) ∧ (0 ≤ x.2 ∧ x.2 < 65536) := by
  obtain ⟨k, hk, rfl⟩ := List.getElem_of_mem h
  rw [rawL_at n k m hk]
  have := beV2_lt (m.drop (4 * k))
  have := beV2_lt (m.drop (4 * k + 2))
  constructor <;> constructor <;> simp only <;> omega
/-- Are so many hits, and their sum, the beginning of these bytes? -/
def thereB (m : List UInt8) (n : Nat) : Bool := decide (4 * n + 2 ≤ m.length) && (hitsB (-1) (rawL m n) && decide (beV ((m.drop (4 * n)).take 2) = crc0 (m.take (4 * n))))
def HitPost (w : World) (m : List UInt8) (n : Nat) (e : Ending) (w' : World) : Prop :=
  ∃ a c d, e = .returned (.tuple #[.slice a c d, .bool (thereB m n)]) ∧ (thereB m n = true → Ho w.heap.size w' (.slice a c d) (rawL m n)) ∧ Below w.heap.size w w'
theorem Ho.onb {B b : Nat} {W W' : World} {v : Value} {l : Hits} (h : Ho B W v l) (k : OnB b W W') (hb : b < B) : Ho B W' v l := ⟨h.1.same fun g hg => k.2.2 g (by have := (h.1.lt g hg).1; omega), h.2⟩
theorem Rd.below {b : Nat} {w w' : World} {l : List UInt8} (h : Rd w b l) {B : Nat} (k : Below B w w') (hb : b < B) : Rd w' b l := RF.below' h hb k

theorem Rd.fresh (w : World) (m : List UInt8) : Rd (w.alloc (.cells #[.string (str m)] 117)) w.heap.size m := by
  unfold Rd
  refine RF_new w _ _ 1 _ rfl (fun i hi => ?_)
  obtain rfl : i = 0 := by omega
  rfl
set_option maxRecDepth 100000 in
set_option maxHeartbeats 1600000 in
theorem unpackHits_any (m : List UInt8) (n : Nat) (w : World) (hn : n ≤ 65536) (hm : m.length ≤ 1099511627776) :
    Calls Try.prog 51 #[.string (str m), .int .i64 (n : Nat)] w (HitPost w m n) := by
  have hsz := str_size m
  have HTK := Lib.hid (str_take m (4 * n))
  by_cases hlen : 4 * n + 2 ≤ m.length
  · have hr := Rd.fresh w m
    have b0 : Below w.heap.size w (w.alloc (.cells #[.string (str m)] 117)) := (Below.refl _ _).alloc (Nat.le_refl _) _
    have hz : (w.alloc (.cells #[.string (str m)] 117)).heap.size = w.heap.size + 1 := by simp
    have HR := Lib.hid hr
    have B0 := Lib.hid b0
    clear hr b0
    go_enter Try.func51, Try.ntmps51
    go_wp2_with fail
    generalize (w.alloc (.cells #[.string (str m)] 117)) = w1 at *
    go_loopw [6, 8, 9, 20] (fun o u _ i wr => ∃ (k : Nat) (b : Int), k ≤ n ∧ i = .int .i64 k ∧ u = .int .i64 b ∧ Hid (hitsB (-1) (rawL m n) = hitsB b ((rawL m n).drop k)) ∧ Hid (Rd wr w.heap.size (m.drop (4 * k))) ∧ Hid (Ho (w.heap.size + 1) wr o ((rawL m n).take k)) ∧ Hid (Below w.heap.size w wr)) (fun _ _ _ i _ => n - (intOf i).toNat)
    case atStart => exact ⟨0, -1, Nat.zero_le _, rfl, rfl, Lib.hid rfl, by simpa using HR, Lib.hid (Ho.nil _ _), B0⟩
    case round =>
      obtain ⟨k, b, hk, rfl, rfl, HE, HR, HO, BL⟩ := hrel
      have hrb := HR.out.lt
      by_cases hlt : k < n
      · have hkl : k < (rawL m n).length := by rw [rawL_len]; exact hlt
        have hx := rawL_at n k m hkl
        have HD := Lib.hid (hitsB_drop b (rawL m n) k hkl)
        have HT := Lib.hid (List.take_succ_eq_append_getElem hkl)
        rw [hx] at HD HT
        have y1 := beV2_lt (m.drop (4 * k))
        have y2 := beV2_lt (m.drop (4 * k + 2))
        have R1 := Lib.hid (rtwo_any _ _ wr HR.out (by rw [List.length_drop]; omega) (by rw [List.length_drop]; omega))
        have hd : Hid ((m.drop (4 * k)).drop 2 = m.drop (4 * k + 2) ∧ (m.drop (4 * k + 2)).drop 2 = m.drop (4 * (k + 1))) := Lib.hid ⟨by rw [List.drop_drop], by rw [List.drop_drop, show 4 * (k + 1) = 4 * k + 2 + 2 by omega]⟩
        rw [hd.out.1] at R1
        have hll : ((rawL m n).take k).length ≤ 65536 := by rw [List.length_take]; omega
        generalize beV ((m.drop (4 * k)).take 2) = x1 at *
        have R2 := Lib.hid (fun W (h : Rd W w.heap.size (m.drop (4 * k + 2))) => rtwo_any _ _ W h (by rw [List.length_drop]; omega) (by rw [List.length_drop]; omega))
        rw [hd.out.2] at R2
        generalize beV ((m.drop (4 * k + 2)).take 2) = x2 at *
        generalize (rawL m n).take k = L at *
        clear hx
        go_wp2_with (go_at_call 71; (first
          | ((with_reducible refine R1.out.mono ?_); rintro e w2 ⟨rfl, h2, o2⟩; have H2 := Lib.hid h2; have O2 := Lib.hid o2; clear h2 o2)
          | ((with_reducible refine (R2.out _ H2.out).mono ?_); rintro e w3 ⟨rfl, h3, o3⟩; have H3 := Lib.hid h3; have O3 := Lib.hid (O2.out.trans o3); clear h3 o3)))
        have HO3 := Lib.hid (HO.out.onb O3.out (by omega))
        have B3 := Lib.hid (BL.out.trans (O3.out.below (Nat.le_refl _)))
        have hz3 : w3.heap.size = wr.heap.size := O3.out.2.1
        obtain ⟨d0, d1⟩ := new_two w3 (.int .i64 (x1 : Nat)) (.int .i64 (x2 : Nat)) 35
        rw [hz3] at d0 d1
        have D := Lib.hid (And.intro d0 d1)
        have hz4 : (w3.alloc (.cells #[.int .i64 (x1 : Nat), .int .i64 (x2 : Nat)] 35)).heap.size = wr.heap.size + 1 := by simp [hz3]
        have B4 : Hid (Below w.heap.size w (w3.alloc (.cells #[.int .i64 (x1 : Nat), .int .i64 (x2 : Nat)] 35))) := Lib.hid (B3.out.alloc B3.out.size _)
        have HO4 : Hid (Ho (w.heap.size + 1) (w3.alloc (.cells #[.int .i64 (x1 : Nat), .int .i64 (x2 : Nat)] 35)) u6 L) := Lib.hid (HO3.out.below ((Below.refl _ _).alloc (Nat.le_refl _) _))
        have H4 : Hid (Rd (w3.alloc (.cells #[.int .i64 (x1 : Nat), .int .i64 (x2 : Nat)] 35)) w.heap.size (m.drop (4 * (k + 1)))) := Lib.hid (H3.out.below ((Below.refl _ _).alloc (Nat.le_refl _) _) (by omega))
        clear d0 d1 HO3 B3 O3 O2 H2 H3 HO
        generalize hW4 : (w3.alloc (.cells #[.int .i64 (x1 : Nat), .int .i64 (x2 : Nat)] 35)) = W4 at *
        clear hW4
        cases hb : hitB b ((x1 : Int), (x2 : Int)) with
        | false =>
          have hT : Hid (thereB m n = false) := Lib.hid (by unfold thereB; rw [HE.out, HD.out, hb]; simp)
          refine (isHit_any _ _ _ _).mono ?_
          rintro e w5 ⟨rfl, b5⟩
          have B5 := Lib.hid (Below.up B4.out b5)
          clear b5
          rw [hb]
          go_wp2_with fail
          go_ret2
          exact ⟨none, 0, 0, by rw [hT.out]; rfl, (fun h => by rw [hT.out] at h; cases h), B5.out⟩
        | true =>
          have hhi : I64 (x1 : Int) ∧ I64 (x2 : Int) := by unfold I64; omega
          refine (isHit_any _ _ _ _).mono ?_
          rintro e w5 ⟨rfl, b5⟩
          have B5 := Lib.hid (Below.up B4.out b5)
          have HO5 := Lib.hid (HO4.out.below b5)
          have H5 := Lib.hid (H4.out.below b5 (by omega))
          have e0 := bc b5 D.out.1
          have e1 := bc b5 D.out.2
          have hz5 := b5.size
          clear b5 B4 HO4 H4 D
          rw [hb]
          go_wp2_with (at_builtin; refine append_hit rfl _ _ rfl rfl (HO5.out.below (Below.alloc (Below.refl _ _) (Nat.le_refl _) _)) w5.heap.size (x1 : Int) (x2 : Int) hhi rfl (new_two _ _ _ _).1 (new_two _ _ _ _).2 (by omega) (by simp; omega) ?_)
          intro v' w' h5 h6
          have HO2 := Lib.hid h5
          have BL2 := Lib.hid ((B5.out.alloc B5.out.size _).trans (h6.mono (by omega)))
          have H6 := Lib.hid ((H5.out.below (Below.alloc (Below.refl _ _) (Nat.le_refl _) _) (by omega)).below h6 (by omega))
          clear h5 h6
          go_wp2
          go_roundw
          case rel => exact ⟨k + 1, (x1 : Int), by omega, by go_num, rfl, Lib.hid (by rw [HE.out, HD.out, hb]; rfl), H6, Lib.hid (by rw [HT.out]; exact HO2.out), BL2⟩
          case measure => simp [intOf]; omega
      · obtain rfl : k = n := by omega
        have hT : Hid (thereB m k = decide (beV ((m.drop (4 * k)).take 2) = crc0 (m.take (4 * k)))) := Lib.hid (by
          unfold thereB
          have e : (rawL m k).drop k = [] := List.drop_eq_nil_of_le (by rw [rawL_len]; exact Nat.le_refl _)
          rw [decide_eq_true hlen, HE.out, e]
          simp [hitsB])
        have hTK : Hid ((rawL m k).take k = rawL m k) := Lib.hid (List.take_of_length_le (by rw [rawL_len]; exact Nat.le_refl _))
        rw [hTK.out] at HO
        obtain ⟨oa, on, oc, rfl⟩ : ∃ a c d, u6 = .slice a c d := by obtain ⟨a, c, e, _⟩ := HO.out.hi.form; exact ⟨_, _, _, e⟩
        have y1 := beV2_lt (m.drop (4 * k))
        have y2 := crc0_lt (m.take (4 * k))
        have R1 := Lib.hid (fun W (h : Rd W w.heap.size (m.drop (4 * k))) => rtwo_any _ _ W h (by rw [List.length_drop]; omega) (by rw [List.length_drop]; omega))
        have CR := Lib.hid (fun W => Crc_any (str (m.take (4 * k))) W (by rw [str_size, List.length_take]; unfold maxLen; omega))
        rw [str_list] at CR
        have SL : ∀ W, (Instr.slice 9 (.string (str m)) none (some (.int .i64 ((k : Int) * 4))) none).run Try.prog W = .ok (.string (str (m.take (4 * k)))) W := fun W => by
          rw [run_slice_string_h W 9 (str m) str_kind .i64 ((k : Int) * 4) (by omega) (by rw [hsz]; omega), show ((k : Int) * 4).toNat = 4 * k by omega, HTK.out]
        generalize beV ((m.drop (4 * k)).take 2) = x1 at *
        generalize crc0 (m.take (4 * k)) = x2 at *
        generalize str (m.take (4 * k)) = sk at *
        have HR2 := Lib.hid (HR.out.below (Below.drew (Below.refl wr.heap.size wr)) (by omega))
        have O1 : Hid (OnB w.heap.size wr wr.drew) := Lib.hid ⟨(Below.refl _ _).drew, rfl, fun _ _ => rfl⟩
        clear HE HTK
        have hq : Hid (((x1 : Int) == (x2 : Int)) = decide (x1 = x2)) := Lib.hid (by
          by_cases h : x1 = x2
          · subst h; simp
          · rw [decide_eq_false h]; simpa using (fun e => h (by omega)))
        have WK : IntKind.i64.wrap ((k : Int) * 4) = (k : Int) * 4 := IntWalk.i64_in _ (by omega)
        go_wp2_with fail
        go_region_law
          (first
            | (rw [if_pos (by rfl)]; go_simp; go_at_call 71; ((with_reducible refine (R1.out _ HR2.out).mono ?_); rintro e w2 ⟨rfl, h2, o2⟩; have O2 := Lib.hid (O1.out.trans o2); clear h2 o2; dsimp only))
            | (rw [if_pos (by rfl)]; go_simp; go_at_call 25; ((with_reducible refine (CR.out _).mono ?_); rintro e w3 ⟨rfl, rfl⟩; dsimp only)))
        all_goals
          go_wp2_with fail
          go_ret2
          refine ⟨oa, on, oc, ?_, fun _ => (HO.out.onb O2.out (by omega)).mono (by omega), BL.out.trans (O2.out.below (Nat.le_refl _))⟩
          show Ending.returned (.tuple #[.slice oa on oc, .bool ((x1 : Int) == (x2 : Int))]) = _
          rw [hq.out, hT.out]
  · have hT : Hid (thereB m n = false) := Lib.hid (by unfold thereB; rw [decide_eq_false hlen]; rfl)
    go_enter Try.func51, Try.ntmps51
    go_wp2_with fail
    go_ret2
    exact ⟨none, 0, 0, by rw [hT.out]; rfl, (fun h => by rw [hT.out] at h; cases h), Below.refl _ _⟩
end Go.Proofs.Ytanillahofohgaa
