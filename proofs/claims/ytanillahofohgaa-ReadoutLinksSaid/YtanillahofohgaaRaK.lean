/- Layer 5: hits as bytes; is a frame valid? -/
import Derived.Test.YtanillahofohgaaRaJ
set_option linter.unusedVariables false
set_option linter.unusedSimpArgs false
namespace Go.Proofs.Ytanillahofohgaa
open Go.RowKit

def hbL (l : Hits) : List UInt8 := l.flatMap fun x => beL x.1.toNat 2 ++ beL x.2.toNat 2
theorem hbL_take (l : Hits) (k : Nat) (h : k < l.length) : hbL (l.take (k + 1)) = hbL (l.take k) ++ (beL (l[k]).1.toNat 2 ++ beL (l[k]).2.toNat 2) := by
  unfold hbL
  rw [List.take_succ_eq_append_getElem h, List.flatMap_append]
  simp
theorem hbL_len (l : Hits) : (hbL l).length = 4 * l.length := by
  induction l with
  | nil => rfl
  | cons x l ih =>
    have e : hbL (x :: l) = (beL x.1.toNat 2 ++ beL x.2.toNat 2) ++ hbL l := by simp [hbL]
    rw [e, List.length_append, List.length_append, beL_len, beL_len, ih, List.length_cons]
    omega

set_option maxRecDepth 100000 in
set_option maxHeartbeats 1600000 in
theorem packHits_any (v : Value) (l : Hits) (w : World) (h : HiS w v l) (hl : l.length ≤ 4096) (h0 : ∀ x ∈ l, 0 ≤ x.1 ∧ 0 ≤ x.2) :
    Calls Try.prog 45 #[v] w fun e w' => e = .returned (.string ⟨(shutL (hbL l)).toArray⟩) ∧ Below w.heap.size w w' := by
  have H := Lib.hid h
  have H0 := Lib.hid h0
  obtain ⟨a, cap, rfl, hc⟩ := h.form
  clear h h0
  have hw0 : Wr w.heap.size w.heap.size (w.alloc (.cells #[.slice none 0 0] 109)) (w.alloc (.cells #[.slice none 0 0] 109)) [] :=
    ⟨.slice none 0 0, RF_new w _ _ 1 _ rfl (fun i hi => by obtain rfl : i = 0 := by omega
                                                           rfl), Rw_nil _ _ _ _, (fun g hg => by cases hg), Below.refl _ _, fun _ _ _ _ => rfl⟩
  have b0 : Below w.heap.size w (w.alloc (.cells #[.slice none 0 0] 109)) := (Below.refl _ _).alloc (Nat.le_refl _) _
  have hz : (w.alloc (.cells #[.slice none 0 0] 109)).heap.size = w.heap.size + 1 := by simp
  have HW := Lib.hid hw0
  have B0 := Lib.hid b0
  clear hw0 b0
  go_enter Try.func45, Try.ntmps45
  go_wp2_with fail
  generalize (w.alloc (.cells #[.slice none 0 0] 109)) = w1 at *
  go_loopw [5, 10] (fun _ i wr => ∃ k : Nat, k ≤ l.length ∧ i = .int .i64 k ∧ Hid (Wr w.heap.size w.heap.size w1 wr (hbL (l.take k)))) (fun _ i _ => l.length - (intOf i).toNat)
  case atStart => exact ⟨0, Nat.zero_le _, rfl, by simpa [hbL] using HW⟩
  case round =>
    obtain ⟨k, hk, rfl, HR⟩ := hrel
    have BL : Hid (Below w.heap.size w wr) := Lib.hid (B0.out.trans (HR.out.done (Nat.le_refl _) (Nat.le_refl _) (by omega)))
    by_cases hlt : k < l.length
    · obtain ⟨b1, o1, rfl, hb1, hi1, c1, c1'⟩ := (H.out.below BL.out).at hlt
      have HT := Lib.hid (hbL_take l k hlt)
      have hx := H0.out l[k] (List.getElem_mem hlt)
      have hbl := hbL_len (l.take k)
      rw [List.length_take] at hbl
      generalize hbL (l.take k) = m at *
      obtain ⟨⟨x1, x2⟩, hxy⟩ : ∃ x, x = l[k] := ⟨_, rfl⟩
      rw [← hxy] at HT hx c1 c1' hi1
      clear hxy
      simp only [I64] at HT hx c1 c1' hi1
      obtain ⟨x1, rfl⟩ : ∃ n : Nat, x1 = (n : Int) := ⟨x1.toNat, by omega⟩
      obtain ⟨x2, rfl⟩ : ∃ n : Nat, x2 = (n : Int) := ⟨x2.toNat, by omega⟩
      simp only [Int.toNat_natCast] at HT
      obtain ⟨r', hr1, hr2, hr3⟩ := HR.out.rebase
      have WB := Lib.hid (hr3 (wr.alloc (.cells #[.int .i64 (x1 : Nat), .int .i64 (x2 : Nat)] 35)) ((Below.refl _ _).alloc (Nat.le_refl _) _))
      have HBA := Lib.hid (show Below wr.heap.size wr (wr.alloc (.cells #[.int .i64 (x1 : Nat), .int .i64 (x2 : Nat)] 35)) from (Below.refl _ _).alloc (Nat.le_refl _) _)
      have hwb := HR.out.lt
      obtain ⟨d0, d1⟩ := new_two wr (.int .i64 (x1 : Nat)) (.int .i64 (x2 : Nat)) 35
      have hz2 : (wr.alloc (.cells #[.int .i64 (x1 : Nat), .int .i64 (x2 : Nat)] 35)).heap.size = wr.heap.size + 1 := by simp
      clear hr3
      obtain ⟨W, hW⟩ : ∃ W, W = (wr.alloc (.cells #[.int .i64 (x1 : Nat), .int .i64 (x2 : Nat)] 35)) := ⟨_, rfl⟩
      rw [← hW] at WB HBA d0 d1 hz2
      have HW2 := Lib.hid hW
      clear hW
      have T1 := Lib.hid (two_any _ _ _ _ _ x1 WB.out (by omega) (by omega))
      have hlen1 : (m ++ beL x1 2).length ≤ 1000000000 := by rw [List.length_append, beL_len]; omega
      go_wp2_with (first
        | (go_at_call 64; (with_reducible refine (HW2.out ▸ T1.out).mono ?_); rintro e w2 ⟨rfl, h1⟩; have W2 : Hid (Wr w.heap.size r' W w2 (m ++ beL x1 2)) := Lib.hid (by rw [HW2.out]; exact h1); have g1 := W2.out.cell d1 (by omega) (by omega); clear h1)
        | (go_at_call 64; (with_reducible refine (two_any _ _ _ _ _ x2 W2.out (by omega) hlen1).mono ?_); rintro e w3 ⟨rfl, h2⟩; have W3 := Lib.hid h2; clear h2))
      go_roundw
      case rel => exact ⟨k + 1, by omega, by go_num, Lib.hid (by rw [HT.out, ← List.append_assoc]; exact HR.out.trans HBA.out W3.out hr2 (.inr rfl))⟩
      case measure => simp [intOf]; omega
    · obtain rfl : k = l.length := by omega
      have HT : Hid (l.take l.length = l) := Lib.hid (List.take_of_length_le (Nat.le_refl _))
      rw [HT.out] at HR
      have HS := Lib.hid (sealed_any _ _ _ _ _ HR.out (by rw [hbL_len]; omega))
      go_wp2_with (go_at_call 65; refine HS.out.mono ?_; rintro e w' ⟨rfl, h1⟩; have H1 := Lib.hid h1; clear h1)
      go_ret
      exact ⟨rfl, B0.out.trans (H1.out.done (Nat.le_refl _) (Nat.le_refl _) (by omega))⟩
end Go.Proofs.Ytanillahofohgaa
