/- Layer 4: valid lists. -/
import Derived.Test.YtlegacllbohbmaaDoorCbG
set_option linter.unusedVariables false
set_option linter.unusedSimpArgs false
namespace Go.Proofs.YtlegacllbohbmaaDoor
open Go.RowKit Go.Shelf

def okE (last : Int) (x : Int × Int) : Bool := decide (last < x.1 ∧ x.1 < 67108864 ∧ -1073741824 ≤ x.2 ∧ x.2 ≤ 1073741824)
def listE : Int → Ents → Bool
  | _, [] => true
  | last, x :: l => okE last x && listE x.1 l
def listB (l : Ents) : Bool := decide (l.length ≤ 256) && listE (-1) l
theorem listE_drop (last : Int) (l : Ents) (k : Nat) (h : k < l.length) : listE last (l.drop k) = (okE last l[k] && listE (l[k]).1 (l.drop (k + 1))) := by
  rw [List.drop_eq_getElem_cons h]; rfl

set_option maxRecDepth 20000 in
set_option maxHeartbeats 1600000 in
theorem isList_any (v : Value) (l : Ents) (w : World) (h : EnS w v l) :
    Calls Tryd.prog 23 #[v] w fun e w' => e = .returned (.bool (listB l)) ∧ Below w.heap.size w w' := by
  obtain ⟨a, cap, rfl, hb, hc⟩ := id h
  have H := Lib.hid h
  have HB := Lib.hid hb
  clear h hb hc
  by_cases h256 : l.length ≤ 256
  · have hL : Hid (listB l = listE (-1) l) := Lib.hid (by simp [listB, h256])
    go_enter Tryd.func23, Tryd.ntmps23
    go_wp2_with fail
    go_loopw [3, 11] (fun u i wr => ∃ (k : Nat) (last : Int), k ≤ l.length ∧ i = .int .i64 k ∧ u = .int .i64 last ∧ Hid (listE (-1) l = listE last (l.drop k)) ∧ Hid (Below w.heap.size w wr)) (fun _ i _ => l.length - (intOf i).toNat)
    case atStart => exact ⟨0, -1, Nat.zero_le _, rfl, rfl, Lib.hid rfl, Lib.hid (Below.refl _ _)⟩
    case round =>
      obtain ⟨k, last, hk, rfl, rfl, HE, BL⟩ := hrel
      by_cases hlt : k < l.length
      · obtain ⟨a', cap', e0, _, hcc⟩ := H.out.below BL.out
        cases e0
        obtain ⟨b, off, rfl, hcell⟩ := hcc (by omega)
        obtain ⟨c1, c2⟩ := hcell k hlt
        have HD := Lib.hid (listE_drop last l k hlt)
        obtain ⟨⟨z0, z1⟩, z2, z3⟩ := HB.out l[k] (List.getElem_mem hlt)
        clear hcc hcell
        obtain ⟨⟨p, q⟩, hpq⟩ : ∃ x, x = l[k] := ⟨_, rfl⟩
        rw [← hpq] at c1 c2 z0 z1 z2 z3 HD
        simp only at c1 c2 z0 z1 z2 z3
        have HPQ := Lib.hid hpq
        clear hpq
        rw [show off + 2 * k = off + k * 2 by omega] at c1 c2
        cases ho : okE last (p, q) with
        | true =>
          unfold okE at ho
          have ho' := of_decide_eq_true ho
          simp only at ho'
          obtain ⟨o1, o2, o3, o4⟩ := ho'
          have HO := Lib.hid ho
          clear ho
          have HO2 : Hid (okE last (p, q) = true) := Lib.hid (decide_eq_true ⟨o1, o2, o3, o4⟩)
          go_wp2_with fail
          go_roundw
          case rel => exact ⟨k + 1, p, by omega, by go_num, rfl, Lib.hid (by rw [HE.out, HD.out, HO2.out]; rfl), Lib.hid (BL.out.alloc BL.out.size _)⟩
          case measure => simp [intOf]; omega
        | false =>
          have hn : p ≤ last ∨ (last < p ∧ 67108864 ≤ p) ∨ (last < p ∧ p < 67108864 ∧ q < -1073741824) ∨ (last < p ∧ p < 67108864 ∧ -1073741824 ≤ q ∧ 1073741824 < q) := by
            unfold okE at ho
            have ho' := of_decide_eq_false ho
            simp only at ho'
            omega
          have HO := Lib.hid ho
          clear ho
          rcases hn with o1 | ⟨o1, o2⟩ | ⟨o1, o2, o3⟩ | ⟨o1, o2, o3, o4⟩
          all_goals
            go_wp2_with fail
            all_goals
              go_ret
              exact ⟨ret_bool (by rw [hL.out, HE.out, HD.out, HO.out]; rfl), BL.out.alloc BL.out.size _⟩
      · obtain rfl : k = l.length := by omega
        go_wp2_with fail
        go_ret
        exact ⟨ret_bool (by rw [hL.out, HE.out]; simp [listE]), BL.out⟩
  · go_enter Tryd.func23, Tryd.ntmps23
    go_wp2_with fail
    go_ret
    exact ⟨ret_bool (by simp [listB, h256]), Below.refl _ _⟩
end Go.Proofs.YtlegacllbohbmaaDoor
