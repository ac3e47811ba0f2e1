/- Layer 3: contract: writeLine. -/
import Derived.Lib.ItoaLen
import Derived.Test.YteoahbpfhfjfmaaGreatDoorDsB
set_option linter.unusedVariables false
set_option linter.unusedSimpArgs false
namespace Go.Proofs.YteoahbpfhfjfmaaGreatDoor
open Go.RowKit

/-- The numbers of a line, each behind a space. -/
def numsL (v : Nat → Int) : Nat → List UInt8
  | 0 => []
  | k + 1 => numsL v k ++ (32 :: Lib.itoa (v k))
theorem numsL_len (v : Nat → Int) : ∀ k, (∀ j, j < k → -9223372036854775808 ≤ v j ∧ v j ≤ 9223372036854775807) → (numsL v k).length ≤ 22 * k
  | 0, _ => by simp [numsL]
  | k + 1, h => by
    have := numsL_len v k (fun j hj => h j (by omega))
    have h2 := Lib.itoa_length_le (v k) (h k (by omega)).1 (h k (by omega)).2
    simp [numsL]
    omega
theorem sp_num (z : Int) : (({ data := #[32] } : ByteArray) ++ { data := (Lib.itoa z).toArray }).data.toList = 32 :: Lib.itoa z := by
  rw [ByteArray.data_append]; simp
theorem sp_size (z : Int) : (({ data := #[32] } : ByteArray) ++ { data := (Lib.itoa z).toArray }).size = 1 + (Lib.itoa z).length := by
  have h := congrArg List.length (sp_num z)
  simp only [List.length_cons, Array.length_toList] at h
  show (({ data := #[32] } : ByteArray) ++ { data := (Lib.itoa z).toArray }).data.size = _
  omega
/-- The pointers of a line's numbers, and the numbers. -/
def Flds (w : World) (fb pb m : Nat) (v : Nat → Int) : Prop :=
  ∃ Cf Tf Cp Tp, w.heap[fb]? = some (.cells Cf Tf (0, 0)) ∧ Tf ≠ 5 ∧ w.heap[pb]? = some (.cells Cp Tp (0, 0)) ∧ Tp ≠ 5 ∧
    ∀ k, k < m → Cf[k]? = some (.pointer (some ⟨pb, k, none⟩)) ∧ Cp[k]? = some (.int .i64 (v k)) ∧ -9223372036854775808 ≤ v k ∧ v k ≤ 9223372036854775807
theorem Flds.kept {w w' : World} {fb pb m b : Nat} {v : Nat → Int} (h : Flds w fb pb m v) (k : Lib.OthersKept 5 (some b) w w') (hf : fb ≠ b) (hp : pb ≠ b) : Flds w' fb pb m v := by
  obtain ⟨Cf, Tf, Cp, Tp, h1, h2, h3, h4, h5⟩ := h
  exact ⟨Cf, Tf, Cp, Tp, k fb _ h1 (by simpa using hf) (fun c fz e => h2 (by cases e; rfl)), h2, k pb _ h3 (by simpa using hp) (fun c fz e => h4 (by cases e; rfl)), h4, h5⟩

set_option maxRecDepth 20000 in
set_option maxHeartbeats 800000 in
theorem writeLine_any (B b : Nat) (l : List UInt8) (word : ByteArray) (fb pb m : Nat) (v : Nat → Int) (w : World) (h : Bu B b l w) (hB : B ≤ w.heap.size) (hl : l.length + word.size ≤ 100000) (hm : m ≤ 100) (hf : Flds w fb pb m v) (hfb : fb ≠ b) (hpb : pb ≠ b)
    (hT : Lib.TabBelow Tryz.prog B w "internal/strconv.uint64pow10" .u64 Lib.pow10Tab) :
    Calls Tryz.prog 72 #[.pointer (some ⟨b, 0, none⟩), .string word, .slice (some ⟨fb, 0, none⟩) m m] w fun e w' =>
      e = .returned (.tuple #[]) ∧ Bu B b (l ++ word.data.toList ++ numsL v m ++ [10]) w' ∧ Below B w w' ∧ Lib.OthersKept 5 (some b) w w' := by
  have H := Lib.hid h
  have HF := Lib.hid hf
  have HT := Lib.hid hT
  have hws : word.data.toList.length = word.size := Array.length_toList
  have HWS := Lib.hid hws
  clear h hf hT hws
  go_enter Tryz.func72, Tryz.ntmps72
  go_wp2_with fail
  refine (write_any B b l word _ H.out (by omega) hB).mono ?_
  rintro e w1 ⟨rfl, h1, b1, k1⟩
  have H1 := Lib.hid h1
  have B1 := Lib.hid b1
  have K1 := Lib.hid k1
  clear h1 b1 k1
  go_wp2_with fail
  go_loopw [7, 13] (fun u7 i wr => ∃ k : Nat, k ≤ m ∧ i = .int .i64 k ∧ Hid (Bu B b (l ++ word.data.toList ++ numsL v k) wr) ∧ Hid (Below B w wr) ∧ Hid (Lib.OthersKept 5 (some b) w wr)) (fun _ i _ => m - (intOf i).toNat)
  case atStart => exact ⟨0, by omega, rfl, Lib.hid (by rw [numsL, List.append_nil]; exact H1.out), B1, K1⟩
  case round =>
    obtain ⟨k, hk, rfl, HB, BB, KK⟩ := hrel
    have hsz := BB.out.size
    by_cases hlt : k < m
    · obtain ⟨Cf, Tf, Cp, Tp, g1, _, g2, _, g3⟩ := HF.out.kept KK.out hfb hpb
      obtain ⟨g4, g5, v0, v1⟩ := g3 k hlt
      have cf : wr.cell? ⟨fb, k, none⟩ = some (.pointer (some ⟨pb, k, none⟩)) := by simp [World.cell?, g1, g4]
      have cp : wr.cell? ⟨pb, k, none⟩ = some (.int .i64 (v k)) := by simp [World.cell?, g2, g5]
      have hnl := numsL_len v k (fun j hj => ⟨(g3 j (by omega)).2.2.1, (g3 j (by omega)).2.2.2⟩)
      have hil := Lib.itoa_length_le (v k) v0 v1
      have SPN := Lib.hid (sp_num (v k))
      have SPS := Lib.hid (sp_size (v k))
      clear g1 g2 g3 g4 g5
      have HN : Hid (numsL v (k + 1) = numsL v k ++ (32 :: Lib.itoa (v k))) := Lib.hid rfl
      generalize v k = z at *
      have CI := Lib.hid (fun W (hW : Below wr.heap.size wr W) => itoa_any z v0 v1 W ((HT.out.on (BB.out.trans (hW.mono (by omega)))).here))
      go_wp2_with fail
      refine (CI.out _ (by repeat (first | exact Below.refl _ _ | (apply Below.drew)))).mono ?_
      rintro e w2 ⟨rfl, hb2⟩
      have B2 := Lib.hid hb2
      clear hb2
      go_wp2_with fail
      refine (write_any B b (l ++ word.data.toList ++ numsL v k) _ _ (HB.out.old B2.out) (by rw [SPS.out, List.length_append, List.length_append, HWS.out]; omega) (by have := B2.out.size; omega)).mono ?_
      rintro e w3 ⟨rfl, h3, b3, k3⟩
      have H3 : Hid (Bu B b (l ++ word.data.toList ++ numsL v (k + 1)) w3) := Lib.hid (by rw [HN.out, ← SPN.out, ← List.append_assoc]; exact h3)
      have B3 : Hid (Below B w w3) := Lib.hid ((BB.out.trans (B2.out.mono (by omega))).trans b3)
      have K3 : Hid (Lib.OthersKept 5 (some b) w w3) := Lib.hid ((KK.out.trans (kept_below B2.out)).trans k3)
      clear h3 b3 k3 cf cp CI
      go_wp2_with fail
      go_roundw
      case rel => exact ⟨k + 1, by omega, by go_num, H3, B3, K3⟩
      case measure => simp [intOf]; omega
    · obtain rfl : k = m := by omega
      obtain ⟨_, _, _, _, _, _, _, _, g3⟩ := HF.out
      have hnl := numsL_len v k (fun j hj => ⟨(g3 j (by omega)).2.2.1, (g3 j (by omega)).2.2.2⟩)
      clear g3
      go_wp2_with fail
      refine (write_any B b (l ++ word.data.toList ++ numsL v k) ⟨#[10]⟩ _ HB.out (by rw [show (⟨#[10]⟩ : ByteArray).size = 1 from rfl, List.length_append, List.length_append, HWS.out]; omega) (by omega)).mono ?_
      rintro e w3 ⟨rfl, h3, b3, k3⟩
      have H3 := Lib.hid h3
      have B3 : Hid (Below B w w3) := Lib.hid (BB.out.trans b3)
      have K3 : Hid (Lib.OthersKept 5 (some b) w w3) := Lib.hid (KK.out.trans k3)
      clear h3 b3 k3
      go_wp2_with fail
      go_end0
      exact ⟨rfl, H3.out, B3.out, K3.out⟩
end Go.Proofs.YteoahbpfhfjfmaaGreatDoor
