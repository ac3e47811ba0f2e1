/- Layer 4: a name, the list at a time, the versions of a tag. -/
import Derived.Test.YtlegacllbohbmaaDoorCbM
set_option linter.unusedVariables false
set_option linter.unusedSimpArgs false
namespace Go.Proofs.YtlegacllbohbmaaDoor
open Go.RowKit Go.Shelf

set_option maxRecDepth 100000 in
theorem isName_t (w : World) : Calls Tryd.prog 27 #[.string ⟨#[116]⟩] w fun e w' => e = .returned (.bool true) ∧ Below w.heap.size w w' := by
  obtain ⟨v1, W1, hcv, hby, hbl⟩ := conv_by ⟨#[116]⟩ w w.heap.size (Nat.le_refl _) (by unfold maxLen; decide)
  obtain ⟨g, cap, rfl, c0⟩ : ∃ g cap, v1 = .slice (some ⟨g, 0, none⟩) 1 cap ∧ W1.cell? ⟨g, 0, none⟩ = some (.int .u8 116) := by
    rcases hby.2 with ⟨rfl, h0⟩ | ⟨g, cap, f, rfl, _⟩
    · simp at h0
    · exact ⟨g, cap, rfl, by have := Rw.cells hby (g := g) rfl 0 (.int .u8 116) (by rfl); simpa [Addr.add] using this⟩
  have BL := Lib.hid hbl
  clear hby hbl
  go_enter Tryd.func27, Tryd.ntmps27
  go_wp2_with fail
  clear hcv
  refine wp_loop_rounds 2 ?_
  rw [rounds_succ]
  go_wp2_with fail
  rw [rounds_succ]
  go_wp2_with fail
  go_ret
  exact ⟨rfl, BL.out⟩

set_option maxRecDepth 100000 in
set_option maxHeartbeats 800000 in
theorem at_in (B vb j : Nat) (sv : Value) (x : Vr) (T : Int) (w : World) (h : VerAt B w vb sv x) (hj : j < x.sp.length) (hP : ∀ i, Plc (tmF x.sp) x.sp.length T i → i = j + 1 ∧ hitB (tmF x.sp) x.sp.length T i = false) :
    Calls Tryd.prog 51 #[.pointer (some ⟨vb, 0, none⟩), .int .i64 T] w fun e w' => ∃ v, e = .returned (.tuple #[v, .bool true]) ∧ EntS w' v (x.sp[j]).2 ∧ Below w.heap.size w w' := by
  obtain ⟨hB, ⟨f, hf, f0, f1⟩, hsp⟩ := h
  have htm := hsp.tm
  obtain ⟨ls, hl, hr, ⟨hq, hs, hn⟩, he⟩ := hsp
  have c1 := hf.cell (i := 1) (by omega)
  rw [f1] at c1
  have hjl : j < ls.length := by omega
  have HE := Lib.hid (he j hj hjl)
  obtain ⟨la, lm, lc, hls⟩ := HE.out.form
  have hj64 : j ≤ 64 := by omega
  obtain ⟨g, cap, rfl, cl⟩ : ∃ g cap, sv = .slice (some ⟨g, 0, none⟩) x.sp.length cap ∧ w.cell? ⟨g, j * 2 + 1, none⟩ = some (.slice la lm lc) := by
    rcases hr.2 with ⟨rfl, h0⟩ | ⟨g, cap, f, rfl, hB, hf, hc, hm, hx⟩
    · omega
    · refine ⟨g, cap, rfl, ?_⟩
      have m : x.sp.length * 2 ≤ cap * 2 := Nat.mul_le_mul_right _ hc
      have x2 := hx (2 * j + 1) (by omega)
      rw [(spC_get x.sp ls j hj hjl).2] at x2
      rw [Nat.mul_comm j 2, hf.cell (by omega), ← x2, hls]
  have HP := Lib.hid hP
  have HPL := Lib.hid (place_any vb _ x.sp T w c1 htm hs hn)
  rw [hls] at HE
  clear hP htm hr hq hs he hf hls hl hjl f0 f1 hn
  go_enter Tryd.func51, Tryd.ntmps51
  go_wp2_with fail
  refine HPL.out.mono ?_
  rintro e w' ⟨⟨i, hp, rfl⟩, b1⟩
  obtain ⟨rfl, hh⟩ := HP.out i hp
  rw [hh]
  have B1 := Lib.hid b1
  have d1 := bc b1 c1
  have dl := bc b1 cl
  clear b1 c1 cl hh hp HPL HP
  have hz : ((j + 1 : Nat) : Int) = (j : Int) + 1 := by omega
  rw [hz]
  go_wp2_with fail
  go_ret2
  exact ⟨_, rfl, HE.out.below B1.out, B1.out⟩
end Go.Proofs.YtlegacllbohbmaaDoor
