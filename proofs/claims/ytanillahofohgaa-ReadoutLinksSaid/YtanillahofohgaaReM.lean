/- Layer 5: acts in memory. -/
import Derived.Test.YtanillahofohgaaReL
import Derived.Test.YtanillahofohgaaRaV
set_option linter.unusedVariables false
set_option linter.unusedSimpArgs false
set_option maxRecDepth 100000
namespace Go.Proofs.Ytanillahofohgaa
open Go.RowKit

/-- An act of a link. -/
structure Ac where
  k : Nat
  s : List UInt8
  fl : List Int
def AcC (W : World) (b o : Nat) (x : Ac) : Prop :=
  ∃ a n c, W.cell? ⟨b, o, none⟩ = some (.int .u8 (x.k : Nat)) ∧ W.cell? ⟨b, o + 1, none⟩ = some (.string (str x.s)) ∧ W.cell? ⟨b, o + 2, none⟩ = some (.slice a n c) ∧ InS W (.slice a n c) x.fl
/-- Acts in a row. -/
def AcS (W : World) (v : Value) (l : List Ac) : Prop :=
  ∃ a cap, v = .slice a l.length cap ∧ l.length ≤ cap ∧ cap ≤ maxLen ∧ (∀ x ∈ l, x.k < 256 ∧ x.fl.length ≤ maxLen) ∧ (0 < l.length → ∃ b off, a = some ⟨b, off, none⟩ ∧ ∀ k (h : k < l.length), AcC W b (off + k * 3) l[k])
theorem AcC.below {W W' : World} {b o : Nat} {x : Ac} (h : AcC W b o x) (k : Below W.heap.size W W') : AcC W' b o x := by
  obtain ⟨a, n, c, c0, c1, c2, c3⟩ := h
  exact ⟨a, n, c, bc k c0, bc k c1, bc k c2, c3.below k⟩
theorem AcS.below {W W' : World} {v : Value} {l : List Ac} (h : AcS W v l) (k : Below W.heap.size W W') : AcS W' v l := by
  obtain ⟨a, cap, e, hc, hm, hx, h1⟩ := h
  refine ⟨a, cap, e, hc, hm, hx, fun h0 => ?_⟩
  obtain ⟨b, off, eb, h2⟩ := h1 h0
  exact ⟨b, off, eb, fun j hj => (h2 j hj).below k⟩
theorem AcS.form {W : World} {v : Value} {l : List Ac} (h : AcS W v l) : ∃ a cap, v = .slice a l.length cap ∧ l.length ≤ cap := by
  obtain ⟨a, cap, e, hc, _⟩ := h
  exact ⟨a, cap, e, hc⟩
theorem AcS.bd {W : World} {v : Value} {l : List Ac} (h : AcS W v l) : l.length ≤ 9223372036854775807 ∧ ∀ x ∈ l, x.k < 256 ∧ x.fl.length ≤ 9223372036854775807 := by
  obtain ⟨a, cap, e, hc, hm, hx, _⟩ := h
  unfold maxLen at hm hx
  exact ⟨Nat.le_trans hc hm, hx⟩
theorem AcS.at {W : World} {a : Option Addr} {n cap : Nat} {l : List Ac} (h : AcS W (.slice a n cap) l) {k : Nat} (hk : k < l.length) : ∃ b off, a = some ⟨b, off, none⟩ ∧ AcC W b (off + k * 3) l[k] := by
  obtain ⟨a', cap', e, hc, hm, hx, h1⟩ := h
  cases e
  obtain ⟨b, off, eb, h2⟩ := h1 (by omega)
  exact ⟨b, off, eb, h2 k hk⟩

def GreatPost (w : World) (l : List Ac) (e : Ending) (w' : World) : Prop := (∃ b, e = .returned (.bool b) ∧ (b = false → l.length ≤ 200)) ∧ w = w'
set_option maxHeartbeats 1600000 in
theorem great_any (v : Value) (l : List Ac) (w : World) (h : AcS w v l) :
    Calls Try.prog 30 #[v] w (GreatPost w l) := by
  have H := Lib.hid h
  obtain ⟨hl, hx⟩ := h.bd
  have HX := Lib.hid hx
  obtain ⟨a, ca, rfl, _⟩ := h.form
  clear h hx
  go_enter Try.func30, Try.ntmps30
  go_wp2_with fail
  go_loopw [3, 4] (fun s i wr => ∃ (k : Nat) (m : Int), k ≤ l.length ∧ i = .int .i64 k ∧ s = .int .i64 m ∧ wr = w) (fun _ i _ => l.length - (intOf i).toNat)
  case atStart => exact ⟨0, 0, Nat.zero_le _, rfl, rfl, rfl⟩
  case round =>
    obtain ⟨k, m, hk, rfl, rfl, rfl⟩ := hrel
    by_cases hlt : k < l.length
    · have i0 : (k : Int) < (l.length : Int) := by omega
      obtain ⟨b, off, rfl, x, n, c, c0, c1, c2, c3⟩ := H.out.at hlt
      clear c3
      go_wp2_with fail
      go_roundw
      case rel => exact ⟨k + 1, _, by omega, by go_num, rfl, trivial⟩
      case measure => simp [intOf]; omega
    · have i0 : ¬ (k : Int) < (l.length : Int) := by omega
      by_cases h2 : (200 : Int) < (l.length : Int)
      · go_wp2_with fail
        go_ret
        exact ⟨⟨_, rfl, fun h => by cases h⟩, rfl⟩
      · go_wp2_with fail
        all_goals
          go_ret
          exact ⟨⟨_, rfl, fun _ => by omega⟩, rfl⟩
end Go.Proofs.Ytanillahofohgaa
