/- Layer 4: the law of books that no call made. -/
import Derived.Test.YtidpjgkjeocgaaaGreatDoorCiC
set_option linter.unusedVariables false
set_option linter.unusedSimpArgs false
namespace Go.Proofs.YtidpjgkjeocgaaaGreatDoor
open Go.RowKit Go.Shelf
attribute [local go_sem ↓] Go.wp_at_zero Go.wp_at_succ

theorem ar7 (W : World) : (Op.equalIn 10000 23 (.agg #[.int .i64 0, .int .i64 0, .int .i64 0, .int .i64 0, .int .i64 0, .int .i64 0, .int .i64 0]) (.agg #[.int .i64 0, .int .i64 0, .int .i64 0, .int .i64 0, .int .i64 0, .int .i64 0, .int .i64 0])).run Tryz.prog W = .ok true W := by kernel_rfl
attribute [local go_sem] ar7
set_option maxRecDepth 100000 in
set_option maxHeartbeats 6400000 in
theorem none_any (x K V T : Int) (a : Option Addr) (n c : Nat) (s : ByteArray) (p0 p1 p2 p3 p4 p5 p6 : Int) (w : World) (x0 : 0 ≤ x) (x1 : x ≤ 255) (hT : Lib.TabIs Tryz.prog w "internal/strconv.uint64pow10" .u64 Lib.pow10Tab) (hz : Tz16 w) :
    Calls Tryz.prog 3 #[.agg #[.int .u8 x, .int .i64 K, .int .i64 V, .int .i64 T, .slice a n c, .string s, .int .i64 p0, .int .i64 p1, .int .i64 p2, .int .i64 p3, .int .i64 p4, .int .i64 p5, .int .i64 p6]] w fun e w' => e = .returned (.bool true) ∧ Below w.heap.size w w' := by
  have HP : Hid (Pow w.heap.size w) := Lib.hid (Lib.tabBelow_of_tabIs hT)
  have HT : Hid (Tz w.heap.size w) := Lib.hid ⟨cell_lt hz, hz⟩
  have AW := Lib.hid (fun W (h : Below w.heap.size w W) => awake_any W (HP.out _ h) (HT.out.on h).2)
  clear hT hz HP HT
  have b0 : Below w.heap.size w (w.alloc (.cells #[.int .u8 x, .int .i64 K, .int .i64 V, .int .i64 T, .slice a n c, .string s, .int .i64 p0, .int .i64 p1, .int .i64 p2, .int .i64 p3, .int .i64 p4, .int .i64 p5, .int .i64 p6] 25)) := (Below.refl _ _).alloc (Nat.le_refl _) _
  have X0 : Hid (RF (w.alloc (.cells #[.int .u8 x, .int .i64 K, .int .i64 V, .int .i64 T, .slice a n c, .string s, .int .i64 p0, .int .i64 p1, .int .i64 p2, .int .i64 p3, .int .i64 p4, .int .i64 p5, .int .i64 p6] 25)) w.heap.size 25 13 (fun i => ((#[.int .u8 x, .int .i64 K, .int .i64 V, .int .i64 T, .slice a n c, .string s, .int .i64 p0, .int .i64 p1, .int .i64 p2, .int .i64 p3, .int .i64 p4, .int .i64 p5, .int .i64 p6] : Array Value)[i]?).getD default)) := Lib.hid (RF_new w _ _ 13 _ rfl (fun i hi => by rw [Array.getElem?_eq_getElem hi]; rfl))
  have B0 := Lib.hid b0
  have z0 : (w.alloc (.cells #[.int .u8 x, .int .i64 K, .int .i64 V, .int .i64 T, .slice a n c, .string s, .int .i64 p0, .int .i64 p1, .int .i64 p2, .int .i64 p3, .int .i64 p4, .int .i64 p5, .int .i64 p6] 25)).heap.size = w.heap.size + 1 := by simp
  clear b0
  have q0 : (w.alloc (.cells #[.int .u8 x, .int .i64 K, .int .i64 V, .int .i64 T, .slice a n c, .string s, .int .i64 p0, .int .i64 p1, .int .i64 p2, .int .i64 p3, .int .i64 p4, .int .i64 p5, .int .i64 p6] 25)).cell? ⟨w.heap.size, 0, none⟩ = some (.int .u8 x) := X0.out.cell (i := 0) (by omega)
  have q1 : (w.alloc (.cells #[.int .u8 x, .int .i64 K, .int .i64 V, .int .i64 T, .slice a n c, .string s, .int .i64 p0, .int .i64 p1, .int .i64 p2, .int .i64 p3, .int .i64 p4, .int .i64 p5, .int .i64 p6] 25)).cell? ⟨w.heap.size, 1, none⟩ = some (.int .i64 K) := X0.out.cell (i := 1) (by omega)
  have q2 : (w.alloc (.cells #[.int .u8 x, .int .i64 K, .int .i64 V, .int .i64 T, .slice a n c, .string s, .int .i64 p0, .int .i64 p1, .int .i64 p2, .int .i64 p3, .int .i64 p4, .int .i64 p5, .int .i64 p6] 25)).cell? ⟨w.heap.size, 2, none⟩ = some (.int .i64 V) := X0.out.cell (i := 2) (by omega)
  have q3 : (w.alloc (.cells #[.int .u8 x, .int .i64 K, .int .i64 V, .int .i64 T, .slice a n c, .string s, .int .i64 p0, .int .i64 p1, .int .i64 p2, .int .i64 p3, .int .i64 p4, .int .i64 p5, .int .i64 p6] 25)).cell? ⟨w.heap.size, 3, none⟩ = some (.int .i64 T) := X0.out.cell (i := 3) (by omega)
  have q4 : (w.alloc (.cells #[.int .u8 x, .int .i64 K, .int .i64 V, .int .i64 T, .slice a n c, .string s, .int .i64 p0, .int .i64 p1, .int .i64 p2, .int .i64 p3, .int .i64 p4, .int .i64 p5, .int .i64 p6] 25)).cell? ⟨w.heap.size, 4, none⟩ = some (.slice a n c) := X0.out.cell (i := 4) (by omega)
  have q5 : (w.alloc (.cells #[.int .u8 x, .int .i64 K, .int .i64 V, .int .i64 T, .slice a n c, .string s, .int .i64 p0, .int .i64 p1, .int .i64 p2, .int .i64 p3, .int .i64 p4, .int .i64 p5, .int .i64 p6] 25)).cell? ⟨w.heap.size, 5, none⟩ = some (.string s) := X0.out.cell (i := 5) (by omega)
  have q6 : (w.alloc (.cells #[.int .u8 x, .int .i64 K, .int .i64 V, .int .i64 T, .slice a n c, .string s, .int .i64 p0, .int .i64 p1, .int .i64 p2, .int .i64 p3, .int .i64 p4, .int .i64 p5, .int .i64 p6] 25)).cell? ⟨w.heap.size, 6, none⟩ = some (.int .i64 p0) := X0.out.cell (i := 6) (by omega)
  have q7 : (w.alloc (.cells #[.int .u8 x, .int .i64 K, .int .i64 V, .int .i64 T, .slice a n c, .string s, .int .i64 p0, .int .i64 p1, .int .i64 p2, .int .i64 p3, .int .i64 p4, .int .i64 p5, .int .i64 p6] 25)).cell? ⟨w.heap.size, 7, none⟩ = some (.int .i64 p1) := X0.out.cell (i := 7) (by omega)
  have q8 : (w.alloc (.cells #[.int .u8 x, .int .i64 K, .int .i64 V, .int .i64 T, .slice a n c, .string s, .int .i64 p0, .int .i64 p1, .int .i64 p2, .int .i64 p3, .int .i64 p4, .int .i64 p5, .int .i64 p6] 25)).cell? ⟨w.heap.size, 8, none⟩ = some (.int .i64 p2) := X0.out.cell (i := 8) (by omega)
  have q9 : (w.alloc (.cells #[.int .u8 x, .int .i64 K, .int .i64 V, .int .i64 T, .slice a n c, .string s, .int .i64 p0, .int .i64 p1, .int .i64 p2, .int .i64 p3, .int .i64 p4, .int .i64 p5, .int .i64 p6] 25)).cell? ⟨w.heap.size, 9, none⟩ = some (.int .i64 p3) := X0.out.cell (i := 9) (by omega)
  have q10 : (w.alloc (.cells #[.int .u8 x, .int .i64 K, .int .i64 V, .int .i64 T, .slice a n c, .string s, .int .i64 p0, .int .i64 p1, .int .i64 p2, .int .i64 p3, .int .i64 p4, .int .i64 p5, .int .i64 p6] 25)).cell? ⟨w.heap.size, 10, none⟩ = some (.int .i64 p4) := X0.out.cell (i := 10) (by omega)
  have q11 : (w.alloc (.cells #[.int .u8 x, .int .i64 K, .int .i64 V, .int .i64 T, .slice a n c, .string s, .int .i64 p0, .int .i64 p1, .int .i64 p2, .int .i64 p3, .int .i64 p4, .int .i64 p5, .int .i64 p6] 25)).cell? ⟨w.heap.size, 11, none⟩ = some (.int .i64 p5) := X0.out.cell (i := 11) (by omega)
  have q12 : (w.alloc (.cells #[.int .u8 x, .int .i64 K, .int .i64 V, .int .i64 T, .slice a n c, .string s, .int .i64 p0, .int .i64 p1, .int .i64 p2, .int .i64 p3, .int .i64 p4, .int .i64 p5, .int .i64 p6] 25)).cell? ⟨w.heap.size, 12, none⟩ = some (.int .i64 p6) := X0.out.cell (i := 12) (by omega)
  go_enter Tryz.func3, Tryz.ntmps3
  go_wp2_with fail
  generalize (w.alloc (.cells #[.int .u8 x, .int .i64 K, .int .i64 V, .int .i64 T, .slice a n c, .string s, .int .i64 p0, .int .i64 p1, .int .i64 p2, .int .i64 p3, .int .i64 p4, .int .i64 p5, .int .i64 p6] 25)) = W0 at *
  clear q0 q1 q2 q3 q4 q5 q6 q7 q8 q9 q10 q11 q12
  have b1 : Below W0.heap.size W0 (W0.alloc (.cells #[.int .u8 x, .int .i64 K, .int .i64 V, .int .i64 T, .slice a n c, .string s, .int .i64 p0, .int .i64 p1, .int .i64 p2, .int .i64 p3, .int .i64 p4, .int .i64 p5, .int .i64 p6] 25)) := (Below.refl _ _).alloc (Nat.le_refl _) _
  have X1 := Lib.hid (X0.out.below b1)
  have B1 := Lib.hid (Below.up B0.out b1)
  have Y1 : Hid (RF (W0.alloc (.cells #[.int .u8 x, .int .i64 K, .int .i64 V, .int .i64 T, .slice a n c, .string s, .int .i64 p0, .int .i64 p1, .int .i64 p2, .int .i64 p3, .int .i64 p4, .int .i64 p5, .int .i64 p6] 25)) W0.heap.size 25 13 (fun i => ((#[.int .u8 x, .int .i64 K, .int .i64 V, .int .i64 T, .slice a n c, .string s, .int .i64 p0, .int .i64 p1, .int .i64 p2, .int .i64 p3, .int .i64 p4, .int .i64 p5, .int .i64 p6] : Array Value)[i]?).getD default)) := Lib.hid (RF_new W0 _ _ 13 _ rfl (fun i hi => by rw [Array.getElem?_eq_getElem hi]; rfl))
  clear b1 X0 B0
  rw [← z0]
  refine (long_any W0.heap.size a n c s _ (Y1.out.cell (i := 4) (by omega)) (Y1.out.cell (i := 5) (by omega))).mono ?_
  rintro e w2 ⟨v, rfl, ⟨g, rfl⟩, b2⟩
  have B2 := Lib.hid (Below.up B1.out b2)
  have X2 := Lib.hid (X1.out.below b2)
  clear b2 B1 X1 Y1
  cases g with
  | true =>
    go_wp2_with fail
    refine (AW.out _ B2.out).mono ?_
    rintro e w3 ⟨rfl, b3⟩
    have B3 := Lib.hid (Below.up B2.out b3)
    clear b3
    go_wp2_with fail
    go_ret
    exact ⟨rfl, B3.out⟩
  | false =>
    have b3 : Below w2.heap.size w2 (w2.alloc (.cells #[.pointer none, .map none, .int .i64 0, .int .i64 0, .int .i64 0, .int .i64 0, .int .i64 0, .int .i64 0, .int .i64 0, .slice none 0 0, .slice none 0 0, .int .u64 0] 35)) := (Below.refl _ _).alloc (Nat.le_refl _) _
    have z3 : (w2.alloc (.cells #[.pointer none, .map none, .int .i64 0, .int .i64 0, .int .i64 0, .int .i64 0, .int .i64 0, .int .i64 0, .int .i64 0, .slice none 0 0, .slice none 0 0, .int .u64 0] 35)).heap.size = w2.heap.size + 1 := by simp
    have R3 : Hid (RF (w2.alloc (.cells #[.pointer none, .map none, .int .i64 0, .int .i64 0, .int .i64 0, .int .i64 0, .int .i64 0, .int .i64 0, .int .i64 0, .slice none 0 0, .slice none 0 0, .int .u64 0] 35)) w2.heap.size 35 12 (fun i => ((#[.pointer none, .map none, .int .i64 0, .int .i64 0, .int .i64 0, .int .i64 0, .int .i64 0, .int .i64 0, .int .i64 0, .slice none 0 0, .slice none 0 0, .int .u64 0] : Array Value)[i]?).getD default)) := Lib.hid (RF_new w2 _ _ 12 _ rfl (fun i hi => by rw [Array.getElem?_eq_getElem hi]; rfl))
    have b4 : Below (w2.alloc (.cells #[.pointer none, .map none, .int .i64 0, .int .i64 0, .int .i64 0, .int .i64 0, .int .i64 0, .int .i64 0, .int .i64 0, .slice none 0 0, .slice none 0 0, .int .u64 0] 35)).heap.size (w2.alloc (.cells #[.pointer none, .map none, .int .i64 0, .int .i64 0, .int .i64 0, .int .i64 0, .int .i64 0, .int .i64 0, .int .i64 0, .slice none 0 0, .slice none 0 0, .int .u64 0] 35)) ((w2.alloc (.cells #[.pointer none, .map none, .int .i64 0, .int .i64 0, .int .i64 0, .int .i64 0, .int .i64 0, .int .i64 0, .int .i64 0, .slice none 0 0, .slice none 0 0, .int .u64 0] 35)).alloc (.cells #[.pointer none, .pointer (some ⟨w2.heap.size, 0, none⟩)] 29)) := (Below.refl _ _).alloc (Nat.le_refl _) _
    have L4 : Hid (RF ((w2.alloc (.cells #[.pointer none, .map none, .int .i64 0, .int .i64 0, .int .i64 0, .int .i64 0, .int .i64 0, .int .i64 0, .int .i64 0, .slice none 0 0, .slice none 0 0, .int .u64 0] 35)).alloc (.cells #[.pointer none, .pointer (some ⟨w2.heap.size, 0, none⟩)] 29)) (w2.alloc (.cells #[.pointer none, .map none, .int .i64 0, .int .i64 0, .int .i64 0, .int .i64 0, .int .i64 0, .int .i64 0, .int .i64 0, .slice none 0 0, .slice none 0 0, .int .u64 0] 35)).heap.size 29 2 (fun i => ((#[.pointer none, .pointer (some ⟨w2.heap.size, 0, none⟩)] : Array Value)[i]?).getD default)) := Lib.hid (RF_new (w2.alloc (.cells #[.pointer none, .map none, .int .i64 0, .int .i64 0, .int .i64 0, .int .i64 0, .int .i64 0, .int .i64 0, .int .i64 0, .slice none 0 0, .slice none 0 0, .int .u64 0] 35)) _ _ 2 _ rfl (fun i hi => by rw [Array.getElem?_eq_getElem hi]; rfl))
    rw [z3] at L4
    have X4 := Lib.hid ((X2.out.below b3).below b4)
    have B4 := Lib.hid (Below.up (Below.up B2.out b3) b4)
    have R4 := Lib.hid (R3.out.below b4)
    clear b3 b4 z3 R3 X2 B2
    go_wp2_with fail
    generalize ((w2.alloc (.cells #[.pointer none, .map none, .int .i64 0, .int .i64 0, .int .i64 0, .int .i64 0, .int .i64 0, .int .i64 0, .int .i64 0, .slice none 0 0, .slice none 0 0, .int .u64 0] 35)).alloc (.cells #[.pointer none, .pointer (some ⟨w2.heap.size, 0, none⟩)] 29)) = W2 at *
    generalize hlb : w2.heap.size + 1 = lb at *
    have HD : Hid (∀ k, k < 2 → ∃ pv, W2.cell? ⟨lb, k, none⟩ = some pv ∧ Dead W2 pv) := Lib.hid (fun k hk => by
      match k, hk with
      | 0, _ => exact ⟨_, L4.out.cell (i := 0) (by omega), .inl rfl⟩
      | 1, _ => exact ⟨_, L4.out.cell (i := 1) (by omega), .inr ⟨_, rfl, R4.out.cell (i := 0) (by omega)⟩⟩)
    have M := Lib.hid (show ∀ W' : World, Below W2.heap.size W2 W' → (W'.cell? ⟨w.heap.size, 0, none⟩ = some (.int .u8 x) ∧ W'.cell? ⟨w.heap.size, 1, none⟩ = some (.int .i64 K) ∧ W'.cell? ⟨w.heap.size, 2, none⟩ = some (.int .i64 V) ∧ W'.cell? ⟨w.heap.size, 3, none⟩ = some (.int .i64 T) ∧ W'.cell? ⟨w.heap.size, 4, none⟩ = some (.slice a n c) ∧ W'.cell? ⟨w.heap.size, 5, none⟩ = some (.string s) ∧ W'.cell? ⟨w.heap.size, 6, none⟩ = some (.int .i64 p0) ∧ W'.cell? ⟨w.heap.size, 7, none⟩ = some (.int .i64 p1) ∧ W'.cell? ⟨w.heap.size, 8, none⟩ = some (.int .i64 p2) ∧ W'.cell? ⟨w.heap.size, 9, none⟩ = some (.int .i64 p3) ∧ W'.cell? ⟨w.heap.size, 10, none⟩ = some (.int .i64 p4) ∧ W'.cell? ⟨w.heap.size, 11, none⟩ = some (.int .i64 p5) ∧ W'.cell? ⟨w.heap.size, 12, none⟩ = some (.int .i64 p6)) from fun W' h => ⟨bc h (X4.out.cell (i := 0) (by omega)), bc h (X4.out.cell (i := 1) (by omega)), bc h (X4.out.cell (i := 2) (by omega)), bc h (X4.out.cell (i := 3) (by omega)), bc h (X4.out.cell (i := 4) (by omega)), bc h (X4.out.cell (i := 5) (by omega)), bc h (X4.out.cell (i := 6) (by omega)), bc h (X4.out.cell (i := 7) (by omega)), bc h (X4.out.cell (i := 8) (by omega)), bc h (X4.out.cell (i := 9) (by omega)), bc h (X4.out.cell (i := 10) (by omega)), bc h (X4.out.cell (i := 11) (by omega)), bc h (X4.out.cell (i := 12) (by omega))⟩)
    clear L4 R4 X4
    go_loopw [5] (fun i wr => ∃ k : Nat, k ≤ 2 ∧ i = .int .i64 k ∧ Hid (Below W2.heap.size W2 wr)) (fun i _ => 2 - (intOf i).toNat)
    case atStart => exact ⟨0, by omega, rfl, Lib.hid (Below.refl _ _)⟩
    case round =>
      obtain ⟨k, hk, rfl, BL⟩ := hrel
      by_cases hlt : k < 2
      · obtain ⟨pv, hp, hd⟩ := HD.out k hlt
        have D := Lib.hid hd
        have cp := bc BL.out hp
        clear hp hd
        obtain ⟨q0, q1, q2, q3, q4, q5, q6, q7, q8, q9, q10, q11, q12⟩ := M.out _ BL.out
        go_wp2_with fail
        refine (does_dead pv x K V T a n c s p0 p1 p2 p3 p4 p5 p6 _ (D.out.below BL.out) x0 x1).mono ?_
        rintro e y1 ⟨rfl, b1⟩
        have K1 := Lib.hid (Below.up BL.out b1)
        clear b1 cp q0 q1 q2 q3 q4 q5 q6 q7 q8 q9 q10 q11 q12
        obtain ⟨q0, q1, q2, q3, q4, q5, q6, q7, q8, q9, q10, q11, q12⟩ := M.out _ K1.out
        go_wp2_with fail
        refine (List_dead pv _ _ _ _ (D.out.below K1.out)).mono ?_
        rintro e y2 ⟨rfl, b2⟩
        have K2 := Lib.hid (Below.up K1.out b2)
        clear b2 q0 q1 q2 q3 q4 q5 q6 q7 q8 q9 q10 q11 q12
        obtain ⟨q0, q1, q2, q3, q4, q5, q6, q7, q8, q9, q10, q11, q12⟩ := M.out _ K2.out
        go_wp2_with fail
        refine (Resolve_dead pv _ _ _ (D.out.below K2.out)).mono ?_
        rintro e y3 ⟨rfl, b3⟩
        have K3 := Lib.hid (Below.up K2.out b3)
        clear b3 q0 q1 q2 q3 q4 q5 q6 q7 q8 q9 q10 q11 q12
        have b4 : Below y3.heap.size y3 (y3.alloc (.cells #[.string ⟨#[]⟩, .int .i64 0, .slice none 0 0, .slice none 0 0, .slice none 0 0, .slice none 0 0, .slice none 0 0, .slice none 0 0, .slice none 0 0] 44)) := (Below.refl _ _).alloc (Nat.le_refl _) _
        have S4 : Hid (RF (y3.alloc (.cells #[.string ⟨#[]⟩, .int .i64 0, .slice none 0 0, .slice none 0 0, .slice none 0 0, .slice none 0 0, .slice none 0 0, .slice none 0 0, .slice none 0 0] 44)) y3.heap.size 44 9 (fun i => ((#[.string ⟨#[]⟩, .int .i64 0, .slice none 0 0, .slice none 0 0, .slice none 0 0, .slice none 0 0, .slice none 0 0, .slice none 0 0, .slice none 0 0] : Array Value)[i]?).getD default)) := Lib.hid (RF_new y3 _ _ 9 _ rfl (fun i hi => by rw [Array.getElem?_eq_getElem hi]; rfl))
        have K4 := Lib.hid (Below.up K3.out b4)
        clear b4 K3
        obtain ⟨q0, q1, q2, q3, q4, q5, q6, q7, q8, q9, q10, q11, q12⟩ := M.out _ K4.out
        go_wp2_with fail
        generalize (y3.alloc (.cells #[.string ⟨#[]⟩, .int .i64 0, .slice none 0 0, .slice none 0 0, .slice none 0 0, .slice none 0 0, .slice none 0 0, .slice none 0 0, .slice none 0 0] 44)) = y4 at *
        generalize y3.heap.size = rb at *
        refine (Changes_dead pv _ _ (D.out.below K4.out)).mono ?_
        rintro e y5 ⟨rfl, b5⟩
        have K5 := Lib.hid (Below.up K4.out b5)
        have S5 := Lib.hid (S4.out.below b5)
        clear b5 S4 q0 q1 q2 q3 q4 q5 q6 q7 q8 q9 q10 q11 q12
        obtain ⟨q0, q1, q2, q3, q4, q5, q6, q7, q8, q9, q10, q11, q12⟩ := M.out _ K5.out
        go_wp2_with fail
        refine (Tagged_dead pv _ _ (D.out.below K5.out)).mono ?_
        rintro e y6 ⟨rfl, b6⟩
        have K6 := Lib.hid (Below.up K5.out b6)
        have S6 := Lib.hid (S5.out.below b6)
        clear b6 S5 q0 q1 q2 q3 q4 q5 q6 q7 q8 q9 q10 q11 q12
        have b7 : Below y6.heap.size y6 (y6.alloc (.cells #[.int .i64 0, .int .i64 0, .int .i64 0, .int .i64 0, .int .i64 0, .int .i64 0, .int .i64 0] 23)) := (Below.refl _ _).alloc (Nat.le_refl _) _
        have T7 : Hid (RF (y6.alloc (.cells #[.int .i64 0, .int .i64 0, .int .i64 0, .int .i64 0, .int .i64 0, .int .i64 0, .int .i64 0] 23)) y6.heap.size 23 7 (fun i => ((#[.int .i64 0, .int .i64 0, .int .i64 0, .int .i64 0, .int .i64 0, .int .i64 0, .int .i64 0] : Array Value)[i]?).getD default)) := Lib.hid (RF_new y6 _ _ 7 _ rfl (fun i hi => by rw [Array.getElem?_eq_getElem hi]; rfl))
        have K7 := Lib.hid (Below.up K6.out b7)
        have S7 := Lib.hid (S6.out.below b7)
        clear b7 S6 K6
        have r0 : (y6.alloc (.cells #[.int .i64 0, .int .i64 0, .int .i64 0, .int .i64 0, .int .i64 0, .int .i64 0, .int .i64 0] 23)).cell? ⟨rb, 0, none⟩ = some (.string ⟨#[]⟩) := S7.out.cell (i := 0) (by omega)
        have r1 : (y6.alloc (.cells #[.int .i64 0, .int .i64 0, .int .i64 0, .int .i64 0, .int .i64 0, .int .i64 0, .int .i64 0] 23)).cell? ⟨rb, 1, none⟩ = some (.int .i64 0) := S7.out.cell (i := 1) (by omega)
        have r2 : (y6.alloc (.cells #[.int .i64 0, .int .i64 0, .int .i64 0, .int .i64 0, .int .i64 0, .int .i64 0, .int .i64 0] 23)).cell? ⟨rb, 2, none⟩ = some (.slice none 0 0) := S7.out.cell (i := 2) (by omega)
        have r3 : (y6.alloc (.cells #[.int .i64 0, .int .i64 0, .int .i64 0, .int .i64 0, .int .i64 0, .int .i64 0, .int .i64 0] 23)).cell? ⟨rb, 3, none⟩ = some (.slice none 0 0) := S7.out.cell (i := 3) (by omega)
        have r4 : (y6.alloc (.cells #[.int .i64 0, .int .i64 0, .int .i64 0, .int .i64 0, .int .i64 0, .int .i64 0, .int .i64 0] 23)).cell? ⟨rb, 4, none⟩ = some (.slice none 0 0) := S7.out.cell (i := 4) (by omega)
        have r5 : (y6.alloc (.cells #[.int .i64 0, .int .i64 0, .int .i64 0, .int .i64 0, .int .i64 0, .int .i64 0, .int .i64 0] 23)).cell? ⟨rb, 5, none⟩ = some (.slice none 0 0) := S7.out.cell (i := 5) (by omega)
        have r6 : (y6.alloc (.cells #[.int .i64 0, .int .i64 0, .int .i64 0, .int .i64 0, .int .i64 0, .int .i64 0, .int .i64 0] 23)).cell? ⟨rb, 6, none⟩ = some (.slice none 0 0) := S7.out.cell (i := 6) (by omega)
        have r7 : (y6.alloc (.cells #[.int .i64 0, .int .i64 0, .int .i64 0, .int .i64 0, .int .i64 0, .int .i64 0, .int .i64 0] 23)).cell? ⟨rb, 7, none⟩ = some (.slice none 0 0) := S7.out.cell (i := 7) (by omega)
        have r8 : (y6.alloc (.cells #[.int .i64 0, .int .i64 0, .int .i64 0, .int .i64 0, .int .i64 0, .int .i64 0, .int .i64 0] 23)).cell? ⟨rb, 8, none⟩ = some (.slice none 0 0) := S7.out.cell (i := 8) (by omega)
        go_wp2_with fail
        generalize (y6.alloc (.cells #[.int .i64 0, .int .i64 0, .int .i64 0, .int .i64 0, .int .i64 0, .int .i64 0, .int .i64 0] 23)) = y7 at *
        generalize y6.heap.size = tb at *
        refine (Same_zero _).mono ?_
        rintro e y8 ⟨rfl, b8⟩
        have K8 := Lib.hid (Below.up K7.out b8)
        have T8 := Lib.hid (T7.out.below b8)
        clear b8 T7 S7 r0 r1 r2 r3 r4 r5 r6 r7 r8
        have t0 : y8.cell? ⟨tb, 0, none⟩ = some (.int .i64 0) := T8.out.cell (i := 0) (by omega)
        have t1 : y8.cell? ⟨tb, 1, none⟩ = some (.int .i64 0) := T8.out.cell (i := 1) (by omega)
        have t2 : y8.cell? ⟨tb, 2, none⟩ = some (.int .i64 0) := T8.out.cell (i := 2) (by omega)
        have t3 : y8.cell? ⟨tb, 3, none⟩ = some (.int .i64 0) := T8.out.cell (i := 3) (by omega)
        have t4 : y8.cell? ⟨tb, 4, none⟩ = some (.int .i64 0) := T8.out.cell (i := 4) (by omega)
        have t5 : y8.cell? ⟨tb, 5, none⟩ = some (.int .i64 0) := T8.out.cell (i := 5) (by omega)
        have t6 : y8.cell? ⟨tb, 6, none⟩ = some (.int .i64 0) := T8.out.cell (i := 6) (by omega)
        obtain ⟨q0, q1, q2, q3, q4, q5, q6, q7, q8, q9, q10, q11, q12⟩ := M.out _ K8.out
        go_wp2_with fail
        refine (Versions_dead pv _ _ (D.out.below K8.out)).mono ?_
        rintro e y9 ⟨rfl, b9⟩
        have K9 := Lib.hid (Below.up K8.out b9)
        clear b9 T8 t0 t1 t2 t3 t4 t5 t6 q0 q1 q2 q3 q4 q5 q6 q7 q8 q9 q10 q11 q12
        obtain ⟨q0, q1, q2, q3, q4, q5, q6, q7, q8, q9, q10, q11, q12⟩ := M.out _ K9.out
        go_wp2_with fail
        refine (Closed_dead pv _ _ _ (D.out.below K9.out)).mono ?_
        rintro e y10 ⟨rfl, b10⟩
        have K10 := Lib.hid (Below.up K9.out b10)
        clear b10 q0 q1 q2 q3 q4 q5 q6 q7 q8 q9 q10 q11 q12
        obtain ⟨q0, q1, q2, q3, q4, q5, q6, q7, q8, q9, q10, q11, q12⟩ := M.out _ K10.out
        go_wp2_with fail
        refine (Spans_dead pv _ _ _ (D.out.below K10.out)).mono ?_
        rintro e y11 ⟨rfl, b11⟩
        have K11 := Lib.hid (Below.up K10.out b11)
        clear b11 q0 q1 q2 q3 q4 q5 q6 q7 q8 q9 q10 q11 q12
        go_wp2_with fail
        refine (Tags_dead pv _ (D.out.below K11.out)).mono ?_
        rintro e y12 ⟨rfl, b12⟩
        have K12 := Lib.hid (Below.up K11.out b12)
        clear b12
        go_wp2_with fail
        refine (Log_dead pv _ (D.out.below K12.out)).mono ?_
        rintro e y13 ⟨rfl, b13⟩
        have K13 := Lib.hid (Below.up K12.out b13)
        clear b13
        go_wp2_with fail
        go_roundw
        case rel => exact ⟨k + 1, by omega, by go_num, K13⟩
        case measure => simp [intOf]; omega
      · obtain rfl : k = 2 := by omega
        go_wp2_with fail
        refine (AW.out _ (Below.up B4.out BL.out)).mono ?_
        rintro e w3 ⟨rfl, b3⟩
        have B5 := Lib.hid (Below.up (Below.up B4.out BL.out) b3)
        clear b3
        go_wp2_with fail
        go_ret
        exact ⟨rfl, B5.out⟩
end Go.Proofs.YtidpjgkjeocgaaaGreatDoor
