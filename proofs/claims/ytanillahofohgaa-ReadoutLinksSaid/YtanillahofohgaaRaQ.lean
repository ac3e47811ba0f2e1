/- Layer 5: the head of a frame, read. -/
import Derived.Deep.MidRow
import Derived.Deep.RegionHeld3
import Derived.Test.YtanillahofohgaaRaP
set_option linter.unusedVariables false
set_option linter.unusedSimpArgs false
namespace Go.Proofs.Ytanillahofohgaa
open Go.RowKit

theorem str_eq (l r : List UInt8) : str l = str r ↔ l = r := by
  constructor
  · intro h
    rw [← str_list l, h, str_list]
  · rintro rfl; rfl
theorem lit_str (l : List UInt8) (s : ByteArray) (h : s.data.toList = l) : s = str l := by rw [str_of s, h]
theorem loop_eq (s : ByteArray) : ∀ (n i : Nat) (r : List UInt8), s.size - i = n → ByteArray.toList.loop s i r = r.reverse ++ s.data.toList.drop i
  | 0, i, r, h => by
    unfold ByteArray.toList.loop
    rw [if_neg (by omega), List.drop_eq_nil_of_le (by rw [Array.length_toList]; show s.size ≤ i; omega), List.append_nil]
  | n + 1, i, r, h => by
    have hi : i < s.size := by omega
    have hi' : i < s.data.toList.length := by rw [Array.length_toList]; exact hi
    unfold ByteArray.toList.loop
    rw [if_pos hi, loop_eq s n (i + 1) _ (by omega), List.reverse_cons, List.append_assoc, List.drop_eq_getElem_cons hi']
    congr 2
    simp [ByteArray.get!, hi]
theorem toL_str (l : List UInt8) : (str l).toList = l := by
  unfold ByteArray.toList
  rw [loop_eq (str l) _ 0 [] rfl, str_list]
  rfl
theorem beq_str (l r : List UInt8) : ((str l).toList == (str r).toList) = decide (l = r) := by
  rw [toL_str, toL_str]
  by_cases h : l = r
  · subst h; simp
  · rw [decide_eq_false h]; simpa using h
theorem sHasPrefix_any (m p : List UInt8) (w : World) (hm : m.length ≤ 1099511627776) (hp : p.length ≤ 1099511627776) :
    Calls Try.prog 75 #[.string (str m), .string (str p)] w fun e w' => e = .returned (.bool (decide (m.take p.length = p))) ∧ w = w' := by
  have h1 := str_size m
  have h2 := str_size p
  have HT := str_take m p.length
  by_cases hl : p.length ≤ m.length
  · have SL : ∀ W, (Instr.slice 9 (.string (str m)) none (some (.int .i64 (p.length : Int))) none).run Try.prog W = .ok (.string (str (m.take p.length))) W := fun W => by
      rw [run_slice_string_h W 9 (str m) str_kind .i64 (p.length : Int) (by omega) (by omega), Int.toNat_natCast, HT]
    clear HT
    go_enter Try.func75, Try.ntmps75
    go_wp2_with fail
    go_ret
    exact ⟨ret_bool (beq_str _ _), rfl⟩
  · have hq : Hid (decide (m.take p.length = p) = false) := Lib.hid (decide_eq_false (fun h => by have := congrArg List.length h; rw [List.length_take] at this; omega))
    go_enter Try.func75, Try.ntmps75
    go_wp2_with fail
    go_ret
    exact ⟨ret_bool hq.out.symm, rfl⟩
theorem HasPrefix_any (m p : List UInt8) (w : World) (hm : m.length ≤ 1099511627776) (hp : p.length ≤ 1099511627776) :
    Calls Try.prog 67 #[.string (str m), .string (str p)] w fun e w' => e = .returned (.bool (decide (m.take p.length = p))) ∧ w = w' := by
  have H := Lib.hid (sHasPrefix_any m p w hm hp)
  go_enter Try.func67, Try.ntmps67
  go_wp2_with (go_at_call 75; refine H.out.mono ?_; rintro e w' ⟨rfl, rfl⟩)
  go_ret
  exact ⟨rfl, rfl⟩

/-! ### The head -/
def hdF (m : List UInt8) : Fr := ⟨(beV ((m.drop 2).take 1) : Nat), (beV ((m.drop 3).take 1) : Nat), (beV ((m.drop 4).take 4) : Nat), (beV ((m.drop 8).take 6) : Nat), []⟩
def hdN (m : List UInt8) : Nat := beV ((m.drop 14).take 2)
def hdOk (m : List UInt8) : Bool := headB (hdF m).l (hdF m).s (hdF m).e (hdF m).t (hdN m : Nat)
def hdSum (m : List UInt8) : Bool := decide (beV ((m.drop 16).take 2) = crc0 (m.take 16))
def headIs (m : List UInt8) : Bool := decide (18 ≤ m.length) && (decide (m.take 2 = [90, 195]) && (hdOk m && hdSum m))
def HeadPost (w : World) (m : List UInt8) (e : Ending) (w' : World) : Prop :=
  ∃ l s v t n, e = .returned (.tuple #[.agg #[.int .i64 l, .int .i64 s, .int .i64 v, .int .i64 t, .slice none 0 0], .int .i64 n, .bool (headIs m)]) ∧
    (headIs m = true → l = (hdF m).l ∧ s = (hdF m).s ∧ v = (hdF m).e ∧ t = (hdF m).t ∧ n = (hdN m : Nat)) ∧ Below w.heap.size w w'
/-- The reader's methods in a row. -/
def FR (w : World) (g b : Nat) : Prop :=
  w.cell? ⟨g, 0, none⟩ = some (.func (.func 68) #[.pointer (some ⟨b, 0, none⟩)] #[]) ∧ w.cell? ⟨g, 1, none⟩ = some (.func (.func 68) #[.pointer (some ⟨b, 0, none⟩)] #[]) ∧
    w.cell? ⟨g, 2, none⟩ = some (.func (.func 69) #[.pointer (some ⟨b, 0, none⟩)] #[]) ∧ w.cell? ⟨g, 3, none⟩ = some (.func (.func 70) #[.pointer (some ⟨b, 0, none⟩)] #[]) ∧ w.cell? ⟨g, 4, none⟩ = some (.func (.func 71) #[.pointer (some ⟨b, 0, none⟩)] #[])

/-- An operation of a drawn region that is wanted. -/
theorem step_at {c : Prop} [Decidable c] {A B : Prop} (hc : c) (h : A) : if c then A else B := by rw [if_pos hc]; exact h
/-! ### A frame in a block of its own -/
theorem OnB.sets (b : Nat) : ∀ (vs : List Value) (o : Nat) (w : World), OnB b w (w.setCells b o vs)
  | [], _, w => ⟨Below.refl _ _, rfl, fun _ _ => rfl⟩
  | v :: r, o, w => by
    rw [World.setCells]
    have h1 : OnB b w (w.setCell ⟨b, o, none⟩ v) := ⟨(Below.refl _ _).setCell (p := ⟨b, o, none⟩) (Nat.zero_le _) _, by simp, fun k hk => Below.heap_setCell _ _ _ _ hk⟩
    exact h1.trans (OnB.sets b r (o + 1) _)
def frC (a b c d : Int) (x : Value) : Nat → Value := fun i => ((#[.int .i64 a, .int .i64 b, .int .i64 c, .int .i64 d, x] : Array Value)[i]?).getD default
/-- A frame that lies in block g. -/
def FrB (W : World) (g : Nat) (a b c d : Int) (x : Value) : Prop := RF W g 38 5 (frC a b c d x)
theorem FrB.cells {W : World} {g : Nat} {a b c d : Int} {x : Value} (h : FrB W g a b c d x) : W.cell? ⟨g, 0, none⟩ = some (.int .i64 a) ∧ W.cell? ⟨g, 1, none⟩ = some (.int .i64 b) ∧ W.cell? ⟨g, 2, none⟩ = some (.int .i64 c) ∧ W.cell? ⟨g, 3, none⟩ = some (.int .i64 d) ∧ W.cell? ⟨g, 4, none⟩ = some x :=
  ⟨RF.cell h (i := 0) (by omega), RF.cell h (i := 1) (by omega), RF.cell h (i := 2) (by omega), RF.cell h (i := 3) (by omega), RF.cell h (i := 4) (by omega)⟩
theorem frame_size : (Try.prog.info? 38).map (·.size) = some 5 := by kernel_rfl
theorem store_frame {W : World} {g : Nat} {f : Nat → Value} (h : RF W g 38 5 f) (a b c d : Int) (x : Option Addr) (n k : Nat) :
    ∃ W', (Instr.storeAt 38 (.pointer (some ⟨g, 0, none⟩)) (.agg #[.int .i64 a, .int .i64 b, .int .i64 c, .int .i64 d, .slice x n k])).run Try.prog W = .ok () W' ∧ FrB W' g a b c d (.slice x n k) ∧ OnB g W W' := by
  refine ⟨_, run_storeAt_mid W g 0 38 #[.int .i64 a, .int .i64 b, .int .i64 c, .int .i64 d, .slice x n k] (fun j hj => ?_) frame_size (by simp [Value.oneCell']), ?_, OnB.sets g _ 0 W⟩
  · rw [Nat.zero_add, h.cell hj]
    exact ⟨rfl, h.frozen hj⟩
  · refine (RF.sets _ 0 W f h).congr (fun j hj => ?_)
    match j, hj with
    | 0, _ => rfl
    | 1, _ => rfl
    | 2, _ => rfl
    | 3, _ => rfl
    | 4, _ => rfl
theorem FrB.onb {W W' : World} {g b : Nat} {a b' c d : Int} {x : Value} (h : FrB W g a b' c d x) (k : OnB b W W') (hg : g ≠ b) : FrB W' g a b' c d x := RF.of_block h (k.2.2 g hg)
theorem setCell_self {w : World} {b o : Nat} {v : Value} (h : w.cell? ⟨b, o, none⟩ = some v) : w.setCell ⟨b, o, none⟩ v = w := by
  unfold World.setCell
  cases w with
  | mk heap tape drawn os output =>
    congr 1
    apply Array.ext
    · simp
    · intro k h1 h2
      simp only [Array.getElem_modify]
      split
      · rename_i hk
        subst hk
        unfold World.cell? at h
        simp only [Array.getElem?_eq_getElem h2] at h
        split
        · rename_i c e fz he
          rw [he] at h
          simp only at h
          have h' : c[o]? = some v := by simpa using h
          have e2 : c.setIfInBounds o v = c := by
            apply Array.ext'
            rw [Array.toList_setIfInBounds]
            apply List.ext_getElem?
            intro i
            rw [List.getElem?_set]
            split
            · rename_i hi; subst hi
              have h3 : (c.toList)[o]? = some v := by simpa using h'
              have hlt := (List.getElem?_eq_some_iff.1 h3).1
              rw [if_pos hlt, h3]
            · rfl
          simp [e2, he]
        · rfl
      · rfl
theorem setCells_self {w : World} {b : Nat} : ∀ (vs : List Value) (o : Nat), (∀ j v, vs[j]? = some v → w.cell? ⟨b, o + j, none⟩ = some v) → w.setCells b o vs = w
  | [], _, _ => rfl
  | v :: r, o, h => by
    rw [World.setCells, setCell_self (by simpa using h 0 v rfl)]
    exact setCells_self r (o + 1) (fun j u hj => by have := h (j + 1) u (by simpa using hj); rwa [show o + 1 + j = o + (j + 1) by omega])
/-- A frame that is stored where it lies. -/
theorem store_frame_self {W : World} {g : Nat} {a b c d : Int} {x : Option Addr} {n k : Nat} (h : FrB W g a b c d (.slice x n k)) :
    (Instr.storeAt 38 (.pointer (some ⟨g, 0, none⟩)) (.agg #[.int .i64 a, .int .i64 b, .int .i64 c, .int .i64 d, .slice x n k])).run Try.prog W = .ok () W := by
  rw [run_storeAt_mid W g 0 38 #[.int .i64 a, .int .i64 b, .int .i64 c, .int .i64 d, .slice x n k] (fun j hj => ⟨by rw [Nat.zero_add, RF.cell h hj]; rfl, by rw [Nat.zero_add]; exact RF.frozen h hj⟩) frame_size (by simp [Value.oneCell']),
    setCells_self _ _ (fun j u hj => ?_)]
  rw [Nat.zero_add]
  match j, hj with
  | 0, hj => cases hj; exact RF.cell h (i := 0) (by omega)
  | 1, hj => cases hj; exact RF.cell h (i := 1) (by omega)
  | 2, hj => cases hj; exact RF.cell h (i := 2) (by omega)
  | 3, hj => cases hj; exact RF.cell h (i := 3) (by omega)
  | 4, hj => cases hj; exact RF.cell h (i := 4) (by omega)
theorem FrB.below {W W' : World} {g : Nat} {a b' c d : Int} {x : Value} (h : FrB W g a b' c d x) (k : Below W.heap.size W W') : FrB W' g a b' c d x := RF.below h k
theorem FrB.selfs {W : World} {g : Nat} {a b c d : Int} {x : Value} (h : FrB W g a b c d x) :
    (W.frozen? ⟨g, 0, none⟩ = false ∧ W.frozen? ⟨g, 1, none⟩ = false ∧ W.frozen? ⟨g, 2, none⟩ = false ∧ W.frozen? ⟨g, 3, none⟩ = false ∧ W.frozen? ⟨g, 4, none⟩ = false) ∧
      (W.setCell ⟨g, 0, none⟩ (.int .i64 a) = W ∧ W.setCell ⟨g, 1, none⟩ (.int .i64 b) = W ∧ W.setCell ⟨g, 2, none⟩ (.int .i64 c) = W ∧ W.setCell ⟨g, 3, none⟩ (.int .i64 d) = W ∧ W.setCell ⟨g, 4, none⟩ x = W) :=
  ⟨⟨RF.frozen h (i := 0) (by omega), RF.frozen h (i := 1) (by omega), RF.frozen h (i := 2) (by omega), RF.frozen h (i := 3) (by omega), RF.frozen h (i := 4) (by omega)⟩,
    setCell_self h.cells.1, setCell_self h.cells.2.1, setCell_self h.cells.2.2.1, setCell_self h.cells.2.2.2.1, setCell_self h.cells.2.2.2.2⟩
/-- A number in a block of its own. -/
def NuB (W : World) (g : Nat) (n : Int) : Prop := RF W g 3 1 (fun _ => .int .i64 n)
theorem NuB.onb {W W' : World} {g b : Nat} {n : Int} (h : NuB W g n) (k : OnB b W W') (hg : g ≠ b) : NuB W' g n := RF.of_block h (k.2.2 g hg)
theorem NuB.below {W W' : World} {g : Nat} {n : Int} (h : NuB W g n) (k : Below W.heap.size W W') : NuB W' g n := RF.below h k
theorem NuB.set {W : World} {g : Nat} {n : Int} (h : NuB W g n) (m : Int) : NuB (W.setCell ⟨g, 0, none⟩ (.int .i64 m)) g m := (RF.set h 0 _).congr (fun i hi => by rw [if_pos (by omega)])
theorem FrB.set0 {W : World} {g : Nat} {a b c d : Int} {x : Value} (h : FrB W g a b c d x) (y : Int) : FrB (W.setCell ⟨g, 0, none⟩ (.int .i64 y)) g y b c d x := (RF.set h 0 _).congr (fun i hi => by
  match i, hi with
  | 0, _ => rfl
  | 1, _ => rfl
  | 2, _ => rfl
  | 3, _ => rfl
  | 4, _ => rfl)
theorem FrB.set1 {W : World} {g : Nat} {a b c d : Int} {x : Value} (h : FrB W g a b c d x) (y : Int) : FrB (W.setCell ⟨g, 1, none⟩ (.int .i64 y)) g a y c d x := (RF.set h 1 _).congr (fun i hi => by
  match i, hi with
  | 0, _ => rfl
  | 1, _ => rfl
  | 2, _ => rfl
  | 3, _ => rfl
  | 4, _ => rfl)
theorem FrB.set2 {W : World} {g : Nat} {a b c d : Int} {x : Value} (h : FrB W g a b c d x) (y : Int) : FrB (W.setCell ⟨g, 2, none⟩ (.int .i64 y)) g a b y d x := (RF.set h 2 _).congr (fun i hi => by
  match i, hi with
  | 0, _ => rfl
  | 1, _ => rfl
  | 2, _ => rfl
  | 3, _ => rfl
  | 4, _ => rfl)
theorem FrB.set3 {W : World} {g : Nat} {a b c d : Int} {x : Value} (h : FrB W g a b c d x) (y : Int) : FrB (W.setCell ⟨g, 3, none⟩ (.int .i64 y)) g a b c y x := (RF.set h 3 _).congr (fun i hi => by
  match i, hi with
  | 0, _ => rfl
  | 1, _ => rfl
  | 2, _ => rfl
  | 3, _ => rfl
  | 4, _ => rfl)
theorem OnB.setA (b o : Nat) (w : World) (v : Value) : OnB b w (w.setCell ⟨b, o, none⟩ v) := ⟨(Below.refl _ _).setCell (p := ⟨b, o, none⟩) (Nat.zero_le _) _, by simp, fun k hk => Below.heap_setCell _ _ _ _ hk⟩
theorem FR.kept {w w' : World} {g b : Nat} (h : FR w g b) (k : w'.heap[g]? = w.heap[g]?) : FR w' g b := by
  obtain ⟨h0, h1, h2, h3, h4⟩ := h
  exact ⟨(World.cell?_of_block (w := w) k).trans h0, (World.cell?_of_block (w := w) k).trans h1, (World.cell?_of_block (w := w) k).trans h2, (World.cell?_of_block (w := w) k).trans h3, (World.cell?_of_block (w := w) k).trans h4⟩
theorem Rd.onb {b g : Nat} {w w' : World} {l : List UInt8} (h : Rd w b l) (k : OnB g w w') (hg : b ≠ g) : Rd w' b l := RF.of_block h (k.2.2 b hg)
/-- Where the i-th number of a head lies, and in how many bytes. -/
def offH : Nat → Nat
  | 0 => 2
  | 1 => 3
  | 2 => 4
  | 3 => 8
  | 4 => 14
  | _ => 16
def lenH : Nat → Nat
  | 0 => 1
  | 1 => 1
  | 2 => 4
  | 3 => 6
  | _ => 2
/-- The i-th number, if it was read. -/
def numH (m : List UInt8) (k i : Nat) : Int := if i < k then (beV ((m.drop (offH i)).take (lenH i)) : Nat) else 0
/-- What lies in memory before the i-th number is read. -/
structure HeadMem (w W : World) (m : List UInt8) (k : Nat) : Prop where
  fr : FrB W w.heap.size (numH m k 0) (numH m k 1) (numH m k 2) (numH m k 3) (.slice none 0 0)
  nu : NuB W (w.heap.size + 1) (numH m k 4)
  na : NumsAt W (w.heap.size + 2) w.heap.size (w.heap.size + 1)
  rd : Rd W (w.heap.size + 3) (m.drop (offH k))
  fu : FR W (w.heap.size + 3 + 1) (w.heap.size + 3)
  bl : Below w.heap.size w W
  sz : W.heap.size = w.heap.size + 5
theorem head_mem2 {w w1 W : World} {m : List UInt8} (hn : NumsAt w1 (w.heap.size + 2) w.heap.size (w.heap.size + 1)) (hf : FrB w1 w.heap.size 0 0 0 0 (.slice none 0 0)) (hk : NuB w1 (w.heap.size + 1) 0) (hb : Below w.heap.size w w1) (hz : w1.heap.size = w.heap.size + 3)
    (hW : W = (w1.alloc (.cells #[.string (str (m.drop 2))] 117)).alloc (.cells #[.func (.func 68) #[.pointer (some ⟨w.heap.size + 3, 0, none⟩)] #[], .func (.func 68) #[.pointer (some ⟨w.heap.size + 3, 0, none⟩)] #[],
      .func (.func 69) #[.pointer (some ⟨w.heap.size + 3, 0, none⟩)] #[], .func (.func 70) #[.pointer (some ⟨w.heap.size + 3, 0, none⟩)] #[], .func (.func 71) #[.pointer (some ⟨w.heap.size + 3, 0, none⟩)] #[]] 99)) : HeadMem w W m 0 := by
  have r0 := Rd.fresh w1 (m.drop 2)
  have kA : Below w1.heap.size w1 (w1.alloc (.cells #[.string (str (m.drop 2))] 117)) := (Below.refl _ _).alloc (Nat.le_refl _) _
  have zA : (w1.alloc (.cells #[.string (str (m.drop 2))] 117)).heap.size = w.heap.size + 4 := by simp [hz]
  generalize (w1.alloc (.cells #[.string (str (m.drop 2))] 117)) = wA at *
  have kB : Below wA.heap.size wA W := by rw [hW]; exact (Below.refl _ _).alloc (Nat.le_refl _) _
  have k1 : Below w1.heap.size w1 W := Below.up kA kB
  rw [hz] at r0
  refine ⟨RF.below hf k1, RF.below hk k1, hn.kept (k1.block _ (by omega)), r0.below kB (by omega), ?_, Below.up hb k1, by rw [hW, World.size_alloc, zA]⟩
  rw [hW, show w.heap.size + 3 + 1 = wA.heap.size by omega]
  exact new_five wA _ _ _ _ _ _
theorem HeadMem.next {w W W' : World} {m : List UInt8} {k : Nat} (H : HeadMem w W m k) (hk : k < 5) (hr : Rd W' (w.heap.size + 3) (m.drop (offH (k + 1)))) (ho : OnB (w.heap.size + 3) W W') :
    HeadMem w (W'.setCell (if k < 4 then ⟨w.heap.size, k, none⟩ else ⟨w.heap.size + 1, 0, none⟩) (.int .i64 (beV ((m.drop (offH k)).take (lenH k)) : Nat))) m (k + 1) := by
  obtain ⟨fr, nu, na, rd, fu, bl, sz⟩ := H
  have fr' := fr.onb ho (by omega)
  have nu' := nu.onb ho (by omega)
  have na' := na.kept (ho.2.2 _ (by omega))
  have fu' := fu.kept (ho.2.2 _ (by omega))
  have bl' := bl.trans (ho.below (by omega))
  have sz' : W'.heap.size = w.heap.size + 5 := ho.2.1.trans sz
  match k, hk with
  | 0, _ =>
    have o := OnB.setA w.heap.size 0 W' (.int .i64 (beV ((m.drop (offH 0)).take (lenH 0)) : Nat))
    exact ⟨fr'.set0 _, nu'.onb o (by omega), na'.kept (o.2.2 _ (by omega)), hr.onb o (by omega), fu'.kept (o.2.2 _ (by omega)), bl'.trans (o.below (Nat.le_refl _)), o.2.1.trans sz'⟩
  | 1, _ =>
    have o := OnB.setA w.heap.size 1 W' (.int .i64 (beV ((m.drop (offH 1)).take (lenH 1)) : Nat))
    exact ⟨fr'.set1 _, nu'.onb o (by omega), na'.kept (o.2.2 _ (by omega)), hr.onb o (by omega), fu'.kept (o.2.2 _ (by omega)), bl'.trans (o.below (Nat.le_refl _)), o.2.1.trans sz'⟩
  | 2, _ =>
    have o := OnB.setA w.heap.size 2 W' (.int .i64 (beV ((m.drop (offH 2)).take (lenH 2)) : Nat))
    exact ⟨fr'.set2 _, nu'.onb o (by omega), na'.kept (o.2.2 _ (by omega)), hr.onb o (by omega), fu'.kept (o.2.2 _ (by omega)), bl'.trans (o.below (Nat.le_refl _)), o.2.1.trans sz'⟩
  | 3, _ =>
    have o := OnB.setA w.heap.size 3 W' (.int .i64 (beV ((m.drop (offH 3)).take (lenH 3)) : Nat))
    exact ⟨fr'.set3 _, nu'.onb o (by omega), na'.kept (o.2.2 _ (by omega)), hr.onb o (by omega), fu'.kept (o.2.2 _ (by omega)), bl'.trans (o.below (Nat.le_refl _)), o.2.1.trans sz'⟩
  | 4, _ =>
    have o := OnB.setA (w.heap.size + 1) 0 W' (.int .i64 (beV ((m.drop (offH 4)).take (lenH 4)) : Nat))
    exact ⟨fr'.onb o (by omega), nu'.set _, na'.kept (o.2.2 _ (by omega)), hr.onb o (by omega), fu'.kept (o.2.2 _ (by omega)), bl'.trans (o.below (by omega)), o.2.1.trans sz'⟩
/-- The memory at the beginning of unpackHead. -/
theorem head_zero (w : World) : FrB ((w.alloc (.cells #[.int .i64 0, .int .i64 0, .int .i64 0, .int .i64 0, .slice none 0 0] 38)).alloc (.cells #[.int .i64 0] 3)) w.heap.size 0 0 0 0 (.slice none 0 0) ∧
    NuB ((w.alloc (.cells #[.int .i64 0, .int .i64 0, .int .i64 0, .int .i64 0, .slice none 0 0] 38)).alloc (.cells #[.int .i64 0] 3)) (w.heap.size + 1) 0 ∧
    Below w.heap.size w ((w.alloc (.cells #[.int .i64 0, .int .i64 0, .int .i64 0, .int .i64 0, .slice none 0 0] 38)).alloc (.cells #[.int .i64 0] 3)) ∧
    ((w.alloc (.cells #[.int .i64 0, .int .i64 0, .int .i64 0, .int .i64 0, .slice none 0 0] 38)).alloc (.cells #[.int .i64 0] 3)).heap.size = w.heap.size + 2 := by
  have r0 : RF (w.alloc (.cells #[.int .i64 0, .int .i64 0, .int .i64 0, .int .i64 0, .slice none 0 0] 38)) w.heap.size 38 5 (frC 0 0 0 0 (.slice none 0 0)) := RF_new w _ _ 5 _ rfl (fun i hi => by unfold frC; rw [Array.getElem?_eq_getElem hi]; rfl)
  have z0 : (w.alloc (.cells #[.int .i64 0, .int .i64 0, .int .i64 0, .int .i64 0, .slice none 0 0] 38)).heap.size = w.heap.size + 1 := by simp
  have k0 : Below w.heap.size w (w.alloc (.cells #[.int .i64 0, .int .i64 0, .int .i64 0, .int .i64 0, .slice none 0 0] 38)) := (Below.refl _ _).alloc (Nat.le_refl _) _
  generalize (w.alloc (.cells #[.int .i64 0, .int .i64 0, .int .i64 0, .int .i64 0, .slice none 0 0] 38)) = w1 at *
  have k1 : Below w1.heap.size w1 (w1.alloc (.cells #[.int .i64 0] 3)) := (Below.refl _ _).alloc (Nat.le_refl _) _
  refine ⟨r0.below k1, ?_, Below.up k0 k1, by simp [z0]⟩
  rw [← z0]
  unfold NuB
  refine RF_new w1 _ _ 1 _ rfl (fun i hi => ?_)
  obtain rfl : i = 0 := by omega
  rfl

set_option maxRecDepth 100000 in
set_option maxHeartbeats 3200000 in
theorem unpackHead_any (m : List UInt8) (w : World) (hm : m.length ≤ 1099511627776) (hok0 : 18 ≤ m.length → m.take 2 = [90, 195] → hdOk m = true) :
    Calls Try.prog 50 #[.string (str m)] w (HeadPost w m) := by
  have hsz := str_size m
  have hmk := lit_str [90, 195] ⟨#[90, 195]⟩ rfl
  obtain ⟨hf0, hn0, hb0, hz0⟩ := head_zero w
  have HP := Lib.hid (fun W => HasPrefix_any m [90, 195] W hm (by decide))
  rw [← hmk, show ([90, 195] : List UInt8).length = 2 from rfl] at HP
  clear hmk
  obtain ⟨W0, hW0⟩ : ∃ W0, W0 = ((w.alloc (.cells #[.int .i64 0, .int .i64 0, .int .i64 0, .int .i64 0, .slice none 0 0] 38)).alloc (.cells #[.int .i64 0] 3)) := ⟨_, rfl⟩
  rw [← hW0] at hf0 hn0 hb0 hz0
  have HF0 := Lib.hid hf0
  have HN0 := Lib.hid hn0
  have HB0 := Lib.hid hb0
  clear hf0 hn0 hb0
  by_cases h18 : 18 ≤ m.length
  · cases hp : decide (m.take 2 = [90, 195]) with
    | false =>
      have hh : Hid (headIs m = false) := Lib.hid (by unfold headIs; rw [hp]; simp)
      have i18 : (18 : Int) ≤ (m.length : Int) := by omega
      go_enter Try.func50, Try.ntmps50
      go_wp2_with (go_at_call 67; refine (HP.out _).mono ?_; rintro e w1 ⟨rfl, rfl⟩; rw [hp])
      rw [← hW0]
      obtain ⟨q0, q1, q2, q3, q4⟩ := HF0.out.cells
      have q5 := HN0.out.cell (i := 0) (by omega)
      refine bodyPost_ret (v := .tuple #[.agg #[.int .i64 0, .int .i64 0, .int .i64 0, .int .i64 0, .slice none 0 0], .int .i64 0, .bool false]) (by simp [results, Try.results50, go_sem, q0, q1, q2, q3, q4, q5]) rfl ⟨0, 0, 0, 0, 0, by rw [hh.out], (fun h => by rw [hh.out] at h; cases h), HB0.out⟩
    | true =>
      have i18 : (18 : Int) ≤ (m.length : Int) := by omega
      go_enter Try.func50, Try.ntmps50
      go_wp2_with (go_at_call 67; refine (HP.out _).mono ?_; rintro e w1 ⟨rfl, rfl⟩; rw [hp])
      any_goals (exfalso; omega)
      rw [← hW0]
      clear hW0
      refine (headNumbers_any _ _ W0).mono ?_
      rintro en w1 ⟨rfl, n1, b1, z1⟩
      have N1 := Lib.hid n1
      have F1 := Lib.hid (RF.below HF0.out b1 : FrB w1 w.heap.size 0 0 0 0 (.slice none 0 0))
      have K1 := Lib.hid (RF.below HN0.out b1 : NuB w1 (w.heap.size + 1) 0)
      have B1 := Lib.hid (Below.up HB0.out b1)
      have hz1 : w1.heap.size = w.heap.size + 3 := by omega
      clear n1 b1 HF0 HN0 HB0 z1
      rw [hz0] at N1 ⊢
      have SL : ∀ W, (Instr.slice 9 (.string (str m)) (some (.int .i64 2)) none none).run Try.prog W = .ok (.string (str (m.drop 2))) W := fun W => by
        rw [run_slice_string_l W 9 (str m) str_kind .i64 2 (by omega) (by omega), show (2 : Int).toNat = 2 from rfl, str_drop]
      go_wp2_with fail
      obtain ⟨W, hW⟩ : ∃ W, W = (w1.alloc (.cells #[.string (str (m.drop 2))] 117)).alloc (.cells #[.func (.func 68) #[.pointer (some ⟨w.heap.size + 3, 0, none⟩)] #[], .func (.func 68) #[.pointer (some ⟨w.heap.size + 3, 0, none⟩)] #[],
        .func (.func 69) #[.pointer (some ⟨w.heap.size + 3, 0, none⟩)] #[], .func (.func 70) #[.pointer (some ⟨w.heap.size + 3, 0, none⟩)] #[], .func (.func 71) #[.pointer (some ⟨w.heap.size + 3, 0, none⟩)] #[]] 99) := ⟨_, rfl⟩
      have HM0 := Lib.hid (head_mem2 (m := m) N1.out F1.out K1.out B1.out hz1 hW)
      rw [← hW]
      clear hW N1 F1 K1 B1 hz1 hz0
      go_loopw [7, 8, 35] (fun _ _ i wr => ∃ k : Nat, k ≤ 5 ∧ i = .int .i64 k ∧ Hid (HeadMem w wr m k)) (fun _ _ i _ => 5 - (intOf i).toNat)
      case atStart => exact ⟨0, by omega, rfl, HM0⟩
      case round =>
        obtain ⟨k, hk, rfl, HM⟩ := hrel
        have HD := Lib.hid (HM.out.rd.below (Below.drew (Below.refl wr.heap.size wr)) (by have := HM.out.sz; omega))
        have O1 : Hid (OnB (w.heap.size + 3) wr wr.drew) := Lib.hid ⟨(Below.refl _ _).drew, rfl, fun _ _ => rfl⟩
        have hsw := HM.out.sz
        match k, hk, HM with
        | 0, hk, HM =>
          have u := HM.out.fu.1
          have p := HM.out.na.1
          have ct := HM.out.fr.cells.1
          have ft := RF.frozen HM.out.fr (i := 0) (by omega)
          have P := Lib.hid p
          have CT := Lib.hid ct
          have FT := Lib.hid ft
          have R := Lib.hid (rone_any (w.heap.size + 3) (m.drop 2) wr.drew HD.out (by rw [List.length_drop]; omega) (by rw [List.length_drop]; omega))
          rw [List.drop_drop] at R
          go_wp2_with fail
          go_region_law
            (first
              | (refine step_at (Eq.refl true) ?_; go_simp; go_at_call 68; ((with_reducible refine R.out.mono ?_); rintro e w2 ⟨rfl, h2, o2⟩; have H2 := Lib.hid h2; have O2 := Lib.hid (O1.out.trans o2); have p2 := O2.out.cell P.out (by omega); have ct2 := O2.out.cell CT.out (by omega); have ft2 := (World.frozen?_of_block (w := wr) (O2.out.2.2 (w.heap.size) (by omega))).trans FT.out; clear h2 o2; dsimp only)))
          all_goals
            go_wp2_with fail
            go_roundw
            case rel => exact ⟨1, by omega, by go_num, Lib.hid (HM.out.next (by omega) H2.out O2.out)⟩
            case measure => simp [intOf]
        | 1, hk, HM =>
          have u := HM.out.fu.2.1
          have p := HM.out.na.2.1
          have ct := HM.out.fr.cells.2.1
          have ft := RF.frozen HM.out.fr (i := 1) (by omega)
          have P := Lib.hid p
          have CT := Lib.hid ct
          have FT := Lib.hid ft
          have R := Lib.hid (rone_any (w.heap.size + 3) (m.drop 3) wr.drew HD.out (by rw [List.length_drop]; omega) (by rw [List.length_drop]; omega))
          rw [List.drop_drop] at R
          go_wp2_with fail
          go_region_law
            (first
              | (refine step_at (Eq.refl true) ?_; go_simp; go_at_call 68; ((with_reducible refine R.out.mono ?_); rintro e w2 ⟨rfl, h2, o2⟩; have H2 := Lib.hid h2; have O2 := Lib.hid (O1.out.trans o2); have p2 := O2.out.cell P.out (by omega); have ct2 := O2.out.cell CT.out (by omega); have ft2 := (World.frozen?_of_block (w := wr) (O2.out.2.2 (w.heap.size) (by omega))).trans FT.out; clear h2 o2; dsimp only)))
          all_goals
            go_wp2_with fail
            go_roundw
            case rel => exact ⟨2, by omega, by go_num, Lib.hid (HM.out.next (by omega) H2.out O2.out)⟩
            case measure => simp [intOf]
        | 2, hk, HM =>
          have u := HM.out.fu.2.2.1
          have p := HM.out.na.2.2.1
          have ct := HM.out.fr.cells.2.2.1
          have ft := RF.frozen HM.out.fr (i := 2) (by omega)
          have P := Lib.hid p
          have CT := Lib.hid ct
          have FT := Lib.hid ft
          have R := Lib.hid (rfour_any (w.heap.size + 3) (m.drop 4) wr.drew HD.out (by rw [List.length_drop]; omega) (by rw [List.length_drop]; omega))
          rw [List.drop_drop] at R
          go_wp2_with fail
          go_region_law
            (first
              | (refine step_at (Eq.refl true) ?_; go_simp; go_at_call 69; ((with_reducible refine R.out.mono ?_); rintro e w2 ⟨rfl, h2, o2⟩; have H2 := Lib.hid h2; have O2 := Lib.hid (O1.out.trans o2); have p2 := O2.out.cell P.out (by omega); have ct2 := O2.out.cell CT.out (by omega); have ft2 := (World.frozen?_of_block (w := wr) (O2.out.2.2 (w.heap.size) (by omega))).trans FT.out; clear h2 o2; dsimp only)))
          all_goals
            go_wp2_with fail
            go_roundw
            case rel => exact ⟨3, by omega, by go_num, Lib.hid (HM.out.next (by omega) H2.out O2.out)⟩
            case measure => simp [intOf]
        | 3, hk, HM =>
          have u := HM.out.fu.2.2.2.1
          have p := HM.out.na.2.2.2.1
          have ct := HM.out.fr.cells.2.2.2.1
          have ft := RF.frozen HM.out.fr (i := 3) (by omega)
          have P := Lib.hid p
          have CT := Lib.hid ct
          have FT := Lib.hid ft
          have R := Lib.hid (rsix_any (w.heap.size + 3) (m.drop 8) wr.drew HD.out (by rw [List.length_drop]; omega) (by rw [List.length_drop]; omega))
          rw [List.drop_drop] at R
          go_wp2_with fail
          go_region_law
            (first
              | (refine step_at (Eq.refl true) ?_; go_simp; go_at_call 70; ((with_reducible refine R.out.mono ?_); rintro e w2 ⟨rfl, h2, o2⟩; have H2 := Lib.hid h2; have O2 := Lib.hid (O1.out.trans o2); have p2 := O2.out.cell P.out (by omega); have ct2 := O2.out.cell CT.out (by omega); have ft2 := (World.frozen?_of_block (w := wr) (O2.out.2.2 (w.heap.size) (by omega))).trans FT.out; clear h2 o2; dsimp only)))
          all_goals
            go_wp2_with fail
            go_roundw
            case rel => exact ⟨4, by omega, by go_num, Lib.hid (HM.out.next (by omega) H2.out O2.out)⟩
            case measure => simp [intOf]
        | 4, hk, HM =>
          have u := HM.out.fu.2.2.2.2
          have p := HM.out.na.2.2.2.2
          have ct := HM.out.nu.cell (i := 0) (by omega)
          have ft := RF.frozen HM.out.nu (i := 0) (by omega)
          have P := Lib.hid p
          have CT := Lib.hid ct
          have FT := Lib.hid ft
          have R := Lib.hid (rtwo_any (w.heap.size + 3) (m.drop 14) wr.drew HD.out (by rw [List.length_drop]; omega) (by rw [List.length_drop]; omega))
          rw [List.drop_drop] at R
          go_wp2_with fail
          go_region_law
            (first
              | (refine step_at (Eq.refl true) ?_; go_simp; go_at_call 71; ((with_reducible refine R.out.mono ?_); rintro e w2 ⟨rfl, h2, o2⟩; have H2 := Lib.hid h2; have O2 := Lib.hid (O1.out.trans o2); have p2 := O2.out.cell P.out (by omega); have ct2 := O2.out.cell CT.out (by omega); have ft2 := (World.frozen?_of_block (w := wr) (O2.out.2.2 (w.heap.size + 1) (by omega))).trans FT.out; clear h2 o2; dsimp only)))
          all_goals
            go_wp2_with fail
            go_roundw
            case rel => exact ⟨5, by omega, by go_num, Lib.hid (HM.out.next (by omega) H2.out O2.out)⟩
            case measure => simp [intOf]
        | 5, hk, HM =>
          obtain ⟨fr, nu, _, _, _, bl, _⟩ := HM.out
          have FRB := Lib.hid fr
          have NUB := Lib.hid nu
          have BLB := Lib.hid bl
          clear fr nu bl
          have hv : numH m 5 0 = (hdF m).l ∧ numH m 5 1 = (hdF m).s ∧ numH m 5 2 = (hdF m).e ∧ numH m 5 3 = (hdF m).t ∧ numH m 5 4 = (hdN m : Nat) := ⟨rfl, rfl, rfl, rfl, rfl⟩
          rw [hv.1, hv.2.1, hv.2.2.1, hv.2.2.2.1] at FRB
          rw [hv.2.2.2.2] at NUB
          have HI : Hid (headIs m = (hdOk m && hdSum m)) := Lib.hid (by unfold headIs; rw [decide_eq_true h18, hp]; rfl)
          have HO := Lib.hid (show hdOk m = headB (hdF m).l (hdF m).s (hdF m).e (hdF m).t (hdN m : Nat) from rfl)
          have HSM := Lib.hid (show hdSum m = decide (beV ((m.drop 16).take 2) = crc0 (m.take 16)) from rfl)
          have R := Lib.hid (fun W (h : Rd W (w.heap.size + 3) (m.drop 16)) => rtwo_any (w.heap.size + 3) (m.drop 16) W h (by rw [List.length_drop]; omega) (by rw [List.length_drop]; omega))
          have HRD : Hid (Rd wr.drew (w.heap.size + 3) (m.drop 16)) := HD
          have SL2 : ∀ W, (Instr.slice 9 (.string (str m)) none (some (.int .i64 16)) none).run Try.prog W = .ok (.string (str (m.take 16))) W := fun W => by
            rw [run_slice_string_h W 9 (str m) str_kind .i64 16 (by omega) (by omega), show (16 : Int).toNat = 16 from rfl, str_take]
          have CR := Lib.hid (fun W => Crc_any (str (m.take 16)) W (by rw [str_size, List.length_take]; unfold maxLen; omega))
          rw [str_list] at CR
          clear hv HM hk HD SL
          have y1 := beV2_lt (m.drop 16)
          have y2 := crc0_lt (m.take 16)
          generalize beV ((m.drop 16).take 2) = x1 at *
          generalize crc0 (m.take 16) = x2 at *
          generalize str (m.take 16) = sk at *
          have HB := Lib.hid (fun W (x : Option Addr) (n k : Nat) => isHead_any (hdF m).l (hdF m).s (hdF m).e (hdF m).t (hdN m : Nat) x n k W)
          rw [← HO.out] at HB
          obtain ⟨F, hF⟩ : ∃ F, F = hdF m := ⟨_, rfl⟩
          obtain ⟨N, hN⟩ : ∃ N : Int, N = (hdN m : Nat) := ⟨_, rfl⟩
          rw [← hF, ← hN] at HB
          rw [← hF] at FRB
          rw [← hN] at NUB
          have HFN := Lib.hid (And.intro hF hN)
          clear hF hN HO
          obtain ⟨l, s, e, t, hs⟩ := F
          simp only at HB FRB
          obtain ⟨q0, q1, q2, q3, q4⟩ := FRB.out.cells
          have q5 := NUB.out.cell (i := 0) (by omega)
          have BD : Hid (Below wr.heap.size wr wr.drew) := Lib.hid (Below.refl _ _).drew
          have hok := hok0 h18 (of_decide_eq_true hp)
          rw [hok] at HB
          have hh : Hid (headIs m = decide (x1 = x2)) := Lib.hid (by rw [HI.out, hok, HSM.out]; rfl)
          have hq : Hid (((x1 : Int) == (x2 : Int)) = decide (x1 = x2)) := Lib.hid (by
            by_cases h : x1 = x2
            · subst h; simp
            · rw [decide_eq_false h]; simpa using (fun e => h (by omega)))
          have SD : wr.drew.cell? ⟨w.heap.size, 0, none⟩ = some (.int .i64 l) ∧ wr.drew.cell? ⟨w.heap.size, 1, none⟩ = some (.int .i64 s) ∧ wr.drew.cell? ⟨w.heap.size, 2, none⟩ = some (.int .i64 e) ∧ wr.drew.cell? ⟨w.heap.size, 3, none⟩ = some (.int .i64 t) ∧ wr.drew.cell? ⟨w.heap.size, 4, none⟩ = some (.slice none 0 0) ∧ wr.drew.cell? ⟨w.heap.size + 1, 0, none⟩ = some (.int .i64 N) := ⟨q0, q1, q2, q3, q4, q5⟩
          have SDH := Lib.hid SD
          have WZ : wr.drew.heap.size = w.heap.size + 5 := hsw
          clear q0 q1 q2 q3 q4 q5 SD hok hp
          go_wp2_with fail
          go_region_held3 (fun W => W.cell? ⟨w.heap.size, 0, none⟩ = some (.int .i64 l) ∧ W.cell? ⟨w.heap.size, 1, none⟩ = some (.int .i64 s) ∧ W.cell? ⟨w.heap.size, 2, none⟩ = some (.int .i64 e) ∧ W.cell? ⟨w.heap.size, 3, none⟩ = some (.int .i64 t) ∧ W.cell? ⟨w.heap.size, 4, none⟩ = some (.slice none 0 0) ∧ W.cell? ⟨w.heap.size + 1, 0, none⟩ = some (.int .i64 N))
            (first | exact SDH.out | exact S3.out | exact S2.out)
            (first
              | (go_at_call 48; ((with_reducible refine (HB.out _ _ _ _).mono ?_); rintro en w2 ⟨rfl, b2⟩; have B2 := Lib.hid (Below.up BD.out b2); have F2 := Lib.hid (FRB.out.below B2.out); have N2 := Lib.hid (NUB.out.below B2.out); have H2 := Lib.hid (HRD.out.below b2 (by omega)); have S2 := Lib.hid (show w2.cell? ⟨w.heap.size, 0, none⟩ = some (.int .i64 l) ∧ w2.cell? ⟨w.heap.size, 1, none⟩ = some (.int .i64 s) ∧ w2.cell? ⟨w.heap.size, 2, none⟩ = some (.int .i64 e) ∧ w2.cell? ⟨w.heap.size, 3, none⟩ = some (.int .i64 t) ∧ w2.cell? ⟨w.heap.size, 4, none⟩ = some (.slice none 0 0) ∧ w2.cell? ⟨w.heap.size + 1, 0, none⟩ = some (.int .i64 N) from ⟨F2.out.cells.1, F2.out.cells.2.1, F2.out.cells.2.2.1, F2.out.cells.2.2.2.1, F2.out.cells.2.2.2.2, N2.out.cell (i := 0) (by omega)⟩); clear b2))
              | (go_at_call 71; ((with_reducible refine (R.out _ H2.out).mono ?_); rintro en w3 ⟨rfl, h3, o3⟩; have O3 := Lib.hid o3; have F3 := Lib.hid (F2.out.onb o3 (by omega)); have N3 := Lib.hid (N2.out.onb o3 (by omega)); have S3 := Lib.hid (show w3.cell? ⟨w.heap.size, 0, none⟩ = some (.int .i64 l) ∧ w3.cell? ⟨w.heap.size, 1, none⟩ = some (.int .i64 s) ∧ w3.cell? ⟨w.heap.size, 2, none⟩ = some (.int .i64 e) ∧ w3.cell? ⟨w.heap.size, 3, none⟩ = some (.int .i64 t) ∧ w3.cell? ⟨w.heap.size, 4, none⟩ = some (.slice none 0 0) ∧ w3.cell? ⟨w.heap.size + 1, 0, none⟩ = some (.int .i64 N) from ⟨F3.out.cells.1, F3.out.cells.2.1, F3.out.cells.2.2.1, F3.out.cells.2.2.2.1, F3.out.cells.2.2.2.2, N3.out.cell (i := 0) (by omega)⟩); obtain ⟨⟨z0, z1, z2, z3, z4⟩, s0, s1, s2, s3, s4⟩ := F3.out.selfs; have z5 := N3.out.frozen (i := 0) (by omega); have s5 := setCell_self (N3.out.cell (i := 0) (by omega)); clear h3 o3))
              | (go_at_call 25; ((with_reducible refine (CR.out _).mono ?_); rintro en w4 ⟨rfl, rfl⟩)))
          all_goals
            go_wp2_with fail
            obtain ⟨r0, r1, r2, r3, r4, r5⟩ := S3.out
            refine bodyPost_ret (v := .tuple #[.agg #[.int .i64 l, .int .i64 s, .int .i64 e, .int .i64 t, .slice none 0 0], .int .i64 N, .bool ((x1 : Int) == (x2 : Int))]) (by simp [results, Try.results50, go_sem, r0, r1, r2, r3, r4, r5]) rfl ⟨l, s, e, t, N, by rw [hq.out, hh.out], (fun _ => ?_), (BLB.out.trans (B2.out.mono (by omega))).trans (O3.out.below (by omega))⟩
            have hF := HFN.out.1
            exact ⟨by rw [← hF], by rw [← hF], by rw [← hF], by rw [← hF], HFN.out.2⟩
  · have hh : Hid (headIs m = false) := Lib.hid (by unfold headIs; rw [decide_eq_false h18]; rfl)
    have i18 : (m.length : Int) < 18 := by omega
    go_enter Try.func50, Try.ntmps50
    go_wp2_with fail
    rw [← hW0]
    obtain ⟨q0, q1, q2, q3, q4⟩ := HF0.out.cells
    have q5 := HN0.out.cell (i := 0) (by omega)
    refine bodyPost_ret (v := .tuple #[.agg #[.int .i64 0, .int .i64 0, .int .i64 0, .int .i64 0, .slice none 0 0], .int .i64 0, .bool false]) (by simp [results, Try.results50, go_sem, q0, q1, q2, q3, q4, q5]) rfl ⟨0, 0, 0, 0, 0, by rw [hh.out], (fun h => by rw [hh.out] at h; cases h), HB0.out⟩
end Go.Proofs.Ytanillahofohgaa
