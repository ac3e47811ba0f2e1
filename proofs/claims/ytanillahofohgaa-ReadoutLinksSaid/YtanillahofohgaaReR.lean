/- Layer 5: the law ReadoutLinks. -/
import Derived.Deep.CutRange
import Derived.Deep.RegionLaw
import Derived.Test.YtanillahofohgaaReX
import Derived.Test.YtanillahofohgaaRaV
set_option linter.unusedVariables false
set_option linter.unusedSimpArgs false
set_option maxRecDepth 100000
namespace Go.Proofs.Ytanillahofohgaa
open Go.RowKit


theorem LkW.ge {B : Nat} {W : World} {lb : Nat} {room cr : Int} {q u : Strs} {f : Nat → Value} (h : LkW B W lb room cr q u f) : ∀ g, Lb lb f g → B ≤ g := by
  rintro g (rfl | hg | hg)
  · exact h.hB
  · exact (So.lt h.qs _ hg).1
  · exact (So.lt h.us _ hg).1
theorem refSend_said (P P' : Nat → Prop) (room c : Int) (qv uv fv : Value) (q u : Strs) (fl : List Int) (w : World) (hq : StS P w qv q) (hu : StS P' w uv u) (hf : InS w fv fl) (hc : 0 ≤ c ∧ c ≤ 1000) (hql : q.length ≤ 1000) (hul : u.length ≤ 1000) (hx : ∀ x ∈ q, x.length ≤ 1000000) (hfl : fl.length ≤ 9223372036854775807)
    {sc : Int} {sb : Bool} {sq su : Strs} (h1 : sndC c q = sc) (h2 : sndB c q = sb) (h3 : sndQ c q = sq) (h4 : sndU c q u fl = su) :
    Calls Try.prog 35 #[.agg #[.int .i64 room, .int .i64 c, qv, uv], fv] w fun e w' => ∃ q2 u2, e = .returned (.tuple #[.agg #[.int .i64 room, .int .i64 sc, q2, u2], .bool sb]) ∧ StS P w' q2 sq ∧ StS (fun b => w.heap.size ≤ b ∨ P' b) w' u2 su ∧ Below w.heap.size w w' := by
  subst h1 h2 h3 h4
  exact refSend_all P P' room c qv uv fv q u fl w hq hu hf hc hql hul hx hfl
theorem refOffer_said (P : Nat → Prop) (room c : Int) (qv uv : Value) (q : Strs) (s : List UInt8) (w : World) (hq : StS P w qv q) (hu : ∃ a n k, uv = .slice a n k) (hql : q.length ≤ 1000) {oc : Int} {oq : Strs} (h1 : offC room q s = oc) (h2 : offQ room q s = oq) :
    Calls Try.prog 33 #[.agg #[.int .i64 room, .int .i64 c, qv, uv], .string (str s)] w fun e w' => ∃ q2, e = .returned (.tuple #[.agg #[.int .i64 room, .int .i64 c, q2, uv], .int .i64 oc]) ∧ StS (fun b => w.heap.size ≤ b ∨ P b) w' q2 oq ∧ Below w.heap.size w w' := by
  subst h1 h2
  exact refOffer_all P room c qv uv q s w hq hu hql
/-- The document's method has answered, its answer lies in a block of its own. -/
structure ZM (lb yb : Nat) (room c : Int) (q' u' : Strs) (f : Nat → Value) (wr W : World) (g : Nat) (q2 u2 : Value) : Prop where
  z : YAt W g room c q2 u2
  b : Below wr.heap.size wr W
  qs : StS (fun b => wr.heap.size ≤ b ∨ Ap lb yb f b) W q2 q'
  us : StS (fun b => wr.heap.size ≤ b ∨ Ap lb yb f b) W u2 u'
theorem ZM.after {lb yb : Nat} {room c : Int} {q' u' : Strs} {f : Nat → Value} {wr w7 : World} {q2 u2 : Value} (hb : Below wr.heap.size wr w7)
    (hq : StS (fun b => wr.heap.size ≤ b ∨ Ap lb yb f b) w7 q2 q') (hu : StS (fun b => wr.heap.size ≤ b ∨ Ap lb yb f b) w7 u2 u') :
    ZM lb yb room c q' u' f wr (w7.alloc (.cells #[.int .i64 room, .int .i64 c, q2, u2] 65)) w7.heap.size q2 u2 := by
  have k : Below w7.heap.size w7 (w7.alloc (.cells #[.int .i64 room, .int .i64 c, q2, u2] 65)) := Below.alloc (Below.refl _ _) (Nat.le_refl _) _
  exact ⟨YAt.fresh _ _ _ _ _, Below.up hb k, hq.below k, hu.below k⟩
theorem ZM.before {lb yb : Nat} {room c r0 c0 : Int} {q0 u0 : Value} {q' u' : Strs} {f : Nat → Value} {wr w7 : World} {g : Nat} {q2 u2 : Value} (hz : YAt w7 g r0 c0 q0 u0) (hg : wr.heap.size ≤ g) (hb : Below wr.heap.size wr w7)
    (hq : StS (fun b => b ≠ g ∧ (wr.heap.size ≤ b ∨ Ap lb yb f b)) w7 q2 q') (hu : StS (fun b => b ≠ g ∧ (wr.heap.size ≤ b ∨ Ap lb yb f b)) w7 u2 u') :
    ZM lb yb room c q' u' f wr (ySet w7 g room c q2 u2) g q2 u2 := by
  refine ⟨YAt.set4 hz room c q2 u2, ?_, (hq.keep fun b _ h => ySet_other _ _ _ _ _ _ h.1).mono fun b _ h => h.2, (hu.keep fun b _ h => ySet_other _ _ _ _ _ _ h.1).mono fun b _ h => h.2⟩
  unfold ySet
  exact (((hb.setCell (p := ⟨g, 0, none⟩) hg _).setCell (p := ⟨g, 1, none⟩) hg _).setCell (p := ⟨g, 2, none⟩) hg _).setCell (p := ⟨g, 3, none⟩) hg _

set_option maxHeartbeats 12800000 in
theorem links_any (room cr : Int) (v : Value) (l : List Ac) (w : World) (h : AcS w v l) (hr : I64 room) (hc : I64 cr) :
    Calls Try.prog 9 #[.int .i64 room, .int .i64 cr, v] w fun e w' => e = .returned (.bool true) ∧ Below w.heap.size w w' := by
  have H := Lib.hid h
  have AW := Lib.hid awake_any
  obtain ⟨hl, hx⟩ := h.bd
  have HX := Lib.hid hx
  obtain ⟨a, ca, rfl, _⟩ := h.form
  have GR := Lib.hid (great_any _ l w h)
  clear h hx
  go_enter Try.func9, Try.ntmps9
  go_wp2_with fail
  refine GR.out.mono ?_
  rintro e w1 ⟨⟨bb, rfl, hbb⟩, rfl⟩
  cases bb with
  | true =>
    go_wp2_with fail
    refine (AW.out _).mono ?_
    rintro e w2 ⟨rfl, b2⟩
    go_wp2_with fail
    go_ret
    exact ⟨rfl, b2⟩
  | false =>
  have hl2 := hbb rfl
  clear hbb GR hl
  cases hok : newOk room cr with
  | false =>
    have NL := Lib.hid (NewLink_no room cr w hok)
    have RL := Lib.hid (fun W => refNew_no room cr W hok)
    clear hok
    go_wp2_with fail
    refine NL.out.mono ?_
    rintro e w1 ⟨rfl, rfl⟩
    go_wp2_with fail
    refine (RL.out _).mono ?_
    rintro e w2 ⟨rfl, b2⟩
    have B2 := Lib.hid b2
    clear b2 NL RL
    go_wp2_with fail
    have B3 := Lib.hid (Below.up B2.out (Below.alloc (Below.refl w2.heap.size w2) (Nat.le_refl _) (.cells #[.int .i64 0, .int .i64 0, .slice none 0 0, .slice none 0 0] 65)))
    generalize w2.alloc (.cells #[.int .i64 0, .int .i64 0, .slice none 0 0, .slice none 0 0] 65) = w3 at *
    go_loopw [11] (fun i wr => i = .int .i64 0 ∧ Hid (Below w.heap.size w wr)) (fun i _ => 0)
    case atStart => exact ⟨rfl, B3⟩
    case round =>
      obtain ⟨rfl, BL⟩ := hrel
      by_cases h0 : 0 < l.length
      · go_wp2_with fail
        refine (AW.out _).mono ?_
        rintro e w4 ⟨rfl, b4⟩
        go_wp2_with fail
        go_ret
        exact ⟨rfl, Below.up BL.out b4⟩
      · go_wp2_with fail
        refine (AW.out _).mono ?_
        rintro e w4 ⟨rfl, b4⟩
        go_wp2_with fail
        go_ret
        exact ⟨rfl, Below.up BL.out b4⟩
  | true =>
    have hbd : (1 ≤ room ∧ room ≤ 256) ∧ (1 ≤ cr ∧ cr ≤ 256) := by
      unfold newOk at hok
      rw [Bool.and_eq_true] at hok
      exact ⟨inB_true.1 hok.1, inB_true.1 hok.2⟩
    obtain ⟨⟨r1, r2⟩, s1, s2⟩ := hbd
    have NL := Lib.hid (NewLink_yes room cr w hok)
    have RL := Lib.hid (fun W => refNew_yes room cr W hok)
    clear hok
    go_wp2_with fail
    refine NL.out.mono ?_
    rintro e w1 ⟨rfl, ⟨f1, h1⟩, b1⟩
    have H1 := Lib.hid h1
    have B1 := Lib.hid b1
    clear h1 b1 NL
    go_wp2_with fail
    refine (RL.out _).mono ?_
    rintro e w2 ⟨rfl, b2⟩
    have I0 : Hid (LinksI w.heap.size w.heap.size w2.heap.size room cr w (w2.alloc (.cells #[.int .i64 room, .int .i64 cr, .slice none 0 0, .slice none 0 0] 65)) [] [] cr f1 (.slice none 0 0) (.slice none 0 0)) := Lib.hid (by
      have k2 : Below w2.heap.size w2 (w2.alloc (.cells #[.int .i64 room, .int .i64 cr, .slice none 0 0, .slice none 0 0] 65)) := Below.alloc (Below.refl _ _) (Nat.le_refl _) _
      have z1 := B1.out.size
      have z2 := b2.size
      refine ⟨(H1.out.below b2).below k2, YAt.fresh _ _ _ _ _, by omega, fun hl => ?_, StS.nil _ _, StS.nil _ _, by omega, by simp, by simp; omega, fun x hx => (by cases hx), fun x hx => (by cases hx), Below.up (Below.up B1.out b2) k2⟩
      have := H1.out.lt _ hl
      omega)
    clear b2 RL H1 B1
    go_wp2_with fail
    generalize (w2.alloc (.cells #[.int .i64 room, .int .i64 cr, .slice none 0 0, .slice none 0 0] 65)) = w3 at *
    generalize w2.heap.size = yb at *
    generalize hLB : w.heap.size = lb at *
    go_loopw [11] (fun i wr => ∃ (k : Nat) (q u : Strs) (c : Int) (f : Nat → Value) (qv uv : Value), k ≤ l.length ∧ i = .int .i64 k ∧ Hid (LinksI lb lb yb room cr w wr q u c f qv uv)) (fun i _ => l.length - (intOf i).toNat)
    case atStart => exact ⟨0, [], [], cr, f1, _, _, Nat.zero_le _, rfl, I0⟩
    case round =>
      obtain ⟨k, q, u, c, f, qv, uv, hk, rfl, I⟩ := hrel
      by_cases hlt : k < l.length
      · obtain ⟨b, off, rfl, fa, fn, fc, e0, e1, e2, FL⟩ := H.out.at hlt
        have KW : Below w.heap.size w wr := by rw [hLB]; exact I.out.bl
        have c0 := bc KW e0
        clear e0
        have hx := (HX.out _ (List.getElem_mem hlt)).1
        have hxf := (HX.out _ (List.getElem_mem hlt)).2
        have hq := I.out.qr
        have hcu := I.out.cu
        have hc0 := I.out.c0
        generalize (l[k]).k = kk at *
        generalize (l[k]).s = ss at *
        generalize (l[k]).fl = ff at *
        have hm3 : kk % 3 = 0 ∨ kk % 3 = 1 ∨ kk % 3 = 2 := by omega
        rcases hm3 with h3 | h3 | h3
        · have t0 : ((kk : Int) % 3 == 0) = true := by simp; omega
          clear h3
          obtain ⟨qa, qc, eqv, _⟩ := I.out.qs.form
          obtain ⟨ua, uc, euv, _⟩ := I.out.us.form
          subst eqv euv
          obtain ⟨oc, hoc⟩ : ∃ x, offC room q ss = x := ⟨_, rfl⟩
          obtain ⟨oq, hoq⟩ : ∃ x, offQ room q ss = x := ⟨_, rfl⟩
          have RO := Lib.hid (fun (W : World) (k : Below wr.heap.size wr W) => refOffer_said (fun b => Ap lb yb f b ∧ b < wr.heap.size) room c (.slice qa q.length qc) (.slice ua u.length uc) q ss W ((I.out.qs.mono fun b hb ha => ⟨ha, hb⟩).below k) ⟨_, _, _, rfl⟩ (by omega) hoc hoq)
          have OF : Hid (∀ (W : World) (f : Nat → Value), LkW lb W lb room c q u f → Calls Try.prog 34 #[.pointer (some ⟨lb, 0, none⟩), .string (str ss)] W fun e w' => e = .returned (.int .i64 oc) ∧ Moved lb lb W f room c oq u w') := Lib.hid (fun W f h => by subst hoc hoq; exact Offer_mv lb lb room c q u ss W f h r2 (by omega))
          have TF := Lib.hid (offQ_fits (s := ss) hq I.out.xq)
          have UX := Lib.hid I.out.xu
          rw [hoq] at TF
          clear hoc hoq
          have y0 := I.out.y.cells.1
          have y1 := I.out.y.cells.2.1
          have y2 := I.out.y.cells.2.2.1
          have y3 := I.out.y.cells.2.2.2
          have YB := Lib.hid (fun (W : World) (k : Below wr.heap.size wr W) => (I.out.y.below k).cells)
          have z0 := fun o => (YB.out _ (Below.alloc (Below.refl _ _) (Nat.le_refl _) o)).1
          have z1 := fun o => (YB.out _ (Below.alloc (Below.refl _ _) (Nat.le_refl _) o)).2.1
          have z2 := fun o => (YB.out _ (Below.alloc (Below.refl _ _) (Nat.le_refl _) o)).2.2.1
          have z3 := fun o => (YB.out _ (Below.alloc (Below.refl _ _) (Nat.le_refl _) o)).2.2.2
          have c1 := bc KW e1
          have zx := fun o => bc (Below.up KW (Below.alloc (Below.refl wr.heap.size wr) (Nat.le_refl _) o)) e1
          have US := Lib.hid (I.out.us.mono (Q := fun b => wr.heap.size ≤ b ∨ Ap lb yb f b) fun b hb ha => .inr ha)
          have US2 := Lib.hid (I.out.us.mono (Q := fun b => b ≠ wr.heap.size ∧ (wr.heap.size ≤ b ∨ Ap lb yb f b)) fun b hb ha => ⟨by omega, .inr ha⟩)
          have hby : b ≠ yb := by have := cell_lt e1; have := I.out.yB; omega
          clear e1 e2 FL YB
          go_wp2_with fail
          go_cut [12, 13] from 49 to 152 (fun s0 s1 W => ∃ (g : Nat) (a7 : Option Addr) (k7 : Nat), s0 = .pointer (some ⟨g, 0, none⟩) ∧ s1 = .int .i64 oc ∧ Hid (ZM lb yb room c oq u f wr W g (.slice a7 oq.length k7) (.slice ua u.length uc)))
          case first =>
            rename_i hJ hK
            clear c0
            have ZD := Lib.hid ((YAt.fresh wr 0 0 (.slice none 0 0) (.slice none 0 0)).below (Below.refl _ _).drew)
            have BD : Hid (Below wr.heap.size wr (wr.alloc (.cells #[.int .i64 0, .int .i64 0, .slice none 0 0, .slice none 0 0] 65)).drew) := Lib.hid (Below.alloc (Below.refl _ _) (Nat.le_refl _) _).drew
            have BD1 : Hid (Below wr.heap.size wr wr.drew) := Lib.hid (Below.refl _ _).drew
            have SZ : Hid ((wr.alloc (.cells #[.int .i64 0, .int .i64 0, .slice none 0 0, .slice none 0 0] 65)).drew.heap.size = wr.heap.size + 1) := Lib.hid (by simp)
            have SZ1 : Hid (wr.drew.heap.size = wr.heap.size) := Lib.hid (by simp)
            go_region_law
              (first
                | (refine step_at (Eq.refl true) ?_; go_simp; go_at_call 33; ((with_reducible refine (RO.out wr.drew BD1.out).mono ?_); rintro e w7 ⟨q2, rfl, hq7, b7⟩; obtain ⟨a7, k7, e7, _⟩ := hq7.form; subst e7; have B7 := Lib.hid (Below.up BD1.out b7); have LF := Lib.hid (ZM.after (room := room) (c := c) B7.out (hq7.mono fun b _ h => h.elim (fun h => .inl (by rw [SZ1.out] at h; exact h)) (fun h => .inr h.1)) (US.out.below B7.out)); obtain ⟨f0, f1, f2, f3⟩ := (YAt.fresh w7 0 0 (.slice none 0 0) (.slice none 0 0)).frozens; clear hq7 b7))
                | (refine step_at (Eq.refl true) ?_; go_simp; go_at_call 33; ((with_reducible refine (RO.out (wr.alloc (.cells #[.int .i64 0, .int .i64 0, .slice none 0 0, .slice none 0 0] 65)).drew BD.out).mono ?_); rintro e w7 ⟨q2, rfl, hq7, b7⟩; obtain ⟨a7, k7, e7, _⟩ := hq7.form; subst e7; have B7 := Lib.hid (Below.up BD.out b7); have Z7 := Lib.hid (ZD.out.below b7); have LF := Lib.hid (ZM.before (room := room) (c := c) Z7.out (Nat.le_refl _) B7.out (hq7.mono fun b _ h => h.elim (fun h => by rw [SZ.out] at h; exact ⟨by omega, .inl (by omega)⟩) (fun h => ⟨by omega, .inr h.1⟩)) (US2.out.below B7.out)); obtain ⟨f0, f1, f2, f3⟩ := Z7.out.frozens; obtain ⟨d0, d1, d2, d3⟩ := Z7.out.cells; clear hq7 b7)))
            all_goals
              refine hK _ _ (Met.intro (hJ _ _ ?_))
              (repeat apply Exists.intro)
              refine ⟨?_, rfl⟩
              exact ⟨_, _, _, rfl, rfl, LF⟩
          case rest =>
            obtain ⟨g, a7, k7, rfl, rfl, Z⟩ := hcut
            have HH := Lib.hid (I.out.half Z.out.b c Z.out.qs Z.out.us)
            obtain ⟨p0, p1, p2, p3⟩ := Z.out.z.cells
            obtain ⟨n0, n1, n2, n3⟩ := (I.out.y.below Z.out.b).frozens
            obtain ⟨m0, m1, m2, m3⟩ := (I.out.y.below Z.out.b).cells
            have c1 := (World.cell?_of_block (ySet_other wc yb room c (.slice a7 oq.length k7) (.slice ua u.length uc) hby)).trans (bc Z.out.b c1)
            unfold ySet at c1
            have ol : oq.length ≤ 256 ∧ u.length ≤ 256 ∧ c ≤ 256 := by have := TF.out; omega
            obtain ⟨ol, ul, cl⟩ := ol
            clear I Z RO US US2 y0 y1 y2 y3 z0 z1 z2 z3 zx c0
            go_wp2_with fail
            refine (OF.out _ _ HH.out.lk).mono ?_
            rintro e w5 ⟨rfl, hm⟩
            obtain ⟨f5, i5⟩ := HH.out.whole hm hc0 hcu TF.out.1 TF.out.2 UX.out
            have I5 := Lib.hid i5
            clear hm i5 HH OF p0 p1 p2 p3 n0 n1 n2 n3 m0 m1 m2 m3 c1
            have WT := Lib.hid (Waiting_mv lb lb room c oq u w5 f5 I5.out.lk)
            go_wp2_with fail
            refine WT.out.mono ?_
            rintro e w6 ⟨rfl, b6⟩
            have I6 := Lib.hid (I5.out.below b6)
            clear b6 WT I5
            obtain ⟨y0, y1, y2, y3⟩ := I6.out.y.cells
            go_wp2_with fail
            go_roundw
            case rel => exact ⟨k + 1, oq, u, c, f5, _, _, by omega, by go_num, I6⟩
            case measure => simp [intOf]; omega
        · have t0 : ((kk : Int) % 3 == 0) = false := by simp; omega
          have t1 : ((kk : Int) % 3 == 1) = true := by simp; omega
          clear h3
          obtain ⟨qa, qc, eqv, _⟩ := I.out.qs.form
          obtain ⟨ua, uc, euv, _⟩ := I.out.us.form
          subst eqv euv
          obtain ⟨sc, hsc⟩ : ∃ x, sndC c q = x := ⟨_, rfl⟩
          obtain ⟨sb, hsb⟩ : ∃ x, sndB c q = x := ⟨_, rfl⟩
          obtain ⟨sq, hsq⟩ : ∃ x, sndQ c q = x := ⟨_, rfl⟩
          obtain ⟨su, hsu⟩ : ∃ x, sndU c q u ff = x := ⟨_, rfl⟩
          have hxq : ∀ x ∈ q, x.length ≤ 1000000 := fun x hx => by have := I.out.xq x hx; omega
          have RO := Lib.hid (fun (W : World) (k : Below wr.heap.size wr W) => refSend_said (fun b => Ap lb yb f b ∧ b < wr.heap.size) (fun b => Ap lb yb f b ∧ b < wr.heap.size) room c (.slice qa q.length qc) (.slice ua u.length uc) (.slice fa fn fc) q u ff W ((I.out.qs.mono fun b hb ha => ⟨ha, hb⟩).below k) ((I.out.us.mono fun b hb ha => ⟨ha, hb⟩).below k) ((FL.below KW).below k) (by omega) (by omega) (by omega) hxq hxf hsc hsb hsq hsu)
          have OF : Hid (∀ (W : World) (f : Nat → Value), LkW lb W lb room c q u f → Below lb w W → Calls Try.prog 36 #[.pointer (some ⟨lb, 0, none⟩), .slice fa fn fc] W fun e w' => e = .returned (.bool sb) ∧ Moved lb lb W f room sc sq su w') := Lib.hid (fun W f h hb => by
            subst hsc hsb hsq hsu
            have hws := hb.size
            exact Send_all lb lb room c q u _ ff W f h (by omega) (by omega) (by omega) hxq (FL.blocks fun b hb' => hb.block b (by omega)) hxf (fun W2 k2 => FL.blocks fun b hb' => (k2 b (by omega) (fun hl => by have := h.ge b hl; omega)).trans (hb.block b (by omega))))
          have TF : Hid (0 ≤ sc ∧ (su.length : Int) + sc = cr ∧ (sq.length : Int) ≤ room ∧ (∀ x ∈ sq, x.length ≤ 16404) ∧ ∀ x ∈ su, x.length ≤ 16404) := Lib.hid (by subst hsc hsb hsq hsu; exact snd_fits hc0 hcu hq I.out.xq I.out.xu)
          clear hsc hsb hsq hsu hxq hxf
          have y0 := I.out.y.cells.1
          have y1 := I.out.y.cells.2.1
          have y2 := I.out.y.cells.2.2.1
          have y3 := I.out.y.cells.2.2.2
          have YB := Lib.hid (fun (W : World) (k : Below wr.heap.size wr W) => (I.out.y.below k).cells)
          have z0 := fun o => (YB.out _ (Below.alloc (Below.refl _ _) (Nat.le_refl _) o)).1
          have z1 := fun o => (YB.out _ (Below.alloc (Below.refl _ _) (Nat.le_refl _) o)).2.1
          have z2 := fun o => (YB.out _ (Below.alloc (Below.refl _ _) (Nat.le_refl _) o)).2.2.1
          have z3 := fun o => (YB.out _ (Below.alloc (Below.refl _ _) (Nat.le_refl _) o)).2.2.2
          have c1 := bc KW e2
          have zx := fun o => bc (Below.up KW (Below.alloc (Below.refl wr.heap.size wr) (Nat.le_refl _) o)) e2
          have hby : b ≠ yb := by have := cell_lt e2; have := I.out.yB; omega
          clear e1 e2 FL YB
          go_wp2_with fail
          go_cut [14, 15] from 49 to 152 (fun s0 s1 W => ∃ (g : Nat) (a7 : Option Addr) (k7 : Nat) (a8 : Option Addr) (k8 : Nat), s0 = .pointer (some ⟨g, 0, none⟩) ∧ s1 = .bool sb ∧ Hid (ZM lb yb room sc sq su f wr W g (.slice a7 sq.length k7) (.slice a8 su.length k8)))
          case first =>
            rename_i hJ hK
            clear c0
            have ZD := Lib.hid ((YAt.fresh wr 0 0 (.slice none 0 0) (.slice none 0 0)).below (Below.refl _ _).drew)
            have BD : Hid (Below wr.heap.size wr (wr.alloc (.cells #[.int .i64 0, .int .i64 0, .slice none 0 0, .slice none 0 0] 65)).drew) := Lib.hid (Below.alloc (Below.refl _ _) (Nat.le_refl _) _).drew
            have BD1 : Hid (Below wr.heap.size wr wr.drew) := Lib.hid (Below.refl _ _).drew
            have SZ : Hid ((wr.alloc (.cells #[.int .i64 0, .int .i64 0, .slice none 0 0, .slice none 0 0] 65)).drew.heap.size = wr.heap.size + 1) := Lib.hid (by simp)
            have SZ1 : Hid (wr.drew.heap.size = wr.heap.size) := Lib.hid (by simp)
            go_region_law
              (first
                | (refine step_at (Eq.refl true) ?_; go_simp; go_at_call 35; ((with_reducible refine (RO.out wr.drew BD1.out).mono ?_); rintro e w7 ⟨q2, u2, rfl, hq7, hu7, b7⟩; obtain ⟨a7, k7, e7, _⟩ := hq7.form; obtain ⟨a8, k8, e8, _⟩ := hu7.form; subst e7 e8; have B7 := Lib.hid (Below.up BD1.out b7); have LF := Lib.hid (ZM.after (room := room) (c := sc) B7.out (hq7.mono fun b _ h => .inr h.1) (hu7.mono fun b _ h => h.elim (fun h => .inl (by rw [SZ1.out] at h; exact h)) (fun h => .inr h.1))); obtain ⟨f0, f1, f2, f3⟩ := (YAt.fresh w7 0 0 (.slice none 0 0) (.slice none 0 0)).frozens; clear hq7 hu7 b7))
                | (refine step_at (Eq.refl true) ?_; go_simp; go_at_call 35; ((with_reducible refine (RO.out (wr.alloc (.cells #[.int .i64 0, .int .i64 0, .slice none 0 0, .slice none 0 0] 65)).drew BD.out).mono ?_); rintro e w7 ⟨q2, u2, rfl, hq7, hu7, b7⟩; obtain ⟨a7, k7, e7, _⟩ := hq7.form; obtain ⟨a8, k8, e8, _⟩ := hu7.form; subst e7 e8; have B7 := Lib.hid (Below.up BD.out b7); have Z7 := Lib.hid (ZD.out.below b7); have LF := Lib.hid (ZM.before (room := room) (c := sc) Z7.out (Nat.le_refl _) B7.out (hq7.mono fun b _ h => ⟨by have := h.2; omega, .inr h.1⟩) (hu7.mono fun b _ h => h.elim (fun h => by rw [SZ.out] at h; exact ⟨by omega, .inl (by omega)⟩) (fun h => ⟨by have := h.2; omega, .inr h.1⟩))); obtain ⟨f0, f1, f2, f3⟩ := Z7.out.frozens; obtain ⟨d0, d1, d2, d3⟩ := Z7.out.cells; clear hq7 hu7 b7)))
            all_goals
              refine hK _ _ (Met.intro (hJ _ _ ?_))
              (repeat apply Exists.intro)
              refine ⟨?_, rfl⟩
              exact ⟨_, _, _, _, _, rfl, rfl, LF⟩
          case rest =>
            obtain ⟨g, a7, k7, a8, k8, rfl, rfl, Z⟩ := hcut
            have HH := Lib.hid (I.out.half Z.out.b sc Z.out.qs Z.out.us)
            obtain ⟨p0, p1, p2, p3⟩ := Z.out.z.cells
            obtain ⟨n0, n1, n2, n3⟩ := (I.out.y.below Z.out.b).frozens
            obtain ⟨m0, m1, m2, m3⟩ := (I.out.y.below Z.out.b).cells
            have c1 := (World.cell?_of_block (ySet_other wc yb room sc (.slice a7 sq.length k7) (.slice a8 su.length k8) hby)).trans (bc Z.out.b c1)
            unfold ySet at c1
            have ol : sq.length ≤ 256 ∧ su.length ≤ 256 ∧ sc ≤ 256 := by have := TF.out; omega
            obtain ⟨ol, ul, cl⟩ := ol
            clear I Z RO y0 y1 y2 y3 z0 z1 z2 z3 zx c0
            go_wp2_with fail
            refine (OF.out _ _ HH.out.lk HH.out.bl).mono ?_
            rintro e w5 ⟨rfl, hm⟩
            obtain ⟨f5, i5⟩ := HH.out.whole hm TF.out.1 TF.out.2.1 TF.out.2.2.1 TF.out.2.2.2.1 TF.out.2.2.2.2
            have I5 := Lib.hid i5
            clear hm i5 HH OF p0 p1 p2 p3 n0 n1 n2 n3 m0 m1 m2 m3 c1
            have WT := Lib.hid (Waiting_mv lb lb room sc sq su w5 f5 I5.out.lk)
            go_wp2_with fail
            refine WT.out.mono ?_
            rintro e w6 ⟨rfl, b6⟩
            have I6 := Lib.hid (I5.out.below b6)
            clear b6 WT I5
            obtain ⟨y0, y1, y2, y3⟩ := I6.out.y.cells
            go_wp2_with fail
            go_roundw
            case rel => exact ⟨k + 1, sq, su, sc, f5, _, _, by omega, by go_num, I6⟩
            case measure => simp [intOf]; omega
        · have t0 : ((kk : Int) % 3 == 0) = false := by simp; omega
          have t1 : ((kk : Int) % 3 == 1) = false := by simp; omega
          clear h3
          obtain ⟨qa, qc, eqv, _⟩ := I.out.qs.form
          obtain ⟨ua, uc, euv, _⟩ := I.out.us.form
          subst eqv euv
          have RT := Lib.hid (refTake_all (Ap lb yb f) room c (.slice qa q.length qc) _ u wr ⟨_, _, _, rfl⟩ I.out.us (by omega) (by omega))
          have TK := Lib.hid (fun (W : World) (h : LkW lb W lb room c q u f) => Take_all lb lb room c q u W f h (by omega) (by omega))
          have TF := Lib.hid (tk_fits hc0 hcu I.out.xu)
          have QX := Lib.hid I.out.xq
          have hql : q.length ≤ 256 := by omega
          obtain ⟨y0, y1, y2, y3⟩ := I.out.y.cells
          go_wp2_with fail
          refine RT.out.mono ?_
          rintro e w3 ⟨u2, rfl, hu2, b3⟩
          clear RT y0 y1 y2 y3
          have I3 := Lib.hid (fun ct u2 ut (h : StS (Ap lb yb f) w3 u2 ut) (W : World) (k : Below w3.heap.size w3 W) => I.out.half (Below.up b3 k) (q' := q) (u' := ut) ct ((I.out.qs.below (Below.up b3 k)).mono fun b _ h => .inr h) ((h.below k).mono fun b _ h => .inr h))
          have Y3 := Lib.hid (I.out.y.below b3)
          clear I b3 c0 e1 e2 FL
          generalize str (u.headD []) = hd at *
          generalize (!u.isEmpty) = ie at *
          generalize tkC c u = ct at *
          generalize u.tail = ut at *
          clear hcu hc0
          obtain ⟨a2, k2, e2, _⟩ := hu2.form
          subst e2
          have TL : ut.length ≤ 256 ∧ 0 ≤ ct ∧ ct ≤ 256 := by have := TF.out; omega
          obtain ⟨tl, tc0, tc1⟩ := TL
          have HH := Lib.hid (I3.out ct _ ut hu2 _ (Below.alloc (Below.refl _ _) (Nat.le_refl _) (.cells #[.int .i64 room, .int .i64 ct, .slice qa q.length qc, .slice a2 ut.length k2] 65)))
          obtain ⟨g0, g1, g2, g3⟩ := (YAt.fresh w3 0 0 (.slice none 0 0) (.slice none 0 0)).frozens
          obtain ⟨p0, p1, p2, p3⟩ := (YAt.fresh w3 room ct (.slice qa q.length qc) (.slice a2 ut.length k2)).cells
          obtain ⟨n0, n1, n2, n3⟩ := (Y3.out.below (Below.alloc (Below.refl _ _) (Nat.le_refl _) (.cells #[.int .i64 room, .int .i64 ct, .slice qa q.length qc, .slice a2 ut.length k2] 65))).frozens
          obtain ⟨m0, m1, m2, m3⟩ := (Y3.out.below (Below.alloc (Below.refl _ _) (Nat.le_refl _) (.cells #[.int .i64 room, .int .i64 ct, .slice qa q.length qc, .slice a2 ut.length k2] 65))).cells
          clear I3 hu2
          go_wp2_with fail
          refine (TK.out _ HH.out.lk).mono ?_
          rintro e w5 ⟨rfl, hm⟩
          obtain ⟨f5, i5⟩ := HH.out.whole hm TF.out.1 TF.out.2.1 hq QX.out TF.out.2.2
          have I5 := Lib.hid i5
          clear hm i5 HH TK g0 g1 g2 g3 p0 p1 p2 p3 n0 n1 n2 n3 m0 m1 m2 m3
          have WT := Lib.hid (Waiting_mv lb lb room ct q ut w5 f5 I5.out.lk)
          go_wp2_with fail
          refine WT.out.mono ?_
          rintro e w6 ⟨rfl, b6⟩
          have I6 := Lib.hid (I5.out.below b6)
          clear b6 WT I5
          obtain ⟨y0, y1, y2, y3⟩ := I6.out.y.cells
          go_wp2_with fail
          go_roundw
          case rel => exact ⟨k + 1, q, ut, ct, f5, _, _, by omega, by go_num, I6⟩
          case measure => simp [intOf]; omega
      · have i0 : ¬ k < l.length := hlt
        go_wp2_with fail
        refine (AW.out _).mono ?_
        rintro e w4 ⟨rfl, b4⟩
        go_wp2_with fail
        go_ret
        exact ⟨rfl, by rw [hLB]; exact I.out.bl.trans (b4.mono (by have := I.out.lk.hB; have := I.out.lk.rf.lt; omega))⟩
end Go.Proofs.Ytanillahofohgaa
