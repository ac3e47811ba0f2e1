/- Layer 5: the law ReadoutFlows. -/
import Derived.Test.YtanillahofohgaaReN
import Derived.Test.YtanillahofohgaaRaS
set_option linter.unusedVariables false
set_option linter.unusedSimpArgs false
set_option maxRecDepth 100000
namespace Go.Proofs.Ytanillahofohgaa
open Go.RowKit

set_option maxHeartbeats 12800000 in
theorem flows_any (room cr : Int) (v : Value) (l : List Ac) (w : World) (h : AcS w v l) (hr : I64 room) (hc : I64 cr) :
    Calls Try.prog 10 #[.int .i64 room, .int .i64 cr, v] w fun e w' => e = .returned (.bool true) ∧ Below w.heap.size w w' := by
  have H := Lib.hid h
  have AW := Lib.hid awake_any
  obtain ⟨hl, hx⟩ := h.bd
  have HX := Lib.hid hx
  obtain ⟨a, ca, rfl, _⟩ := h.form
  clear h hx
  cases hok : newOk room cr with
  | false =>
    have NL := Lib.hid (NewLink_no room cr w hok)
    have GR := Lib.hid (great_any _ l w H.out)
    clear hok
    go_enter Try.func10, Try.ntmps10
    go_wp2_with fail
    refine NL.out.mono ?_
    rintro e w1 ⟨rfl, rfl⟩
    go_wp2_with fail
    refine GR.out.mono ?_
    rintro e w1 ⟨⟨b, rfl, -⟩, rfl⟩
    cases b
    iterate 2
      · go_wp2_with fail
        refine (AW.out _).mono ?_
        rintro e w2 ⟨rfl, b2⟩
        go_wp2_with fail
        go_ret
        exact ⟨rfl, b2⟩
  | true =>
    have hbd : (1 ≤ room ∧ room ≤ 256) ∧ (1 ≤ cr ∧ cr ≤ 256) := by
      unfold newOk at hok
      rw [Bool.and_eq_true] at hok
      exact ⟨inB_true.1 hok.1, inB_true.1 hok.2⟩
    obtain ⟨⟨r1, r2⟩, s1, s2⟩ := hbd
    have NL := Lib.hid (NewLink_yes room cr w hok)
    clear hok
    go_enter Try.func10, Try.ntmps10
    go_wp2_with fail
    refine NL.out.mono ?_
    rintro e w1 ⟨rfl, ⟨f1, h1⟩, b1⟩
    have GR := Lib.hid (great_any _ l w1 (H.out.below b1))
    have I1 : Hid (FlowI w.heap.size w.heap.size room cr w w1 (.slice none 0 0) (.slice none 0 0) [] [] [] [] cr f1 0) := Lib.hid ⟨h1, So.nil _ _, So.nil _ _, (fun g e => by cases e), (fun g e => by cases e), (fun g e => by cases e), rfl, by omega, by simp, by simp; omega, Nat.le_refl _, b1, fun x hx => by cases hx⟩
    have B1 := Lib.hid b1
    clear h1 b1 NL
    go_wp2_with fail
    refine GR.out.mono ?_
    rintro e w2 ⟨⟨b, rfl, hb⟩, rfl⟩
    cases b with
    | true =>
      go_wp2_with fail
      refine (AW.out _).mono ?_
      rintro e w2 ⟨rfl, b2⟩
      go_wp2_with fail
      go_ret
      exact ⟨rfl, Below.up B1.out b2⟩
    | false =>
      have hl2 := hb rfl
      clear hb GR hl
      generalize hLB : w.heap.size = lb at *
      go_wp2_with fail
      go_loopw [9, 10, 11] (fun vi vo i wr => ∃ (k : Nat) (q u li lo : Strs) (c : Int) (f : Nat → Value), k ≤ l.length ∧ i = .int .i64 k ∧ Hid (FlowI lb lb room cr w wr vi vo q u li lo c f k)) (fun _ _ i _ => l.length - (intOf i).toNat)
      case atStart => exact ⟨0, [], [], [], [], cr, f1, Nat.zero_le _, rfl, I1⟩
      case round =>
        obtain ⟨k, q, u, li, lo, c, f, hk, rfl, FI⟩ := hrel
        by_cases hlt : k < l.length
        · have i0 : (k : Int) < (l.length : Int) := by omega
          obtain ⟨b, off, rfl, x, n, cc, e0, e1, e2, -⟩ := H.out.at hlt
          have KW : Below w.heap.size w wr := by rw [hLB]; exact FI.out.bl
          have c0 := bc KW e0
          have c1 := bc KW e1
          have CE := Lib.hid (fun W (hb : Below lb w W) => bc (show Below w.heap.size w W by rw [hLB]; exact hb) e1)
          have hx := (HX.out _ (List.getElem_mem hlt)).1
          have hq := FI.out.qr
          have hcu := FI.out.cu
          have hc0 := FI.out.c0
          have hle := FI.out.le
          have HEQ := Lib.hid FI.out.eq
          have HXS := Lib.hid FI.out.xs
          have hlo : li.length = lo.length + (u.length + q.length) := by rw [HEQ.out]; simp
          clear e0 e1 e2 KW
          generalize (l[k]).k = kk at *
          generalize (l[k]).s = ss at *
          generalize (l[k]).fl = ff at *
          have hm3 : kk % 3 = 0 ∨ kk % 3 = 1 ∨ kk % 3 = 2 := by omega
          rcases hm3 with h3 | h3 | h3
          · have t0 : ((kk : Int) % 3 == 0) = true := by simp; omega
            clear h3
            have OF := Lib.hid (Offer_mv lb lb room c q u ss wr f FI.out.lk r2 (by omega))
            by_cases hof : offC room q ss = 0
            · obtain ⟨z1, z2⟩ := offC_zero hof
              rw [hof, offQ_of.1 hof] at OF
              clear hof
              go_wp2_with fail
              refine OF.out.mono ?_
              rintro e w3 ⟨rfl, f3, h3, m3, b3⟩
              have P3 := Lib.hid (FI.out.put.moved h3 m3 b3)
              have d1 := CE.out w3 P3.out.bl
              clear h3 m3 b3 OF c0 c1
              have kA : Below w3.heap.size w3 (w3.alloc (.cells #[.string (str ss)] 9)) := Below.alloc (Below.refl _ _) (Nat.le_refl _) _
              have P4 := Lib.hid (P3.out.below kA)
              have hB4 : lb ≤ (w3.alloc (.cells #[.string (str ss)] 9)).heap.size := by have := P4.out.lk.hB; have := P4.out.lk.rf.lt; omega
              have HB4 := Lib.hid hB4
              clear kA hB4
              go_wp2_with (at_builtin; refine append_str1 rfl _ _ rfl rfl P4.out.si w3.heap.size ss rfl (new_one _ _ _) (by omega) HB4.out ?_)
              intro v5 w5 h5 g5 l5
              have P5 := Lib.hid (P4.out.addI h5 g5 (by simpa using l5))
              clear h5 g5 l5 HB4
              have F5 := Lib.hid (P5.out.flow (k := k + 1) (cr := cr) (by rw [HEQ.out]; simp) hc0 hcu (by simp; omega) (by simp; omega) (fun y hy => by rcases List.mem_append.1 hy with hy | hy; exact HXS.out y hy; rw [List.mem_singleton.1 hy]; exact z1))
              clear P3 P4 P5 d1 z2 FI HEQ HXS hq hcu hc0 hle hx hlo
              generalize li ++ [ss] = li5 at *
              generalize q ++ [ss] = q5 at *
              obtain ⟨ai, ki, ei, _⟩ := F5.out.si.form
              obtain ⟨ao, ko, eo, _⟩ := F5.out.so.form
              subst ei eo
              have cu := F5.out.cu
              have qr := F5.out.qr
              have c00 := F5.out.c0
              have le := F5.out.le
              have eqn : li5.length = lo.length + (u.length + q5.length) := by rw [F5.out.eq]; simp
              have t3 : ¬ room < (q5.length : Int) := by omega
              have t4 : (((u.length : Nat) : Int) + c != cr) = false := by simp; omega
              have t5 : (((li5.length : Nat) : Int) != ((lo.length : Nat) : Int) + ((q5.length : Nat) : Int) + ((u.length : Nat) : Int)) = false := by simp; omega
              have WT := Lib.hid (Waiting_mv lb lb room c q5 u w5 f3 F5.out.lk)
              have b1 : c ≤ 256 ∧ (q5.length : Int) ≤ 256 ∧ (u.length : Int) ≤ 256 ∧ (li5.length : Int) ≤ 300 ∧ (lo.length : Int) ≤ 300 := by omega
              obtain ⟨b0, b1, b2, b3, b4⟩ := b1
              clear cu qr le eqn
              go_wp2_with fail
              refine WT.out.mono ?_
              rintro e wz ⟨rfl, bz⟩
              have FZ := Lib.hid (F5.out.below bz)
              clear bz WT
              go_wp2_with fail
              try any_goals (exfalso; omega)
              go_roundw
              case rel => exact ⟨k + 1, q5, u, li5, lo, c, f3, by omega, by go_num, FZ⟩
              case measure => simp [intOf]; omega
            · rw [offQ_of.2 hof] at OF
              have t1 : (offC room q ss == 0) = false := by simpa using hof
              generalize offC room q ss = oc at *
              go_wp2_with fail
              refine OF.out.mono ?_
              rintro e w3 ⟨rfl, f3, h3, m3, b3⟩
              have F3 := Lib.hid ((FI.out.moved h3 m3 b3 rfl rfl HEQ.out hc0 hcu hq HXS.out).next)
              clear h3 m3 b3 OF FI c0 c1 hof
              obtain ⟨ai, ki, ei, _⟩ := F3.out.si.form
              obtain ⟨ao, ko, eo, _⟩ := F3.out.so.form
              subst ei eo
              clear hx hq hcu hc0 hle HEQ HXS hlo
              have cu := F3.out.cu
              have qr := F3.out.qr
              have c00 := F3.out.c0
              have le := F3.out.le
              have eqn : li.length = lo.length + (u.length + q.length) := by rw [F3.out.eq]; simp
              have t3 : ¬ room < (q.length : Int) := by omega
              have t4 : (((u.length : Nat) : Int) + c != cr) = false := by simp; omega
              have t5 : (((li.length : Nat) : Int) != ((lo.length : Nat) : Int) + ((q.length : Nat) : Int) + ((u.length : Nat) : Int)) = false := by simp; omega
              have WT := Lib.hid (Waiting_mv lb lb room c q u w3 f3 F3.out.lk)
              have b1 : c ≤ 256 ∧ (q.length : Int) ≤ 256 ∧ (u.length : Int) ≤ 256 ∧ (li.length : Int) ≤ 300 ∧ (lo.length : Int) ≤ 300 := by omega
              obtain ⟨b0, b1, b2, b3, b4⟩ := b1
              clear cu qr le eqn
              go_wp2_with fail
              refine WT.out.mono ?_
              rintro e wz ⟨rfl, bz⟩
              have FZ := Lib.hid (F3.out.below bz)
              clear bz WT
              go_wp2_with fail
              try any_goals (exfalso; omega)
              go_roundw
              case rel => exact ⟨k + 1, q, u, li, lo, c, f3, by omega, by go_num, FZ⟩
              case measure => simp [intOf]; omega
          · have t0 : ((kk : Int) % 3 == 0) = false := by simp; omega
            have t1 : ((kk : Int) % 3 == 1) = true := by simp; omega
            clear h3
            cases hs : sndB c q with
            | false =>
              have SN := Lib.hid (Send_no lb lb room c q u (.slice none 0 0) wr ⟨f, FI.out.lk⟩ hs (by omega) ⟨none, 0, 0, rfl⟩)
              have F3 := Lib.hid FI.out.next
              clear FI hx hq hcu hc0 hle HEQ HXS hlo hs
              go_wp2_with fail
              refine SN.out.mono ?_
              rintro e w3 ⟨rfl, rfl⟩
              clear SN c0 c1
              obtain ⟨ai, ki, ei, _⟩ := F3.out.si.form
              obtain ⟨ao, ko, eo, _⟩ := F3.out.so.form
              subst ei eo
              have cu := F3.out.cu
              have qr := F3.out.qr
              have c00 := F3.out.c0
              have le := F3.out.le
              have eqn : li.length = lo.length + (u.length + q.length) := by rw [F3.out.eq]; simp
              have t3 : ¬ room < (q.length : Int) := by omega
              have t4 : (((u.length : Nat) : Int) + c != cr) = false := by simp; omega
              have t5 : (((li.length : Nat) : Int) != ((lo.length : Nat) : Int) + ((q.length : Nat) : Int) + ((u.length : Nat) : Int)) = false := by simp; omega
              have WT := Lib.hid (Waiting_mv lb lb room c q u wr f F3.out.lk)
              have b1 : c ≤ 256 ∧ (q.length : Int) ≤ 256 ∧ (u.length : Int) ≤ 256 ∧ (li.length : Int) ≤ 300 ∧ (lo.length : Int) ≤ 300 := by omega
              obtain ⟨b0, b1, b2, b3, b4⟩ := b1
              clear cu qr le eqn
              go_wp2_with fail
              refine WT.out.mono ?_
              rintro e wz ⟨rfl, bz⟩
              have FZ := Lib.hid (F3.out.below bz)
              clear bz WT
              go_wp2_with fail
              try any_goals (exfalso; omega)
              go_roundw
              case rel => exact ⟨k + 1, q, u, li, lo, c, f, by omega, by go_num, FZ⟩
              case measure => simp [intOf]; omega
            | true =>
              obtain ⟨x0, q', rfl⟩ : ∃ x0 q', q = x0 :: q' := by
                cases q with
                | nil => simp [sndB] at hs
                | cons x0 q' => exact ⟨x0, q', rfl⟩
              have hcp : 1 ≤ c := by
                have : c ≠ 0 := by simpa [sndB] using hs
                omega
              have hqq : (q'.length : Int) + 1 ≤ room := by simpa using hq
              have hbw : lb ≤ wr.heap.size := by have := FI.out.lk.hB; have := FI.out.lk.rf.lt; omega
              have SN := Lib.hid (Send_mv lb lb room c x0 q' u (.slice none 0 0) [] wr f FI.out.lk (by omega) (by omega) (by omega) (by have := HXS.out x0 (by simp); omega) (InS.nil _) (by decide) hbw (fun W _ => InS.nil W))
              rw [show flL x0 [] = x0 from rfl] at SN
              go_wp2_with fail
              refine SN.out.mono ?_
              rintro e w3 ⟨rfl, f3, h3, m3, b3⟩
              have F3 := Lib.hid ((FI.out.moved h3 m3 b3 rfl rfl (by rw [HEQ.out]; simp) (by omega) (by simp; omega) (by omega) (fun y hy => HXS.out y (by simp [hy]))).next)
              clear h3 m3 b3 SN FI c0 c1 hs hx hq hcu hc0 hle HEQ HXS hlo hcp hqq
              generalize u ++ [x0] = u3 at *
              generalize c - 1 = c3 at *
              obtain ⟨ai, ki, ei, _⟩ := F3.out.si.form
              obtain ⟨ao, ko, eo, _⟩ := F3.out.so.form
              subst ei eo
              have cu := F3.out.cu
              have qr := F3.out.qr
              have c00 := F3.out.c0
              have le := F3.out.le
              have eqn : li.length = lo.length + (u3.length + q'.length) := by rw [F3.out.eq]; simp
              have t3 : ¬ room < (q'.length : Int) := by omega
              have t4 : (((u3.length : Nat) : Int) + c3 != cr) = false := by simp; omega
              have t5 : (((li.length : Nat) : Int) != ((lo.length : Nat) : Int) + ((q'.length : Nat) : Int) + ((u3.length : Nat) : Int)) = false := by simp; omega
              have WT := Lib.hid (Waiting_mv lb lb room c3 q' u3 w3 f3 F3.out.lk)
              have b1 : c3 ≤ 256 ∧ (q'.length : Int) ≤ 256 ∧ (u3.length : Int) ≤ 256 ∧ (li.length : Int) ≤ 300 ∧ (lo.length : Int) ≤ 300 := by omega
              obtain ⟨b0, b1, b2, b3, b4⟩ := b1
              clear cu qr le eqn
              go_wp2_with fail
              refine WT.out.mono ?_
              rintro e wz ⟨rfl, bz⟩
              have FZ := Lib.hid (F3.out.below bz)
              clear bz WT
              go_wp2_with fail
              try any_goals (exfalso; omega)
              go_roundw
              case rel => exact ⟨k + 1, q', u3, li, lo, c3, f3, by omega, by go_num, FZ⟩
              case measure => simp [intOf]; omega
          · have t0 : ((kk : Int) % 3 == 0) = false := by simp; omega
            have t1 : ((kk : Int) % 3 == 1) = false := by simp; omega
            clear h3
            cases u with
            | nil =>
              have TN := Lib.hid (Take_no lb lb room c q wr ⟨f, FI.out.lk⟩)
              have F3 := Lib.hid FI.out.next
              clear FI hx hq hcu hc0 hle HEQ HXS hlo
              go_wp2_with fail
              refine TN.out.mono ?_
              rintro e w3 ⟨rfl, rfl⟩
              clear TN c0 c1
              obtain ⟨u3, hu3⟩ : ∃ u3 : Strs, u3 = [] := ⟨_, rfl⟩
              rw [← hu3] at F3
              clear hu3
              obtain ⟨ai, ki, ei, _⟩ := F3.out.si.form
              obtain ⟨ao, ko, eo, _⟩ := F3.out.so.form
              subst ei eo
              have cu := F3.out.cu
              have qr := F3.out.qr
              have c00 := F3.out.c0
              have le := F3.out.le
              have eqn : li.length = lo.length + (u3.length + q.length) := by rw [F3.out.eq]; simp
              have t3 : ¬ room < (q.length : Int) := by omega
              have t4 : (((u3.length : Nat) : Int) + c != cr) = false := by simp; omega
              have t5 : (((li.length : Nat) : Int) != ((lo.length : Nat) : Int) + ((q.length : Nat) : Int) + ((u3.length : Nat) : Int)) = false := by simp; omega
              have WT := Lib.hid (Waiting_mv lb lb room c q u3 wr f F3.out.lk)
              have b1 : c ≤ 256 ∧ (q.length : Int) ≤ 256 ∧ (u3.length : Int) ≤ 256 ∧ (li.length : Int) ≤ 300 ∧ (lo.length : Int) ≤ 300 := by omega
              obtain ⟨b0, b1, b2, b3, b4⟩ := b1
              clear cu qr le eqn
              go_wp2_with fail
              refine WT.out.mono ?_
              rintro e wz ⟨rfl, bz⟩
              have FZ := Lib.hid (F3.out.below bz)
              clear bz WT
              go_wp2_with fail
              try any_goals (exfalso; omega)
              go_roundw
              case rel => exact ⟨k + 1, q, u3, li, lo, c, f, by omega, by go_num, FZ⟩
              case measure => simp [intOf]; omega
            | cons x0 u' =>
              have huu : (u'.length : Int) + 1 + c = cr := by simpa using hcu
              have TN := Lib.hid (Take_mv lb lb room c x0 q u' wr f FI.out.lk (by omega) (by omega))
              go_wp2_with fail
              refine TN.out.mono ?_
              rintro e w3 ⟨rfl, f3, h3, m3, b3⟩
              have P3 := Lib.hid (FI.out.put.moved h3 m3 b3)
              have hlo5 : lo.length ≤ 1000 := by omega
              clear h3 m3 b3 TN c0 c1
              have kA : Below w3.heap.size w3 (w3.alloc (.cells #[.string (str x0)] 9)) := Below.alloc (Below.refl _ _) (Nat.le_refl _) _
              have P4 := Lib.hid (P3.out.below kA)
              have hB4 : lb ≤ (w3.alloc (.cells #[.string (str x0)] 9)).heap.size := by have := P4.out.lk.hB; have := P4.out.lk.rf.lt; omega
              have HB4 := Lib.hid hB4
              clear kA hB4
              go_wp2_with (at_builtin; refine append_str1 rfl _ _ rfl rfl P4.out.so w3.heap.size x0 rfl (new_one _ _ _) (by omega) HB4.out ?_)
              intro v5 w5 h5 g5 l5
              have P5 := Lib.hid (P4.out.addO h5 g5 (by simpa using l5))
              clear h5 g5 l5 HB4
              have F5 := Lib.hid (P5.out.flow (k := k + 1) (cr := cr) (by rw [HEQ.out]; simp) (by omega) (by omega) hq (by omega) HXS.out)
              clear P3 P4 P5 FI HEQ HXS hq hcu hc0 hle hx hlo huu hlo5
              generalize lo ++ [x0] = lo5 at *
              generalize c + 1 = c3 at *
              obtain ⟨ai, ki, ei, _⟩ := F5.out.si.form
              obtain ⟨ao, ko, eo, _⟩ := F5.out.so.form
              subst ei eo
              have cu := F5.out.cu
              have qr := F5.out.qr
              have c00 := F5.out.c0
              have le := F5.out.le
              have eqn : li.length = lo5.length + (u'.length + q.length) := by rw [F5.out.eq]; simp
              have t3 : ¬ room < (q.length : Int) := by omega
              have t4 : (((u'.length : Nat) : Int) + c3 != cr) = false := by simp; omega
              have t5 : (((li.length : Nat) : Int) != ((lo5.length : Nat) : Int) + ((q.length : Nat) : Int) + ((u'.length : Nat) : Int)) = false := by simp; omega
              have WT := Lib.hid (Waiting_mv lb lb room c3 q u' w5 f3 F5.out.lk)
              have b1 : c3 ≤ 256 ∧ (q.length : Int) ≤ 256 ∧ (u'.length : Int) ≤ 256 ∧ (li.length : Int) ≤ 300 ∧ (lo5.length : Int) ≤ 300 := by omega
              obtain ⟨b0, b1, b2, b3, b4⟩ := b1
              clear cu qr le eqn
              go_wp2_with fail
              refine WT.out.mono ?_
              rintro e wz ⟨rfl, bz⟩
              have FZ := Lib.hid (F5.out.below bz)
              clear bz WT
              go_wp2_with fail
              try any_goals (exfalso; omega)
              go_roundw
              case rel => exact ⟨k + 1, q, u', li, lo5, c3, f3, by omega, by go_num, FZ⟩
              case measure => simp [intOf]; omega
        · have i0 : ¬ (k : Int) < (l.length : Int) := by omega
          have hle := FI.out.le
          have heq := FI.out.eq
          have hll : lo.length ≤ li.length := by rw [heq]; simp
          have HEQ := Lib.hid heq
          have BL := Lib.hid FI.out.bl
          have SI := Lib.hid FI.out.si
          have SO := Lib.hid FI.out.so
          clear heq FI
          obtain ⟨ai, ki, ei, _⟩ := SI.out.form
          obtain ⟨ao, ko, eo, _⟩ := SO.out.form
          subst ei eo
          obtain ⟨wo, rfl⟩ : ∃ wo : World, wo = wr := ⟨_, rfl⟩
          go_wp2_with fail
          go_loopw [17] (fun i wr => ∃ j : Nat, j ≤ lo.length ∧ i = .int .i64 j ∧ Hid (Below wo.heap.size wo wr)) (fun i _ => lo.length - (intOf i).toNat)
          case atStart => exact ⟨0, Nat.zero_le _, rfl, Lib.hid (Below.refl _ _)⟩
          case round =>
            obtain ⟨j, hj, rfl, BW⟩ := hrel
            by_cases hjl : j < lo.length
            · have j0 : (j : Int) < (lo.length : Int) := by omega
              have j1 : (j : Int) < (li.length : Int) := by omega
              obtain ⟨g1, k1, e1, d1⟩ := (SO.out.below BW.out).at hjl
              obtain ⟨g2, k2, e2, d2⟩ := (SI.out.below BW.out).at (Nat.lt_of_lt_of_le hjl hll)
              have hel : li[j]'(Nat.lt_of_lt_of_le hjl hll) = lo[j] := (List.getElem_of_eq HEQ.out _).trans (List.getElem_append_left hjl)
              rw [hel] at d2
              cases e1
              cases e2
              clear hel
              generalize lo[j] = sj at *
              go_wp2_with fail
              go_quiet (fail)
              go_wp2_with fail
              go_roundw
              case rel => exact ⟨j + 1, by omega, by go_num, Lib.hid (Below.drewN BW.out _)⟩
              case measure => simp [intOf]; omega
            · have j0 : ¬ (j : Int) < (lo.length : Int) := by omega
              go_wp2_with fail
              refine (AW.out _).mono ?_
              rintro e w2 ⟨rfl, b2⟩
              go_wp2_with fail
              go_ret
              exact ⟨rfl, by rw [hLB]; exact BL.out.trans ((BW.out.trans (b2.mono BW.out.size)).mono (by have := BL.out.size; omega))⟩
end Go.Proofs.Ytanillahofohgaa
