/- Layer 4: what a book is behind a change. -/
import Derived.Test.YtlegacllbohbmaaDoorCbF
set_option linter.unusedVariables false
set_option linter.unusedSimpArgs false
namespace Go.Proofs.YtlegacllbohbmaaDoor
open Go.RowKit Go.Shelf

theorem VerAt.same {B : Nat} {W W' : World} {vb : Nat} {sv : Value} {x : Vr} (h : VerAt B W vb sv x) (k1 : W'.heap[vb]? = W.heap[vb]?) (k2 : ∀ g, sv.ownBlock = some g → W'.heap[g]? = W.heap[g]?) (k3 : ∀ (b : Nat) (c : Array Value) (fz : Nat × Nat), W.heap[b]? = some (.cells c 36 fz) → W'.heap[b]? = W.heap[b]?) : VerAt B W' vb sv x := by
  obtain ⟨hb, ⟨f, hf, h0, h1⟩, ls, hl, hr, hq, he⟩ := h
  exact ⟨hb, ⟨f, hf.of_block k1, h0, h1⟩, ls, hl, hr.same k2, hq, fun i h h' => (he i h h').same k3⟩
theorem VerAt.kind {B : Nat} {W : World} {vb : Nat} {sv : Value} {x : Vr} (h : VerAt B W vb sv x) : (∃ c fz, W.heap[vb]? = some (.cells c 67 fz)) ∧ ∀ g, sv.ownBlock = some g → ∃ c fz, W.heap[g]? = some (.cells c 96 fz) := by
  obtain ⟨hb, ⟨f, hf, h0, h1⟩, ls, hl, hr, _⟩ := h
  exact ⟨hf.kind, hr.kind⟩
theorem nodup_inj {l : List Nat} (h : l.Nodup) {i j : Nat} (hi : i < l.length) (hj : j < l.length) (e : l[i] = l[j]) : i = j := by
  have hp := List.pairwise_iff_getElem.1 h
  rcases Nat.lt_trichotomy i j with h1 | h1 | h1
  · exact absurd e (hp i j hi hj h1)
  · exact h1
  · exact absurd e.symm (hp j i hj hi h1)
section
variable {B bb mb clk : Nat} {W W' : World} {S : Bk} {es : Array MapEntry} {vbs : List Nat} {svs : List Value} {tv lv : Value} {f : Nat → Value}
theorem BookW.same (h : BookW B W bb S mb clk es vbs svs tv lv f) (k : ∀ j, j < W.heap.size → W'.heap[j]? = W.heap[j]?) : BookW B W' bb S mb clk es vbs svs tv lv f := by
  have hlt : ∀ {j : Nat} {o : Obj}, W.heap[j]? = some o → j < W.heap.size := fun h => (Array.getElem?_eq_some_iff.1 h).1
  exact { h with
    rf := h.rf.of_block (k _ h.rf.lt)
    map := (k _ (hlt h.map)).trans h.map
    ver := fun i h0 h1 h2 => (h.ver i h0 h1 h2).same (by obtain ⟨c, fz, e⟩ := (h.ver i h0 h1 h2).kind.1; exact k _ (hlt e)) (fun g hg => by obtain ⟨c, fz, e⟩ := (h.ver i h0 h1 h2).kind.2 g hg; exact k _ (hlt e)) (fun b c fz e => k _ (hlt e))
    tags := h.tags.same fun g hg => k _ (h.tags.lt g hg).2
    log := Rw.same h.log fun g hg => k _ (Rw.lt h.log g hg).2 }
theorem BookW.below (h : BookW B W bb S mb clk es vbs svs tv lv f) (k : Below W.heap.size W W') : BookW B W' bb S mb clk es vbs svs tv lv f := h.same fun j hj => k.block j hj

/-- Behind a line of the log. -/
theorem BookW.logged (h : BookW B W bb S mb clk es vbs svs tv lv f) (s' : Nat) (hs' : s' < 18446744073709551616) (lv' : Value) (l' : List UInt8)
    (rf : RF W' bb 53 12 (upd (upd f 11 (.int .u64 (s' : Nat))) 10 lv')) (hl : By B W' lv' l') (k : Lib.OthersKept 5 (some bb) W W') :
    BookW B W' bb { S with lg := l', sm := s' } mb clk es vbs svs tv lv' (upd (upd f 11 (.int .u64 (s' : Nat))) 10 lv') := by
  have kb : ∀ (b : Nat) (c : Array Value) (t : TypeId) (fz : Nat × Nat), W.heap[b]? = some (.cells c t fz) → t ≠ 5 → t ≠ 53 → W'.heap[b]? = W.heap[b]? := fun b c t fz hb h1 h2 => by
    refine (k b _ hb ?_ (fun c' fz' e => h1 (by cases e; rfl))).trans hb.symm
    rintro e
    cases e
    obtain ⟨c2, fz2, e2⟩ := h.rf.kind
    rw [hb] at e2
    cases e2
    exact h2 rfl
  have hm : W'.heap[mb]? = some (.map es clk) := k mb _ h.map (by
    rintro e
    cases e
    obtain ⟨c2, fz2, e2⟩ := h.rf.kind
    rw [h.map] at e2
    cases e2) (fun c fz e => by cases e)
  exact {
    hbb := h.hbb
    rf := rf
    f0 := by rw [upd_other _ _ (by decide), upd_other _ _ (by decide)]; exact h.f0
    f1 := by rw [upd_other _ _ (by decide), upd_other _ _ (by decide)]; exact h.f1
    fc := fun j hj => by rw [upd_other _ _ (by omega), upd_other _ _ (by omega)]; exact h.fc j hj
    f9 := by rw [upd_other _ _ (by decide), upd_other _ _ (by decide)]; exact h.f9
    f10 := upd_same _ _ _
    f11 := by rw [upd_other _ _ (by decide), upd_same]
    sm := hs'
    hmb := h.hmb
    map := hm
    mi := h.mi
    nd := h.nd
    svl := h.svl
    ver := fun i h0 h1 h2 => (h.ver i h0 h1 h2).same (by obtain ⟨c, fz, e⟩ := (h.ver i h0 h1 h2).kind.1; exact kb _ _ _ _ e (by decide) (by decide)) (fun g hg => by obtain ⟨c, fz, e⟩ := (h.ver i h0 h1 h2).kind.2 g hg; exact kb _ _ _ _ e (by decide) (by decide)) (fun b c fz e => kb _ _ _ _ e (by decide) (by decide))
    apart := h.apart
    tags := h.tags.same fun g hg => by obtain ⟨c, fz, e⟩ := h.tags.kind g hg; exact kb _ _ _ _ e (by decide) (by decide)
    tgl := h.tgl
    log := hl }

/-- Behind a change of one version. -/
theorem BookW.turned (h : BookW B W bb S mb clk es vbs svs tv lv f) (i vb : Nat) (key : Int × Int) (x x' : Vr) (sv sv' : Value) (hi : S.vs[i]? = some (key, x)) (hv : vbs[i]? = some vb) (hs : svs[i]? = some sv) (hx : VerAt B W' vb sv' x') (k : But2 vb sv.ownBlock W W')
    (l : sv'.ownBlock = sv.ownBlock ∨ ∃ g, sv'.ownBlock = some g ∧ W.heap.size ≤ g) : BookW B W' bb { S with vs := S.vs.set i (key, x') } mb clk es vbs (svs.set i sv') tv lv f := by
  obtain ⟨hil, hi'⟩ := List.getElem?_eq_some_iff.1 hi
  obtain ⟨hvl, hv'⟩ := List.getElem?_eq_some_iff.1 hv
  obtain ⟨hsl, hs'⟩ := List.getElem?_eq_some_iff.1 hs
  have hlt : ∀ {j : Nat} {o : Obj}, W.heap[j]? = some o → j < W.heap.size := fun h => (Array.getElem?_eq_some_iff.1 h).1
  have V := h.ver i hil hvl hsl
  rw [hv', hs', hi'] at V
  have kb : ∀ (b : Nat) (o : Obj), W.heap[b]? = some o → (∀ c fz, o ≠ .cells c 67 fz) → (∀ c fz, o ≠ .cells c 96 fz) → W'.heap[b]? = W.heap[b]? := fun b o hb h1 h2 => by
    refine k b (hlt hb) ?_ ?_
    · rintro rfl
      obtain ⟨c, fz, e⟩ := V.kind.1
      rw [hb] at e
      exact h1 c fz (Option.some.inj e)
    · intro e
      obtain ⟨c, fz, e⟩ := V.kind.2 b e.symm
      rw [hb] at e
      exact h2 c fz (Option.some.inj e)
  have ent : ∀ (b : Nat) (c : Array Value) (fz : Nat × Nat), W.heap[b]? = some (.cells c 36 fz) → W'.heap[b]? = W.heap[b]? := fun b c fz e => kb b _ e (fun _ _ e' => by cases e') (fun _ _ e' => by cases e')
  have own : ∀ j (hj : j < svs.length), j ≠ i → ∀ g, svs[j].ownBlock = some g → W'.heap[g]? = W.heap[g]? := fun j hj hne g hg => by
    have Vj := h.ver j (by rw [← h.svl]; exact hj) (by rw [h.mi.1, ← h.svl]; exact hj) hj
    obtain ⟨c, fz, e⟩ := Vj.kind.2 g hg
    refine k g (hlt e) ?_ ?_
    · rintro rfl
      obtain ⟨c2, fz2, e2⟩ := V.kind.1
      rw [e] at e2
      cases e2
    · intro e2
      rcases h.apart j i hj hsl hne with h3 | h3
      · rw [hg] at h3; cases h3
      · exact h3 (by rw [hg, hs']; exact e2)
  refine { h with
    rf := h.rf.of_block (by obtain ⟨c, fz, e⟩ := h.rf.kind; exact kb _ _ e (fun _ _ e' => by cases e') (fun _ _ e' => by cases e'))
    map := (kb _ _ h.map (fun _ _ e' => by cases e') (fun _ _ e' => by cases e')).trans h.map
    mi := ?_
    svl := by simp [h.svl]
    ver := ?_
    apart := ?_
    tags := h.tags.same fun g hg => by obtain ⟨c, fz, e⟩ := h.tags.kind g hg; exact kb _ _ e (fun _ _ e' => by cases e') (fun _ _ e' => by cases e')
    log := Rw.same h.log fun g hg => by obtain ⟨c, fz, e⟩ := Rw.kind h.log g hg; exact kb _ _ e (fun _ _ e' => by cases e') (fun _ _ e' => by cases e') }
  · refine ⟨by simp [h.mi.1], ?_⟩
    rw [h.mi.2]
    apply List.ext_getElem?
    intro j
    simp only [List.getElem?_map, List.getElem?_zip_eq_some, List.zip, List.getElem?_zipWith]
    by_cases e : j = i
    · subst e
      simp [List.getElem?_set, hil, hi, hv, hi']
    · rw [List.getElem?_set_ne (Ne.symm e)]
  · intro j h0 h1 h2
    by_cases e : j = i
    · subst e
      simp only [List.getElem_set_self]
      rw [hv']
      exact hx
    · have e' : i ≠ j := Ne.symm e
      simp only [List.getElem_set_ne e']
      have h0' : j < S.vs.length := by simpa using h0
      have h2' : j < svs.length := by simpa using h2
      have Vj := h.ver j h0' h1 h2'
      refine Vj.same ?_ (own j h2' e) ent
      obtain ⟨c, fz, e1⟩ := Vj.kind.1
      refine k _ (hlt e1) ?_ ?_
      · intro e2
        rw [← hv'] at e2
        exact e (nodup_inj h.nd h1 hvl e2)
      · intro e2
        obtain ⟨c2, fz2, e3⟩ := V.kind.2 _ e2.symm
        rw [e1] at e3
        cases e3
  · intro a b h1 h2 hab
    have h1' : a < svs.length := by simpa using h1
    have h2' : b < svs.length := by simpa using h2
    have old : ∀ j (hj : j < svs.length) g, svs[j].ownBlock = some g → g < W.heap.size := fun j hj g hg => by
      have Vj := h.ver j (by rw [← h.svl]; exact hj) (by rw [h.mi.1, ← h.svl]; exact hj) hj
      obtain ⟨c, fz, e⟩ := Vj.kind.2 g hg
      exact hlt e
    by_cases ea : a = i
    · subst ea
      simp only [List.getElem_set_self, List.getElem_set_ne hab]
      rcases l with l | ⟨g, l, hg⟩
      · rw [l, ← hs']; exact h.apart a b h1' h2' hab
      · right
        rw [l]
        intro e
        exact absurd (old b h2' g e.symm) (by omega)
    · by_cases eb : b = i
      · subst eb
        simp only [List.getElem_set_self, List.getElem_set_ne (Ne.symm hab)]
        rcases l with l | ⟨g, l, hg⟩
        · rw [l, ← hs']; exact h.apart a b h1' h2' hab
        · right
          rw [l]
          intro e
          exact absurd (old a h1' g e) (by omega)
      · simp only [List.getElem_set_ne (Ne.symm ea), List.getElem_set_ne (Ne.symm eb)]
        exact h.apart a b h1' h2' hab

/-- Behind a new version. -/
theorem BookW.begun (h : BookW B W bb S mb clk es vbs svs tv lv f) (k vb : Nat) (hk : k < 7) (hc : S.cn k < 64) (hvb : W.heap.size ≤ vb) (g : Nat → Value) (rb : RF W' bb 53 12 (upd f (2 + k) (.int .i64 (S.cn k + 1))))
    (rv : RF W' vb 67 2 g) (g0 : g 0 = .bool false) (g1 : g 1 = .slice none 0 0)
    (rm : W'.heap[mb]? = some (.map (es.push { key := .agg #[.int .i64 k, .int .i64 (S.cn k + 1)], val := .pointer (some ⟨vb, 0, none⟩), born := clk }) (clk + 1)))
    (ko : ∀ j, j < W.heap.size → j ≠ bb → j ≠ mb → W'.heap[j]? = W.heap[j]?) :
    BookW B W' bb { S with vs := S.vs ++ [(((k : Int), S.cn k + 1), ⟨false, []⟩)], cn := fun j => if j = k then S.cn k + 1 else S.cn j } mb (clk + 1) (es.push { key := .agg #[.int .i64 k, .int .i64 (S.cn k + 1)], val := .pointer (some ⟨vb, 0, none⟩), born := clk }) (vbs ++ [vb]) (svs ++ [.slice none 0 0]) tv lv (upd f (2 + k) (.int .i64 (S.cn k + 1))) := by
  have hlt : ∀ {j : Nat} {o : Obj}, W.heap[j]? = some o → j < W.heap.size := fun h => (Array.getElem?_eq_some_iff.1 h).1
  have kb : ∀ (b : Nat) (c : Array Value) (t : TypeId) (fz : Nat × Nat), W.heap[b]? = some (.cells c t fz) → t ≠ 53 → W'.heap[b]? = W.heap[b]? := fun b c t fz hb ht => by
    refine ko b (hlt hb) ?_ ?_
    · rintro rfl
      obtain ⟨c2, fz2, e2⟩ := h.rf.kind
      rw [hb] at e2
      cases e2
      exact ht rfl
    · rintro rfl
      rw [h.map] at hb
      cases hb
  have hB : B ≤ vb := by have := h.rf.lt; have := h.hbb; omega
  have old : ∀ i (hi : i < vbs.length), vbs[i] < W.heap.size := fun i hi => by
    have V := h.ver i (by rw [← h.mi.1]; exact hi) hi (by rw [h.svl, ← h.mi.1]; exact hi)
    obtain ⟨c, fz, e⟩ := V.kind.1
    exact hlt e
  refine { h with
    rf := rb
    f0 := by rw [upd_other _ _ (by omega)]; exact h.f0
    f1 := by rw [upd_other _ _ (by omega)]; exact h.f1
    fc := fun j hj => ?_
    f9 := by rw [upd_other _ _ (by omega)]; exact h.f9
    f10 := by rw [upd_other _ _ (by omega)]; exact h.f10
    f11 := by rw [upd_other _ _ (by omega)]; exact h.f11
    map := rm
    mi := h.mi.push k (S.cn k + 1) ⟨false, []⟩ vb clk
    nd := ?_
    svl := by simp [h.svl]
    ver := ?_
    apart := ?_
    tags := h.tags.same fun g hg => by obtain ⟨c, fz, e⟩ := h.tags.kind g hg; exact kb _ _ _ _ e (by decide)
    log := Rw.same h.log fun g hg => by obtain ⟨c, fz, e⟩ := Rw.kind h.log g hg; exact kb _ _ _ _ e (by decide) }
  · by_cases e : j = k
    · subst e
      obtain ⟨_, a, b⟩ := h.fc j hj
      simp only [if_true]
      exact ⟨upd_same _ _ _, by omega, by omega⟩
    · rw [upd_other _ _ (by omega)]
      simp only [if_neg e]
      exact h.fc j hj
  · rw [List.nodup_append]
    refine ⟨h.nd, by simp, fun a ha b hb => ?_⟩
    obtain ⟨i, hi, rfl⟩ := List.mem_iff_getElem.1 ha
    have := old i hi
    rw [List.mem_singleton.1 hb]
    omega
  · intro i h0 h1 h2
    by_cases hi : i < S.vs.length
    · have hv := h.mi.1
      have hs := h.svl
      rw [List.getElem_append_left (by omega), List.getElem_append_left (by omega), List.getElem_append_left hi]
      have V := h.ver i hi (by omega) (by omega)
      exact V.same (by obtain ⟨c, fz, e⟩ := V.kind.1; exact kb _ _ _ _ e (by decide)) (fun g hg => by obtain ⟨c, fz, e⟩ := V.kind.2 g hg; exact kb _ _ _ _ e (by decide)) (fun b c fz e => kb _ _ _ _ e (by decide))
    · have hi' : i = S.vs.length := by simp at h0; omega
      have hv := h.mi.1
      have hs := h.svl
      subst hi'
      rw [List.getElem_append_right (by omega), List.getElem_append_right (by omega), List.getElem_append_right (by omega)]
      simp only [hv, hs, Nat.sub_self, List.getElem_singleton]
      exact ⟨hB, ⟨g, rv, g0, g1⟩, [], rfl, Rw_nil _ _ _ _, ⟨(fun x hx => by cases hx), List.Pairwise.nil, by decide⟩, fun i h => absurd h (by simp)⟩
  · intro i j h1 h2 hij
    by_cases hi : i < svs.length
    · by_cases hj : j < svs.length
      · rw [List.getElem_append_left hi, List.getElem_append_left hj]
        exact h.apart i j hi hj hij
      · have hj' : j = svs.length := by simp at h2; omega
        subst hj'
        rw [List.getElem_append_left hi, List.getElem_append_right (by omega)]
        simp only [Nat.sub_self, List.getElem_singleton]
        cases e : svs[i].ownBlock with
        | none => exact .inl rfl
        | some g => exact .inr (by simp [Value.ownBlock])
    · have hi' : i = svs.length := by simp at h1; omega
      subst hi'
      rw [List.getElem_append_right (by omega)]
      simp only [Nat.sub_self, List.getElem_singleton]
      exact .inl rfl
end
end Go.Proofs.YtlegacllbohbmaaDoor
