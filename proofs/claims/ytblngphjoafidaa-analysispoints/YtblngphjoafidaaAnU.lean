import Derived.Test.YtblngphjoafidaaAnT
namespace Go.Proofs.Ytblngphjoafidaa
open Go.RowKit Go.QK Go.QM Go.QT
/-! The record that comes next; where one begins is nothing. -/
def bare (lsn kind tx prev : Int) : RecM := ⟨lsn, kind, tx, prev, 0, 0, 0, 0, 0, 0, 0, 0, 0, 0, [], [], 0⟩
structure DsOk (lsn : Int) (D ds : List DirtyM) : Prop where
  few : ds.length ≤ 16
  rise : ds.Pairwise (fun a b => a.page < b.page)
  each : ∀ d ∈ ds, 1 ≤ d.since ∧ d.since ≤ lsn - 1 ∧ ∃ e ∈ D, e.page = d.page ∧ e.since ≤ d.since
def StepOk (F : FoundM) (lsn : Int) (r : RecM) : Prop :=
  (∃ wp sp, 0 ≤ wp ∧ wp < 20 ∧ 20 ≤ sp ∧ sp < 27 ∧ r = { bare lsn 2 0 0 with wp := wp, sp := sp, id := lsn, grp := 1 }) ∨
  (∃ ds, DsOk lsn F.dirty ds ∧ r = { bare lsn 8 0 0 with live := F.live.map mlOf, dirty := ds, next := F.next }) ∨
  (F.live.length < 32 ∧ r = bare lsn 1 F.next 0) ∨
  (∃ x ∈ F.live, ∃ k, (k = 5 ∨ k = 6 ∨ k = 7) ∧ fitsK k x = true ∧ r = bare lsn k x.tx x.last) ∨
  (∃ x ∈ F.live, ∃ k wp sp, (k = 3 ∨ k = 4) ∧ fitsK k x = true ∧ 0 ≤ wp ∧ wp < 20 ∧ 20 ≤ sp ∧ sp < 27 ∧ r = { bare lsn k x.tx x.last with wp := wp, sp := sp, delta := 1, id := 1 })
theorem mem_told {s : Nat → Int} {n : Nat} {d : DirtyM} : d ∈ toldL s n ↔ ∃ i, i < n ∧ s i ≠ 0 ∧ d = ⟨(i : Int), s i⟩ := by
  induction n with
  | zero => simp [toldL]
  | succ n ih =>
    simp only [toldL, List.mem_append, ih]
    constructor
    · rintro (⟨i, h1, h2, h3⟩ | h)
      · exact ⟨i, by omega, h2, h3⟩
      · split at h
        · cases h
        · rename_i q
          simp at h
          exact ⟨n, by omega, q, h⟩
    · rintro ⟨i, h1, h2, h3⟩
      by_cases q : i = n
      · subst q
        exact .inr (by rw [if_neg h2]; simp [h3])
      · exact .inl ⟨i, by omega, h2, h3⟩
theorem told_rise (s : Nat → Int) (n : Nat) : (toldL s n).Pairwise (fun a b => a.page < b.page) := by
  induction n with
  | zero => exact List.Pairwise.nil
  | succ n ih =>
    simp only [toldL]
    rw [List.pairwise_append]
    refine ⟨ih, ?_, fun a ha b hb => ?_⟩
    · split <;> simp
    · obtain ⟨i, h1, -, rfl⟩ := mem_told.1 ha
      split at hb
      · cases hb
      · simp at hb; subst hb
        show (i : Int) < (n : Int)
        omega
theorem liveB_of {next lsn : Int} {L : List Lv} (hr : Rise L) (h : ∀ x ∈ L, x.Ok next ∧ x.last < lsn) {least : Int} (hl : ∀ x ∈ L, least ≤ x.tx) : liveB next lsn least (L.map mlOf) = true := by
  induction L generalizing least with
  | nil => rfl
  | cons y r ih =>
    obtain ⟨h1, h2⟩ := List.pairwise_cons.1 hr
    obtain ⟨hy, hyl⟩ := h y (by simp)
    have := hl y (by simp)
    have i := ih h2 (fun x hx => h x (by simp [hx])) (least := y.tx + 1) (fun x hx => by have := h1 x hx; omega)
    have := hy.tx2
    have := hy.l1
    have := hy.l2
    simp only [List.map_cons, liveB, mlOf, recB, aheadB, Bool.and_eq_true, fromB_iff, Bool.or_eq_true, decide_eq_true_eq]
    exact ⟨⟨⟨by omega, by omega, .inr hyl⟩, by rw [hy.one]; rfl⟩, i⟩
theorem dirtyB_of {lsn : Int} {ds : List DirtyM} (hr : ds.Pairwise (fun a b => a.page < b.page)) (h : ∀ d ∈ ds, d.page ≤ 63 ∧ 1 ≤ d.since ∧ d.since < lsn ∧ lsn ≤ 1000) {least : Int} (hl : ∀ d ∈ ds, least ≤ d.page) : dirtyB lsn least ds = true := by
  induction ds generalizing least with
  | nil => rfl
  | cons y r ih =>
    obtain ⟨h1, h2⟩ := List.pairwise_cons.1 hr
    have hy := h y (by simp)
    have := hl y (by simp)
    have i := ih h2 (fun x hx => h x (by simp [hx])) (least := y.page + 1) (fun x hx => by have := h1 x hx; omega)
    simp only [dirtyB, recB, aheadB, Bool.and_eq_true, fromB_iff, Bool.or_eq_true, decide_eq_true_eq]
    exact ⟨⟨by omega, by omega, .inr hy.2.2.1⟩, i⟩
def CkOk (rs : List RecM) : Prop := ∀ i (hi : i < rs.length), rs[i].kind = 8 → ∃ q, Reach (rs.take i) q ∧ rs[i].live = q.tb.L.map mlOf ∧ rs[i].next = q.tb.next ∧ ∀ d ∈ rs[i].dirty, ∃ e ∈ q.found.dirty, e.page = d.page ∧ e.since ≤ d.since
theorem chain_ok {t : TbM} (h : t.Ok) {x : Lv} (hx : x ∈ t.L) {lsn k : Int} (hl : isLsn lsn = true) (h3 : 3 ≤ k) (h7 : k ≤ 7) (hlt : x.last < lsn) (hf : fitsK k x = true) : t.noteE lsn k x.tx x.last = 0 := by
  unfold TbM.noteE
  rw [hl, if_pos rfl, if_neg (by omega), if_neg (by omega), if_neg (by omega)]
  unfold TbM.chainE
  rw [getT_of h.rise hx]
  simp only
  rw [if_pos ⟨trivial, hlt⟩, if_pos hf]
theorem step_reach {rs : List RecM} {p : PassM} {r : RecM} (h : Reach rs p) (hn : rs.length ≤ 80) (hs : StepOk p.found ((rs.length : Int) + 1) r) : Reach (rs ++ [r]) (p.step r) ∧ (r.kind = 8 → r.live = p.tb.L.map mlOf ∧ r.next = p.tb.next ∧ ∀ d ∈ r.dirty, ∃ e ∈ p.found.dirty, e.page = d.page ∧ e.since ≤ d.since) := by
  have g := reach_grown rs p h
  have hnx := g.next
  have hb := countP_le' rs
  have hls : isLsn ((rs.length : Int) + 1) = true := by simp [isLsn]; omega
  generalize hN : (rs.length : Int) + 1 = N at *
  have hN81 : 1 ≤ N ∧ N ≤ 81 := by omega
  have hlast : ∀ x ∈ p.tb.L, x.last < N := fun x hx => by have := g.last x hx; omega
  rcases hs with ⟨wp, sp, a1, a2, a3, a4, rfl⟩ | ⟨ds, hd, rfl⟩ | ⟨hf, rfl⟩ | ⟨x, hx, k, hk, hf, rfl⟩ | ⟨x, hx, k, wp, sp, hk, hf, a1, a2, a3, a4, rfl⟩
  · refine ⟨h.snoc (by rw [hN]; rfl) ⟨by show (1 : Int) ≤ 2; omega, by show (2 : Int) ≤ 8; omega, ?_⟩ ?_, fun q => absurd (show (2 : Int) = 8 from q) (by decide)⟩
    · show okB ⟨N, 2, 0, 0, wp, 0, sp, 0, 0, N, 1, 0, 0, 0, [], [], 0⟩ = true
      simp [okB, fromB, aheadB, oneB, slotsB, slotB, firstB, pointsB, hTx, hPrev, hCtr, hFirst, hDelta, hPts]
      omega
    · show p.tb.noteE N 2 0 0 = 0
      unfold TbM.noteE
      rw [hls]; rfl
  · have hdp : ∀ d ∈ ds, 0 ≤ d.page ∧ d.page ≤ 63 := fun d hd' => by
      obtain ⟨-, -, e, he, hp, -⟩ := hd.each d hd'
      obtain ⟨i, hi, -, rfl⟩ := mem_told.1 he
      rw [← hp]
      show (0 : Int) ≤ (i : Int) ∧ (i : Int) ≤ 63
      omega
    refine ⟨h.snoc (by rw [hN]; rfl) ⟨by show (1 : Int) ≤ 8; omega, by show (8 : Int) ≤ 8; omega, ?_⟩ ?_, fun _ => ⟨rfl, rfl, fun d hd' => (hd.each d hd').2.2⟩⟩
    · have l1 := liveB_of (next := p.tb.next) (lsn := N) g.ok.rise (fun x hx => ⟨g.ok.each x hx, hlast x hx⟩) (least := 1) (fun x hx => (g.ok.each x hx).tx1)
      have l2 := dirtyB_of (lsn := N) hd.rise (fun d hd' => ⟨(hdp d hd').2, (hd.each d hd').1, by have := (hd.each d hd').2.1; omega, by omega⟩) (least := 0) (fun d hd' => (hdp d hd').1)
      have l3 := g.ok.few
      have l4 := hd.few
      have l5 := g.ok.n1
      show okB ⟨N, 8, 0, 0, 0, 0, 0, 0, 0, 0, 0, 0, 0, 0, p.tb.L.map mlOf, ds, p.tb.next⟩ = true
      simp [okB, fromB, aheadB, oneB, slotsB, firstB, pointsB, hTx, hPrev, hCtr, hFirst, hDelta, hPts, l1, l2]
      omega
    · show p.tb.noteE N 8 0 0 = 0
      unfold TbM.noteE
      rw [hls]; rfl
  · refine ⟨h.snoc (by rw [hN]; rfl) ⟨by show (1 : Int) ≤ 1; omega, by show (1 : Int) ≤ 8; omega, ?_⟩ ?_, fun q => absurd (show (1 : Int) = 8 from q) (by decide)⟩
    · have l5 := g.ok.n1
      show okB ⟨N, 1, p.tb.next, 0, 0, 0, 0, 0, 0, 0, 0, 0, 0, 0, [], [], 0⟩ = true
      simp [okB, fromB, aheadB, oneB, slotsB, firstB, pointsB, hTx, hPrev, hCtr, hFirst, hDelta, hPts]
      omega
    · show p.tb.noteE N 1 p.tb.next 0 = 0
      unfold TbM.noteE
      rw [hls, if_pos rfl, if_neg (by omega), if_neg (by omega), if_pos rfl]
      unfold TbM.nextE
      have hf : p.tb.L.length < 32 := hf
      have e : p.tb.full = false := by simp [TbM.full]; omega
      rw [if_pos rfl, e]
      rfl
  · have hx : x ∈ p.tb.L := hx
    have hxo := g.ok.each x hx
    have hxl := hlast x hx
    have q1 := hxo.tx1
    have q2 := hxo.tx2
    have q3 := hxo.l1
    have n2 := g.ok.n2
    refine ⟨h.snoc (by rw [hN]; rfl) ⟨by show 1 ≤ k; omega, by show k ≤ 8; omega, ?_⟩ (chain_ok (k := k) g.ok hx hls (by omega) (by omega) hxl hf), fun q => absurd (show k = 8 from q) (by omega)⟩
    show okB ⟨N, k, x.tx, x.last, 0, 0, 0, 0, 0, 0, 0, 0, 0, 0, [], [], 0⟩ = true
    rcases hk with rfl | rfl | rfl <;> (simp [okB, fromB, aheadB, oneB, slotsB, firstB, pointsB, hTx, hPrev, hCtr, hFirst, hDelta, hPts]; omega)
  · have hx : x ∈ p.tb.L := hx
    have hxo := g.ok.each x hx
    have hxl := hlast x hx
    have q1 := hxo.tx1
    have q2 := hxo.tx2
    have q3 := hxo.l1
    have n2 := g.ok.n2
    refine ⟨h.snoc (by rw [hN]; rfl) ⟨by show 1 ≤ k; omega, by show k ≤ 8; omega, ?_⟩ (chain_ok (k := k) g.ok hx hls (by omega) (by omega) hxl hf), fun q => absurd (show k = 8 from q) (by omega)⟩
    show okB ⟨N, k, x.tx, x.last, wp, 0, sp, 0, 1, 1, 0, 0, 0, 0, [], [], 0⟩ = true
    rcases hk with rfl | rfl <;> (simp [okB, fromB, aheadB, oneB, slotsB, slotB, firstB, pointsB, hTx, hPrev, hCtr, hFirst, hDelta, hPts]; omega)
theorem CkOk.snoc {rs : List RecM} {p : PassM} {r : RecM} (h : CkOk rs) (hr : Reach rs p) (hk : r.kind = 8 → r.live = p.tb.L.map mlOf ∧ r.next = p.tb.next ∧ ∀ d ∈ r.dirty, ∃ e ∈ p.found.dirty, e.page = d.page ∧ e.since ≤ d.since) : CkOk (rs ++ [r]) := by
  intro i hi h8
  by_cases q : i < rs.length
  · rw [List.getElem_append_left q] at h8 ⊢
    rw [List.take_append_of_le_length (by omega)]
    exact h i q h8
  · have e : i = rs.length := by simp at hi; omega
    subst e
    simp only [List.getElem_append_right (Nat.le_refl _), Nat.sub_self, List.getElem_cons_zero] at h8 ⊢
    rw [List.take_left]
    exact ⟨p, hr, hk h8⟩
theorem reach_run {rs : List RecM} {p : PassM} (h : Reach rs p) : runE rs 0 = 0 ∧ runF rs 0 = p.found := by
  have e1 : runE rs 0 = 0 := by
    unfold runE
    rw [if_pos h.fault]
    show (match goP pass0 (rs.drop 0) with | some _ => (0 : Int) | none => 60) = 0
    rw [List.drop_zero, h.go]
  refine ⟨e1, ?_⟩
  unfold runF
  rw [if_pos e1]
  show (match goP pass0 (rs.drop 0) with | some p => p.found | none => zeroF) = _
  rw [List.drop_zero, h.go]
theorem run_reach {rs : List RecM} (h : runE rs 0 = 0) : ∃ p, Reach rs p := by
  unfold runE at h
  split at h
  · rename_i hf
    have h : (match goP pass0 (rs.drop 0) with | some _ => (0 : Int) | none => 60) = 0 := h
    rw [List.drop_zero] at h
    cases hg : goP pass0 rs with
    | none => rw [hg] at h; cases h
    | some p => exact ⟨p, hf, hg⟩
  · rename_i hf; exact absurd h hf
abbrev Less (s s' : Nat → Int) : Prop := ∀ j, s' j ≠ 0 → s j ≠ 0 ∧ s j ≤ s' j
theorem Less.step {s s' : Nat → Int} (h : Less s s') {r : RecM} (hr : r.lsn ≠ 0) (hl : ∀ j, s j ≤ r.lsn) : Less (stepPg s r) (stepPg s' r) := by
  intro j hj
  have key : ∀ (a b : Nat → Int) (p : Int), Less a b → (∀ j, a j ≤ r.lsn) → Less (mark a p r.lsn) (mark b p r.lsn) ∧ ∀ j, mark a p r.lsn j ≤ r.lsn := by
    intro a b p hab hal
    refine ⟨fun j hj => ?_, fun j => ?_⟩
    · by_cases hp : (j : Int) = p
      · refine ⟨mark_hit a hr hp, ?_⟩
        by_cases ha : a j = 0
        · have hb : b j = 0 := by
            by_cases q : b j = 0
            · exact q
            · exact absurd ha (hab j q).1
          simp [mark, hp, ha, hb]
        · rw [mark_stay a ha]
          by_cases hb : b j = 0
          · have : mark b p r.lsn j = r.lsn := by simp [mark, hp, hb]
            rw [this]; exact hal j
          · rw [mark_stay b hb]; exact (hab j hb).2
      · have ea : mark a p r.lsn j = a j := by simp [mark, hp]
        have eb : mark b p r.lsn j = b j := by simp [mark, hp]
        rw [eb] at hj
        rw [ea, eb]
        exact hab j hj
    · rcases mark_cases a p r.lsn j with q | ⟨q, -, -⟩
      · rw [q]; exact hal j
      · rw [q]; exact Int.le_refl _
  unfold stepPg at hj ⊢
  split
  · rename_i hc
    rw [if_pos hc] at hj
    obtain ⟨k1, k2⟩ := key s s' r.wp h hl
    exact (key _ _ r.sp k1 k2).1 j hj
  · rename_i hc
    rw [if_neg hc] at hj
    exact h j hj
theorem step_hit (s : Nat → Int) {r : RecM} (hr : r.lsn ≠ 0) (hc : chg r.kind = true) {i : Nat} (hi : (i : Int) = r.wp ∨ (i : Int) = r.sp) : stepPg s r i ≠ 0 := by
  unfold stepPg
  rw [if_pos hc]
  rcases hi with hi | hi
  · have := mark_hit s hr hi
    rw [mark_stay _ this]
    exact this
  · exact mark_hit _ hr hi
theorem go_stay {p q : PassM} {rs : List RecM} (h : goP p rs = some q) {i : Nat} (hi : p.pg i ≠ 0) : q.pg i = p.pg i := by
  induction rs generalizing p with
  | nil => cases h; rfl
  | cons r rs ih =>
    have h : (if p.noteE r = 0 then goP (p.step r) rs else none) = some q := h
    split at h
    · have e := step_stay p.pg r hi
      have := ih h (by show stepPg p.pg r i ≠ 0; rw [e]; exact hi)
      rw [this]; exact e
    · cases h
theorem follow {n : Int} (hn : 1 ≤ n) {rs : List RecM} (hl : ∀ (i : Nat) (hi : i < rs.length), rs[i].lsn = n + i) {p p' q : PassM} (ht : p'.tb = p.tb) (hR : Less p.pg p'.pg) (hlt : ∀ j, p.pg j < n) (hg : goP p rs = some q) :
    ∃ q', goP p' rs = some q' ∧ q'.tb = q.tb ∧ Less q.pg q'.pg ∧ ∀ r ∈ rs, chg r.kind = true → ∀ i : Nat, (i : Int) = r.wp ∨ (i : Int) = r.sp → q'.pg i ≠ 0 := by
  induction rs generalizing n p p' with
  | nil => cases hg; exact ⟨p', rfl, ht, hR, fun r hr => by cases hr⟩
  | cons r rs ih =>
    have hg : (if p.noteE r = 0 then goP (p.step r) rs else none) = some q := hg
    have hr0 := hl 0 (by simp)
    simp only [List.getElem_cons_zero, Int.natCast_zero, Int.add_zero] at hr0
    split at hg
    · rename_i hne
      have hl' : ∀ (i : Nat) (hi : i < rs.length), rs[i].lsn = n + 1 + i := fun i hi => by
        have := hl (i + 1) (by simpa using hi)
        simp only [List.getElem_cons_succ] at this
        rw [this]; omega
      have ht' : (p'.step r).tb = (p.step r).tb := by show p'.tb.noteT _ _ _ _ = p.tb.noteT _ _ _ _; rw [ht]
      have hR' := hR.step (r := r) (by omega) (fun j => by have := hlt j; omega)
      have hlt' : ∀ j, (p.step r).pg j < n + 1 := fun j => by
        show stepPg p.pg r j < n + 1
        rcases step_cases p.pg r j with e | ⟨e, -⟩
        · rw [e]; have := hlt j; omega
        · rw [e]; omega
      obtain ⟨q', g1, g2, g3, g4⟩ := ih (n := n + 1) (by omega) hl' (p := p.step r) (p' := p'.step r) ht' hR' hlt' hg
      have hne' : p'.noteE r = 0 := by unfold PassM.noteE at hne ⊢; rw [ht]; exact hne
      refine ⟨q', by show (if p'.noteE r = 0 then goP (p'.step r) rs else none) = some q'; rw [if_pos hne']; exact g1, g2, g3, fun r' hr' hc i hi => ?_⟩
      rcases List.mem_cons.1 hr' with rfl | hr'
      · have hit := step_hit p'.pg (show r'.lsn ≠ 0 by omega) hc hi
        have := go_stay g1 (i := i) hit
        rw [this]; exact hit
      · exact g4 r' hr' hc i hi
    · cases hg
theorem marks_from (s : Nat → Int) (ds : List DirtyM) (i : Nat) (h : marks s ds i ≠ 0) : s i = marks s ds i ∨ ∃ d ∈ ds, d.page = (i : Int) ∧ d.since = marks s ds i := by
  induction ds generalizing s with
  | nil => exact .inl rfl
  | cons d ds ih =>
    have h : marks (mark s d.page d.since) ds i ≠ 0 := h
    show s i = marks (mark s d.page d.since) ds i ∨ ∃ d' ∈ d :: ds, d'.page = (i : Int) ∧ d'.since = marks (mark s d.page d.since) ds i
    rcases ih _ h with q | ⟨d', h1, h2, h3⟩
    · rcases mark_cases s d.page d.since i with e | ⟨e, -, e2⟩
      · exact .inl (by rw [← q]; exact e.symm)
      · exact .inr ⟨d, by simp, e2.symm, by rw [← q]; exact e.symm⟩
    · exact .inr ⟨d', by simp [h1], h2, h3⟩
theorem points_run {rs : List RecM} {p : PassM} (h : Reach rs p) (hc : CkOk rs) {i : Nat} (hi : i < rs.length) (h8 : rs[i].kind = 8) :
    ∃ q : PassM, runE rs ((i : Int) + 1) = 0 ∧ runF rs ((i : Int) + 1) = q.found ∧ q.tb = p.tb ∧ Less p.pg q.pg ∧ ∀ (k : Nat) (hk : k < rs.length), i < k → chg rs[k].kind = true → ∀ j : Nat, (j : Int) = rs[k].wp ∨ (j : Int) = rs[k].sp → q.pg j ≠ 0 := by
  obtain ⟨c, hcr, hcl, hcn, hcd⟩ := hc i hi h8
  have gC := reach_grown _ _ hcr
  have hgo := h.go
  have split1 : rs = rs.take i ++ (rs[i] :: rs.drop (i + 1)) := by
    rw [← List.drop_eq_getElem_cons hi, List.take_append_drop]
  have hgo : goP pass0 (rs.take i ++ (rs[i] :: rs.drop (i + 1))) = some p := by rw [← split1]; exact hgo
  rw [goP_append, hcr.go] at hgo
  have hgo : (if c.noteE rs[i] = 0 then goP (c.step rs[i]) (rs.drop (i + 1)) else none) = some p := hgo
  have hlsn := fun k (hk : k < rs.length) => (fault_each h.fault k hk).1
  split at hgo
  · rename_i hne
    have estep : c.step rs[i] = c := by
      have e1 : c.tb.noteT rs[i].lsn rs[i].kind rs[i].tx rs[i].prev = c.tb := by
        unfold TbM.noteT TbM.went
        have h28 : rs[i].kind = 2 ∨ rs[i].kind = 8 := .inr h8
        rw [if_pos h28]
        split <;> rfl
      have e2 : stepPg c.pg rs[i] = c.pg := by
        unfold stepPg
        rw [if_neg (by rw [h8]; decide)]
      unfold PassM.step
      rw [e1, e2]
    rw [estep] at hgo
    have hst : (standP rs[i]).tb = c.tb := by
      show (⟨rs[i].live.map lvOf, rs[i].next⟩ : TbM) = c.tb
      rw [hcl, hcn, lv_ml]
    have hR : Less c.pg (standP rs[i]).pg := by
      intro j hj
      have hj : marks (fun _ => 0) rs[i].dirty j ≠ 0 := hj
      show _ ∧ c.pg j ≤ marks (fun _ => 0) rs[i].dirty j
      rcases marks_from _ _ _ hj with q | ⟨d, hd, hp, hsn⟩
      · exact absurd q.symm hj
      · obtain ⟨e, he, ep, es⟩ := hcd d hd
        obtain ⟨i', -, hi2, rfl⟩ := mem_told.1 he
        have : i' = j := by
          have ep : (i' : Int) = d.page := ep
          omega
        subst this
        exact ⟨hi2, by rw [← hsn]; exact es⟩
    have hlt : ∀ j, c.pg j < (i : Int) + 2 := fun j => by
      by_cases q : c.pg j = 0
      · rw [q]; omega
      · have := (gC.pg j q).2
        rw [List.length_take] at this
        omega
    obtain ⟨q, g1, g2, g3, g4⟩ := follow (n := (i : Int) + 2) (by omega) (rs := rs.drop (i + 1)) (fun k hk => by
      rw [List.getElem_drop, hlsn (i + 1 + k) (by simp at hk; omega)]
      omega) hst hR hlt hgo
    have hs : startP rs ((i : Int) + 1) = some (standP rs[i]) := by
      unfold startP
      rw [if_neg (by omega), if_neg (by omega)]
      have e : ((i : Int) + 1 - 1).toNat = i := by omega
      rw [e, List.getElem?_eq_getElem hi]
      simp only
      rw [if_pos h8]
    have ht : ((i : Int) + 1).toNat = i + 1 := by omega
    have e1 : runE rs ((i : Int) + 1) = 0 := by
      unfold runE
      rw [if_pos h.fault, hs]
      simp only [ht, g1]
    refine ⟨q, e1, ?_, g2, g3, fun k hk hik hch j hj => ?_⟩
    · unfold runF runO
      rw [if_pos e1, hs]
      simp only [ht, g1]
    · have hm : rs[k] ∈ rs.drop (i + 1) := by
        rw [List.mem_iff_getElem]
        refine ⟨k - (i + 1), by simp; omega, ?_⟩
        rw [List.getElem_drop]
        congr 1
        omega
      exact g4 _ hm hch j hj
  · cases hgo
theorem points_place {rs : List RecM} {p : PassM} (h : Reach rs p) {i : Nat} (hi : i < rs.length) (h8 : rs[i].kind ≠ 8) : runE rs ((i : Int) + 1) = 4 := by
  unfold runE
  rw [if_pos h.fault]
  have hs : startP rs ((i : Int) + 1) = none := by
    unfold startP
    rw [if_neg (by omega), if_neg (by omega)]
    have e : ((i : Int) + 1 - 1).toNat = i := by omega
    rw [e, List.getElem?_eq_getElem hi]
    simp only
    rw [if_neg h8]
  rw [hs]
end Go.Proofs.Ytblngphjoafidaa
