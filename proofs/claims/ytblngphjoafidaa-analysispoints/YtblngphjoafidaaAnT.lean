import Derived.Test.YtblngphjoafidaaAnM
namespace Go.Proofs.Ytblngphjoafidaa
open Go.RowKit Go.QK Go.QM Go.QT
/-! Logs that grow: the theory. -/
theorem snoc_ind {α : Type} {P : List α → Prop} (h0 : P []) (h1 : ∀ l a, P l → P (l ++ [a])) (l : List α) : P l := by
  have h : ∀ r : List α, P r.reverse := by
    intro r
    induction r with
    | nil => exact h0
    | cons a r ih => rw [List.reverse_cons]; exact h1 _ _ ih
  have := h l.reverse
  rwa [List.reverse_reverse] at this
theorem goP_append (p : PassM) (a b : List RecM) : goP p (a ++ b) = (goP p a).bind (fun q => goP q b) := by
  induction a generalizing p with
  | nil => rfl
  | cons r a ih =>
    simp only [List.cons_append, goP]
    split
    · exact ih _
    · rfl
structure Reach (rs : List RecM) (p : PassM) : Prop where
  fault : faultE 1 rs = 0
  go : goP pass0 rs = some p
theorem Reach.nil : Reach [] pass0 := ⟨rfl, rfl⟩
theorem Reach.take {rs : List RecM} {p : PassM} (h : Reach rs p) (n : Nat) : ∃ q, Reach (rs.take n) q := by
  have e := h.go
  rw [← List.take_append_drop n rs, goP_append] at e
  cases hq : goP pass0 (rs.take n) with
  | none => rw [hq] at e; cases e
  | some q =>
    refine ⟨q, ⟨fault_of (fun i hi => ?_), hq⟩⟩
    have hi' : i < rs.length := by simp at hi; omega
    have := fault_each h.fault i hi'
    simpa using this
theorem Reach.snoc {rs : List RecM} {p : PassM} (h : Reach rs p) {r : RecM} (hl : r.lsn = (rs.length : Int) + 1) (hg : GoodR r) (hn : p.noteE r = 0) : Reach (rs ++ [r]) (p.step r) := by
  refine ⟨fault_of (fun i hi => ?_), ?_⟩
  · by_cases q : i < rs.length
    · rw [List.getElem_append_left q]
      exact fault_each h.fault i q
    · have e : i = rs.length := by simp at hi; omega
      subst e
      simp
      exact ⟨by omega, hg⟩
  · rw [goP_append, h.go]
    show (if p.noteE r = 0 then goP (p.step r) [] else none) = _
    rw [if_pos hn]
    rfl
theorem Reach.unsnoc {rs : List RecM} {p' : PassM} {r : RecM} (h : Reach (rs ++ [r]) p') : ∃ p, Reach rs p ∧ r.lsn = (rs.length : Int) + 1 ∧ GoodR r ∧ p.noteE r = 0 ∧ p' = p.step r := by
  have e := h.go
  rw [goP_append] at e
  cases hq : goP pass0 rs with
  | none => rw [hq] at e; cases e
  | some p =>
    rw [hq] at e
    have hl := fault_each h.fault rs.length (by simp)
    simp at hl
    have e : (if p.noteE r = 0 then goP (p.step r) [] else none) = some p' := e
    split at e
    · rename_i hn
      refine ⟨p, ⟨fault_of (fun i hi => ?_), hq⟩, by omega, hl.2, hn, ?_⟩
      · have := fault_each h.fault i (by simp; omega)
        rw [List.getElem_append_left hi] at this
        exact this
      · cases e; rfl
    · cases e
/-- What a table's Note does, where it is let by. -/
theorem note_cases {t : TbM} {lsn k tx prev : Int} (h : t.noteE lsn k tx prev = 0) (h1 : 1 ≤ k) (h8 : k ≤ 8) :
    isLsn lsn = true ∧ (((k = 2 ∨ k = 8) ∧ t.noteT lsn k tx prev = t) ∨ (k = 1 ∧ tx = t.next ∧ t.full = false ∧ t.noteT lsn k tx prev = t.begun lsn) ∨
      ∃ x, getT t.L tx = some x ∧ prev = x.last ∧ x.last < lsn ∧ fitsK k x = true ∧ ((k = 7 ∧ t.noteT lsn k tx prev = ⟨delT t.L tx, t.next⟩) ∨ (3 ≤ k ∧ k ≤ 6 ∧ t.noteT lsn k tx prev = ⟨setT t.L (gone k lsn x), t.next⟩))) := by
  have e0 : t.noteT lsn k tx prev = t.went lsn k tx := by unfold TbM.noteT; rw [if_pos h]
  rw [e0]
  unfold TbM.noteE at h
  cases hl : isLsn lsn with
  | false => rw [hl] at h; simp at h
  | true =>
    refine ⟨rfl, ?_⟩
    rw [hl, if_pos rfl, if_neg (by omega)] at h
    unfold TbM.went
    by_cases k1 : k = 2 ∨ k = 8
    · rw [if_pos k1]; exact .inl ⟨k1, rfl⟩
    · rw [if_neg k1] at h ⊢
      by_cases k2 : k = 1
      · rw [if_pos k2] at h ⊢
        unfold TbM.nextE at h
        split at h
        · rename_i q
          cases hf : t.full with
          | true => rw [hf] at h; simp at h
          | false => exact .inr (.inl ⟨k2, q, rfl, rfl⟩)
        · cases h
      · rw [if_neg k2] at h ⊢
        unfold TbM.chainE at h
        cases hg : getT t.L tx with
        | none => rw [hg] at h; cases h
        | some x =>
          rw [hg] at h
          simp only at h
          split at h
          · rename_i q
            split at h
            · rename_i q2
              refine .inr (.inr ⟨x, rfl, q.1, q.2, q2, ?_⟩)
              by_cases k7 : k = 7
              · rw [if_pos k7]; exact .inl ⟨k7, rfl⟩
              · rw [if_neg k7]; exact .inr ⟨by omega, by omega, rfl⟩
            · cases h
          · cases h
theorem delT_len {L : List Lv} (hr : Rise L) {x : Lv} {k : Int} (h : getT L k = some x) : (delT L k).length + 1 = L.length := by
  obtain ⟨hm, rfl⟩ := getT_mem h
  induction L with
  | nil => cases hm
  | cons y r ih =>
    obtain ⟨h1, h2⟩ := List.pairwise_cons.1 hr
    unfold delT at ih ⊢
    rw [List.filter_cons]
    rcases List.mem_cons.1 hm with rfl | hm
    · have e : (!(x.tx == x.tx)) = false := by simp
      rw [e]
      simp only [Bool.false_eq_true, if_false, List.length_cons]
      congr 1
      congr 1
      rw [List.filter_eq_self]
      intro z hz
      have := h1 z hz
      simp; omega
    · have := h1 x hm
      have e : (!(y.tx == x.tx)) = true := by simp; omega
      rw [if_pos e]
      simp only [List.length_cons]
      rw [ih h2 hm (getT_of h2 hm)]
theorem mem_delT {L : List Lv} {k : Int} {x : Lv} (h : x ∈ delT L k) : x ∈ L ∧ x.tx ≠ k := by
  unfold delT at h
  have := List.mem_filter.1 h
  exact ⟨this.1, by simpa using this.2⟩
theorem mem_set2 {L : List Lv} {v x : Lv} (h : x ∈ setT L v) : (x = v ∧ x.tx = v.tx) ∨ (x ∈ L ∧ x.tx ≠ v.tx) := by
  unfold setT at h
  rw [List.mem_map] at h
  obtain ⟨y, hy, e⟩ := h
  split at e
  · exact .inl ⟨e.symm, by rw [e]⟩
  · rename_i q
    rw [← e]
    exact .inr ⟨hy, q⟩
abbrev nB (rs : List RecM) : Nat := rs.countP (fun r => decide (r.kind = 1))
abbrev nE (rs : List RecM) : Nat := rs.countP (fun r => decide (r.kind = 7))
structure Grown (rs : List RecM) (p : PassM) : Prop where
  ok : p.tb.Ok
  next : p.tb.next = (nB rs : Int) + 1
  len : p.tb.L.length + nE rs = nB rs
  last : ∀ x ∈ p.tb.L, x.last ≤ rs.length
  quiet : ∀ r ∈ rs, ∀ x ∈ p.tb.L, r.tx = x.tx → r.kind ≠ 7 ∧ r.lsn ≤ x.last
  below : ∀ r ∈ rs, r.tx < p.tb.next
  pg : ∀ i, p.pg i ≠ 0 → 1 ≤ p.pg i ∧ p.pg i ≤ rs.length
theorem mark_cases (s : Nat → Int) (p l : Int) (i : Nat) : mark s p l i = s i ∨ (mark s p l i = l ∧ s i = 0 ∧ (i : Int) = p) := by
  unfold mark
  split
  · rename_i q; exact .inr ⟨rfl, q.2, q.1⟩
  · exact .inl rfl
theorem mark_hit (s : Nat → Int) {p l : Int} (hl : l ≠ 0) {i : Nat} (h : (i : Int) = p) : mark s p l i ≠ 0 := by
  unfold mark
  by_cases q : s i = 0
  · rw [if_pos ⟨h, q⟩]; exact hl
  · rw [if_neg (fun z => q z.2)]; exact q
theorem mark_stay (s : Nat → Int) {p l : Int} {i : Nat} (h : s i ≠ 0) : mark s p l i = s i := by
  unfold mark
  rw [if_neg (fun z => h z.2)]
theorem step_cases (s : Nat → Int) (r : RecM) (i : Nat) : stepPg s r i = s i ∨ (stepPg s r i = r.lsn ∧ s i = 0) := by
  unfold stepPg
  split
  · rcases mark_cases (mark s r.wp r.lsn) r.sp r.lsn i with q | ⟨q1, q2, -⟩
    · rw [q]
      rcases mark_cases s r.wp r.lsn i with q | ⟨q1, q2, -⟩
      · exact .inl q
      · exact .inr ⟨q1, q2⟩
    · refine .inr ⟨q1, ?_⟩
      rcases mark_cases s r.wp r.lsn i with q | ⟨q3, q4, -⟩
      · rw [← q]; exact q2
      · exact q4
  · exact .inl rfl
theorem step_stay (s : Nat → Int) (r : RecM) {i : Nat} (h : s i ≠ 0) : stepPg s r i = s i := by
  rcases step_cases s r i with q | ⟨-, q⟩
  · exact q
  · exact absurd q h
theorem reach_grown (rs : List RecM) : ∀ p, Reach rs p → Grown rs p := by
  refine snoc_ind (P := fun rs => ∀ p, Reach rs p → Grown rs p) ?_ ?_ rs
  · intro p h
    have e := h.go
    cases e
    refine ⟨TbM.Ok.new rfl, rfl, rfl, fun x hx => (by cases hx), fun r hr => (by cases hr), fun r hr => (by cases hr), fun i hi => absurd rfl hi⟩
  · intro rs r ih p' h
    obtain ⟨p, hR, hl, hg, hn, rfl⟩ := h.unsnoc
    have g := ih p hR
    obtain ⟨hlsn, hc⟩ := note_cases hn hg.k1 hg.k8
    have hok : (p.step r).tb.Ok := g.ok.noteT _ _ _ _
    have htx := hg.tx
    have cB : nB (rs ++ [r]) = nB rs + (if r.kind = 1 then 1 else 0) := by simp [nB, List.countP_append]
    have cE : nE (rs ++ [r]) = nE rs + (if r.kind = 7 then 1 else 0) := by simp [nE, List.countP_append]
    have hlen : (rs ++ [r]).length = rs.length + 1 := by simp
    have hpg : ∀ i, (p.step r).pg i ≠ 0 → 1 ≤ (p.step r).pg i ∧ (p.step r).pg i ≤ ((rs ++ [r]).length : Nat) := by
      intro i hi
      have hi : stepPg p.pg r i ≠ 0 := hi
      show 1 ≤ stepPg p.pg r i ∧ stepPg p.pg r i ≤ _
      rcases step_cases p.pg r i with q | ⟨q, -⟩
      · rw [q] at hi ⊢
        have := g.pg i hi
        rw [hlen]; omega
      · rw [q, hlen]; omega
    have n1 := g.ok.n1
    rcases hc with ⟨hk, ht⟩ | ⟨hk, htn, hf, ht⟩ | ⟨x, hx, hp, hlt, hfit, hc⟩
    · have et : (p.step r).tb = p.tb := ht
      have k1 : ¬ r.kind = 1 := by omega
      have k7 : ¬ r.kind = 7 := by omega
      have htx0 : r.tx = 0 := htx.2.2.2 (by rcases hk with hk | hk <;> rw [hk] <;> rfl)
      rw [if_neg k1] at cB
      rw [if_neg k7] at cE
      refine ⟨hok, by rw [et, cB]; exact g.next, by rw [et, cB, cE]; exact g.len, ?_, ?_, ?_, hpg⟩
      · intro y hy; rw [et] at hy; have := g.last y hy; rw [hlen]; omega
      · intro q hq y hy e; rw [et] at hy
        rcases List.mem_append.1 hq with hq | hq
        · exact g.quiet q hq y hy e
        · simp at hq; subst hq
          have := (g.ok.each y hy).tx1; omega
      · intro q hq; rw [et]
        rcases List.mem_append.1 hq with hq | hq
        · exact g.below q hq
        · simp at hq; subst hq; omega
    · have et : (p.step r).tb = p.tb.begun r.lsn := ht
      rw [if_pos hk] at cB
      rw [if_neg (by omega)] at cE
      refine ⟨hok, ?_, ?_, ?_, ?_, ?_, hpg⟩
      · rw [et, cB]; show p.tb.next + 1 = _; rw [g.next]; omega
      · rw [et, cB, cE]; show (p.tb.L ++ [_]).length + _ = _; rw [List.length_append]; have := g.len; simp; omega
      · intro y hy0; rw [et] at hy0
        have hy1 := List.mem_append.1 (show y ∈ p.tb.L ++ [_] from hy0)
        clear hy0
        rcases hy1 with hy | hy
        · have := g.last y hy; rw [hlen]; omega
        · simp at hy; subst hy; rw [hlen]; show r.lsn ≤ _; omega
      · intro q hq y hy0 e; rw [et] at hy0
        have hy1 := List.mem_append.1 (show y ∈ p.tb.L ++ [_] from hy0)
        clear hy0
        rcases hy1 with hy | hy
        · rcases List.mem_append.1 hq with hq | hq
          · exact g.quiet q hq y hy e
          · simp at hq; subst hq
            have := (g.ok.each y hy).tx2; omega
        · simp at hy; subst hy
          rcases List.mem_append.1 hq with hq | hq
          · have := g.below q hq
            have e : q.tx = p.tb.next := e
            omega
          · simp at hq; subst hq
            exact ⟨by omega, Int.le_refl _⟩
      · intro q hq; rw [et]; show q.tx < p.tb.next + 1
        rcases List.mem_append.1 hq with hq | hq
        · have := g.below q hq; omega
        · simp at hq; subst hq; omega
    · obtain ⟨hxm, hxt⟩ := getT_mem hx
      have hxo := g.ok.each x hxm
      rcases hc with ⟨hk, ht⟩ | ⟨hk3, hk6, ht⟩
      · have et : (p.step r).tb = ⟨delT p.tb.L r.tx, p.tb.next⟩ := ht
        rw [if_neg (by omega)] at cB
        rw [if_pos hk] at cE
        refine ⟨hok, by rw [et, cB]; exact g.next, ?_, ?_, ?_, ?_, hpg⟩
        · rw [et, cB, cE]
          have := delT_len g.ok.rise hx
          have := g.len
          show (delT p.tb.L r.tx).length + _ = _
          omega
        · intro y hy; rw [et] at hy
          have := g.last y (mem_delT hy).1; rw [hlen]; omega
        · intro q hq y hy e; rw [et] at hy
          obtain ⟨hy, hne⟩ := mem_delT (show y ∈ delT p.tb.L r.tx from hy)
          rcases List.mem_append.1 hq with hq | hq
          · exact g.quiet q hq y hy e
          · simp at hq; subst hq; exact absurd e.symm hne
        · intro q hq; rw [et]; show q.tx < p.tb.next
          rcases List.mem_append.1 hq with hq | hq
          · exact g.below q hq
          · simp at hq; subst hq; have := hxo.tx2; omega
      · have et : (p.step r).tb = ⟨setT p.tb.L (gone r.kind r.lsn x), p.tb.next⟩ := ht
        rw [if_neg (by omega)] at cB
        rw [if_neg (by omega)] at cE
        refine ⟨hok, by rw [et, cB]; exact g.next, ?_, ?_, ?_, ?_, hpg⟩
        · rw [et, cB, cE]; show (setT p.tb.L _).length + _ = _; rw [show (setT p.tb.L (gone r.kind r.lsn x)).length = p.tb.L.length by simp [setT]]; exact g.len
        · intro y hy; rw [et] at hy
          rcases mem_set2 (show y ∈ setT p.tb.L _ from hy) with ⟨rfl, -⟩ | ⟨hy, -⟩
          · show r.lsn ≤ _; rw [hlen]; omega
          · have := g.last y hy; rw [hlen]; omega
        · intro q hq y hy e; rw [et] at hy
          rcases mem_set2 (show y ∈ setT p.tb.L _ from hy) with ⟨rfl, -⟩ | ⟨hy, hne⟩
          · have e : q.tx = x.tx := e
            show q.kind ≠ 7 ∧ q.lsn ≤ r.lsn
            rcases List.mem_append.1 hq with hq | hq
            · have := g.quiet q hq x hxm e
              exact ⟨this.1, by omega⟩
            · simp at hq; subst hq; exact ⟨by omega, Int.le_refl _⟩
          · rcases List.mem_append.1 hq with hq | hq
            · exact g.quiet q hq y hy e
            · simp at hq; subst hq
              have hne : y.tx ≠ x.tx := hne
              omega
        · intro q hq; rw [et]; show q.tx < p.tb.next
          rcases List.mem_append.1 hq with hq | hq
          · exact g.below q hq
          · simp at hq; subst hq; have := hxo.tx2; omega
theorem countP_le' (rs : List RecM) : nB rs ≤ rs.length := List.countP_le_length
end Go.Proofs.Ytblngphjoafidaa
