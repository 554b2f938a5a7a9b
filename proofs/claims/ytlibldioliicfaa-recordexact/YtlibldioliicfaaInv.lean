import Derived.Deep.RegionHeld
namespace Go.QK

/-! A region that draws its order and makes memory, by ONE invariant: each operation once, whatever the order. -/
section
variable {P : Program} {ops : Array Oper} {Q : Exit → Act → World → Prop} {md : Region.Mode}

/-- What stands in operation i's slot. -/
def slotOf (ops : Array Oper) (i : Nat) (a : Act) : Value :=
  match ops[i]? with
  | some o => (match o.dst with | some d => a.tmps.getD d undef | none => undef)
  | none => undef
/-- No operation's slot. -/
def outside (ops : Array Oper) (j : Nat) : Bool := ops.all fun o => o.dst != some j

def rest (listed : Array Bool) : Nat := listed.toList.countP (· == false)

theorem count_step : (l : List Bool) → (i : Nat) → l[i]? = some false → (l.set i true).countP (· == false) + 1 = l.countP (· == false)
  | [], i, h => by simp at h
  | x :: l, 0, h => by
    simp at h
    subst h
    simp
  | x :: l, i + 1, h => by
    have := count_step l i (by simpa using h)
    simp only [List.set_cons_succ, List.countP_cons]
    omega
theorem rest_step {listed : Array Bool} {i : Nat} (h : listed.getD i true = false) : rest (listed.setIfInBounds i true) + 1 = rest listed := by
  have hi : i < listed.size := by
    rcases Nat.lt_or_ge i listed.size with q | q
    · exact q
    · simp [Array.getElem?_eq_none q] at h
  have hv : listed[i] = false := by simpa [hi] using h
  unfold rest
  rw [Array.toList_setIfInBounds]
  exact count_step _ _ (by simp [hi, hv])

/-- The invariant. -/
structure InvR (md : Region.Mode) (ops : Array Oper) (a0 : Act) (G : World → Prop) (U : Nat → World → Prop) (R : Nat → Value → World → Prop) (listed : Array Bool) (a : Act) (w : World) : Prop where
  lsize : listed.size = ops.size
  size : a.tmps.size = a0.tmps.size
  defers : a.defers = a0.defers
  good : G w
  out : ∀ j, outside ops j = true → a.tmps.getD j undef = a0.tmps.getD j undef
  inn : ∀ i, listed.getD i false = true → R i (slotOf ops i a) w
  un : ∀ i, i < ops.size → listed.getD i true = false → U i w
  old : ∀ i, listed.getD i true = false → slotOf ops i a = slotOf ops i a0
  closed : ∀ j o, ops[j]? = some o → listed.getD j false = true → ∀ e ∈ o.after, Region.binds md e = true → listed.getD e.on false = true

/-- Each slot is written once, and is there. -/
def apartSlots (ops : Array Oper) (n : Nat) : Bool :=
  (List.range ops.size).all fun i => match ops[i]? with
    | some oi => match oi.dst with
      | some d => decide (d < n) && (List.range ops.size).all fun j => i == j || match ops[j]? with
        | some oj => oj.dst != some d
        | none => true
      | none => true
    | none => true

/-- Operation j waits for operation i. -/
def waits (md : Region.Mode) (ops : Array Oper) (j i : Nat) : Bool :=
  match ops[j]? with
  | some o => o.after.any fun e => Region.binds md e && e.on == i
  | none => false

/-- What an operation must do: its value is right, and nothing else that was right gets wrong. -/
def StepR (P : Program) (ops : Array Oper) (Q : Exit → Act → World → Prop) (md : Region.Mode) (a0 : Act) (G : World → Prop) (U : Nat → World → Prop) (R : Nat → Value → World → Prop) (i : Nat) : Prop :=
  ∀ (a : Act) (w : World), a.tmps.size = a0.tmps.size → a.defers = a0.defers → G w → U i w → (∀ j, outside ops j = true → a.tmps.getD j undef = a0.tmps.getD j undef) →
    (∀ k, waits md ops i k = true → R k (slotOf ops k a) w) →
    (∀ j, waits md ops j i = true → slotOf ops j a = slotOf ops j a0) →
    wpOp P ops Q i (fun a' w' => ∃ v, a' = a.put ((ops[i]?).bind (·.dst)) v ∧ G w' ∧ R i v w' ∧ (∀ j u, j ≠ i → waits md ops j i = false → R j u w → R j u w') ∧ ∀ j, j ≠ i → waits md ops i j = false → U j w → U j w') a w

theorem getD_put_same (a : Act) (d : Nat) (v : Value) (h : d < a.tmps.size) : (a.put (some d) v).tmps.getD d undef = v := by
  simp [Act.put, h]
theorem getD_put_other (a : Act) (d : Option Nat) (j : Nat) (v : Value) (h : d ≠ some j) : (a.put d v).tmps.getD j undef = a.tmps.getD j undef := by
  cases d with
  | none => rfl
  | some d =>
    have : d ≠ j := fun e => h (by rw [e])
    simp only [Act.put, Array.getD_eq_getD_getElem?]
    rw [Array.getElem?_setIfInBounds_ne this]

theorem inv_step {a0 : Act} {G : World → Prop} {U : Nat → World → Prop} {R : Nat → Value → World → Prop} (hap : apartSlots ops a0.tmps.size = true) {i : Nat} {oi : Oper} (ho : ops[i]? = some oi)
    {listed : Array Bool} {a : Act} {w w' : World} {v : Value} (h : InvR md ops a0 G U R listed a w) (hd : oi.dst = none → ∀ u u' : Value, ∀ x, R i u x → R i u' x) (hg : G w') (hr : R i v w') (hk : ∀ j u, j ≠ i → waits md ops j i = false → R j u w → R j u w') (hi0 : listed.getD i true = false) (hu : ∀ j, j ≠ i → waits md ops i j = false → U j w → U j w') (hdeps : ∀ e ∈ oi.after, Region.binds md e = true → listed.getD e.on false = true) :
    InvR md ops a0 G U R (listed.setIfInBounds i true) (a.put oi.dst v) w' := by
  have hi : i < ops.size := (Array.getElem?_eq_some_iff.1 ho).1
  have hall := List.all_eq_true.1 hap i (List.mem_range.2 hi)
  rw [ho] at hall
  have hspec : ∀ j oj, ops[j]? = some oj → i ≠ j → (oi.dst ≠ oj.dst ∨ oi.dst = none) := by
    intro j oj hj hne
    have hjl : j < ops.size := (Array.getElem?_eq_some_iff.1 hj).1
    cases hh : oi.dst with
    | none => exact .inr rfl
    | some d =>
      simp only [hh, Bool.and_eq_true] at hall
      have := List.all_eq_true.1 hall.2 j (List.mem_range.2 hjl)
      rw [hj] at this
      simp [hne] at this
      exact .inl (fun q => this q.symm)
  have hlt : ∀ d, oi.dst = some d → d < a0.tmps.size := by
    intro d hdd
    simp only [hdd, Bool.and_eq_true, decide_eq_true_eq] at hall
    exact hall.1
  have hslot : ∀ j, i ≠ j → slotOf ops j (a.put oi.dst v) = slotOf ops j a := by
    intro j q
    unfold slotOf
    cases hoj : ops[j]? with
    | none => rfl
    | some oj =>
      simp only
      cases hh : oj.dst with
      | none => rfl
      | some d =>
        simp only
        refine getD_put_other _ _ _ _ ?_
        rcases hspec j oj hoj q with r | r
        · rw [← hh]; exact r
        · rw [r]; nofun
  refine ⟨by simpa using h.lsize, ?_, ?_, hg, ?_, ?_, ?_, ?_, ?_⟩
  · cases hh : oi.dst <;> simp [Act.put, h.size]
  · cases hh : oi.dst <;> simp [Act.put, h.defers]
  · intro j hj
    have : oi.dst ≠ some j := by
      intro e
      have := Array.all_eq_true.1 hj i hi
      have he : ops[i] = oi := (Array.getElem?_eq_some_iff.1 ho).2
      rw [he, e] at this
      simp at this
    rw [getD_put_other _ _ _ _ this]
    exact h.out j hj
  · intro j hj
    by_cases q : i = j
    · subst q
      unfold slotOf
      rw [ho]
      simp only
      cases hh : oi.dst with
      | none => exact hd hh v undef w' hr
      | some d =>
        simp only
        rw [getD_put_same _ _ _ (by rw [h.size]; exact hlt d hh)]
        exact hr
    · have hj' : listed.getD j false = true := by
        simp only [Array.getD_eq_getD_getElem?] at hj ⊢
        rwa [Array.getElem?_setIfInBounds_ne q] at hj
      have hw : waits md ops j i = false := by
        cases hv : waits md ops j i with
        | false => rfl
        | true =>
          exfalso
          unfold waits at hv
          cases hoj : ops[j]? with
          | none => rw [hoj] at hv; cases hv
          | some oj =>
            rw [hoj] at hv
            obtain ⟨k, hk1, hke⟩ := Array.any_eq_true.1 hv
            simp only [Bool.and_eq_true, beq_iff_eq] at hke
            have := h.closed j oj hoj hj' _ (Array.getElem_mem hk1) hke.1
            rw [hke.2] at this
            have hil2 : i < listed.size := by rw [h.lsize]; exact hi
            simp [hil2] at this hi0
            rw [this] at hi0
            cases hi0
      have := hk j _ (fun e => q e.symm) hw (h.inn j hj')
      rw [hslot j q]
      exact this
  · intro j hjl hj
    by_cases q : i = j
    · subst q
      exfalso
      have : i < listed.size := by rw [h.lsize]; exact hi
      simp [this] at hj
    · have hj' : listed.getD j true = false := by
        simp only [Array.getD_eq_getD_getElem?] at hj ⊢
        rwa [Array.getElem?_setIfInBounds_ne q] at hj
      refine hu j (fun e => q e.symm) ?_ (h.un j hjl hj')
      cases hv : waits md ops i j with
      | false => rfl
      | true =>
        exfalso
        unfold waits at hv
        rw [ho] at hv
        obtain ⟨k, hk1, hke⟩ := Array.any_eq_true.1 hv
        simp only [Bool.and_eq_true, beq_iff_eq] at hke
        have := hdeps _ (Array.getElem_mem hk1) hke.1
        rw [hke.2] at this
        have hil2 : j < listed.size := by rw [h.lsize]; exact hjl
        simp [hil2] at this hj'
        rw [this] at hj'
        cases hj'
  · intro j hj
    by_cases q : i = j
    · subst q
      exfalso
      have : i < listed.size := by rw [h.lsize]; exact hi
      simp [this] at hj
    · rw [hslot j q]
      refine h.old j ?_
      simp only [Array.getD_eq_getD_getElem?] at hj ⊢
      rwa [Array.getElem?_setIfInBounds_ne q] at hj
  · intro j o hoj hj e he hb
    have mono : ∀ k, listed.getD k false = true → (listed.setIfInBounds i true).getD k false = true := by
      intro k hk
      by_cases q : i = k
      · subst q
        have : i < listed.size := by rw [h.lsize]; exact hi
        simp [this]
      · simp only [Array.getD_eq_getD_getElem?] at hk ⊢
        rwa [Array.getElem?_setIfInBounds_ne q]
    by_cases q : i = j
    · subst q
      have : o = oi := by rw [ho] at hoj; exact (Option.some.inj hoj).symm
      subst this
      exact mono _ (hdeps e he hb)
    · refine mono _ (h.closed j o hoj ?_ e he hb)
      simp only [Array.getD_eq_getD_getElem?] at hj ⊢
      rwa [Array.getElem?_setIfInBounds_ne q] at hj

/-- Whatever order is drawn. -/
theorem wpAny_inv {a0 : Act} {G : World → Prop} {U : Nat → World → Prop} {R : Nat → Value → World → Prop} (hap : apartSlots ops a0.tmps.size = true)
    (hd : ∀ i o, ops[i]? = some o → o.dst = none → ∀ u u' : Value, ∀ x, R i u x → R i u' x)
    (hstep : ∀ i, i < ops.size → StepR P ops Q md a0 G U R i) (hQ : ∀ listed a w, InvR md ops a0 G U R listed a w → Region.ready md ops listed = [] → Q .normal a w) :
    ∀ (fuel : Nat) (listed : Array Bool) (a : Act) (w : World), rest listed ≤ fuel → InvR md ops a0 G U R listed a w → wpAny P md ops Q fuel listed a w
  | 0, listed, a, w, hf, h => by
    have hr : Region.ready md ops listed = [] := by
      refine List.eq_nil_iff_forall_not_mem.2 fun i hi => ?_
      have := rest_step (mem_ready.1 hi).1
      omega
    exact ⟨hr, hQ _ _ _ h hr⟩
  | fuel + 1, listed, a, w, hf, h => by
    refine ⟨fun hr => hQ _ _ _ h hr, fun i hi => ?_⟩
    obtain ⟨hl, o, ho, hdeps⟩ := mem_ready.1 hi
    have hil : i < ops.size := (Array.getElem?_eq_some_iff.1 ho).1
    refine wpOp_mono ?_ (hstep i hil a w h.size h.defers h.good (h.un i hil hl) h.out ?_ ?_)
    · rintro a' w' ⟨v, rfl, hg, hr, hk, hu⟩
      have hrest := rest_step hl
      rw [ho]
      exact wpAny_inv hap hd hstep hQ fuel _ _ _ (by omega) (inv_step hap ho h (hd i o ho) hg hr hk hl hu hdeps)
    · intro k hk
      unfold waits at hk
      rw [ho] at hk
      obtain ⟨q, hq, hqe⟩ := Array.any_eq_true.1 hk
      simp only [Bool.and_eq_true, beq_iff_eq] at hqe
      rw [← hqe.2]
      exact h.inn _ (hdeps _ (Array.getElem_mem hq) hqe.1)
    · intro j hany
      unfold waits at hany
      cases hoj : ops[j]? with
      | none => rw [hoj] at hany; cases hany
      | some oj =>
      rw [hoj] at hany
      refine h.old j ?_
      cases hv : listed.getD j true with
      | false => rfl
      | true =>
        exfalso
        obtain ⟨k, hk, hke⟩ := Array.any_eq_true.1 hany
        simp only [Bool.and_eq_true, beq_iff_eq] at hke
        have hjl : j < listed.size := by rw [h.lsize]; exact (Array.getElem?_eq_some_iff.1 hoj).1
        have hj1 : listed.getD j false = true := by
          simp [hjl] at hv ⊢
          exact hv
        have := h.closed j oj hoj hj1 _ (Array.getElem_mem hk) hke.1
        rw [hke.2] at this
        have hil2 : i < listed.size := by rw [h.lsize]; exact hil
        simp [hil2] at this hl
        rw [this] at hl
        cases hl

/-- Edges that bind lead back. -/
def leadsBack (ops : Array Oper) : Bool :=
  (List.range ops.size).all fun i => match ops[i]? with
    | some o => o.after.all fun e => !Region.binds .any e || decide (e.on < i)
    | none => true
theorem all_listed {listed : Array Bool} (hl : listed.size = ops.size) (hb : leadsBack ops = true) (hr : Region.ready .any ops listed = []) : ∀ n i, i < n → i < ops.size → listed.getD i false = true
  | 0, _, h, _ => by omega
  | n + 1, i, _, hi => by
    have hil : i < listed.size := by rw [hl]; exact hi
    cases hv : listed[i] with
    | true => simp [hil, hv]
    | false =>
      exfalso
      have ho : ops[i]? = some ops[i] := by simp [hi]
      have hall := List.all_eq_true.1 hb i (List.mem_range.2 hi)
      rw [ho] at hall
      have : i ∈ Region.ready .any ops listed := by
        refine mem_ready.2 ⟨by simp [hil, hv], ops[i], ho, fun e he hbe => ?_⟩
        obtain ⟨j, hj, rfl⟩ := Array.getElem_of_mem he
        have := Array.all_eq_true.1 hall j hj
        simp [hbe] at this
        exact all_listed hl hb hr n _ (by omega) (by omega)
      rw [hr] at this
      cases this

theorem hd_of_all {R : Nat → Value → World → Prop} (h : (ops.all fun o => o.dst.isSome) = true) : ∀ i o, ops[i]? = some o → o.dst = none → ∀ u u' : Value, ∀ x, R i u x → R i u' x := by
  intro i o ho hn
  exfalso
  obtain ⟨hi, he⟩ := Array.getElem?_eq_some_iff.1 ho
  have := Array.all_eq_true.1 h i hi
  rw [he, hn] at this
  cases this

/-- The slots that the region writes. -/
def dsts (ops : Array Oper) : List Nat := ops.toList.filterMap (·.dst)
theorem outside_of {j : Nat} (h : j ∉ dsts ops) : outside ops j = true := by
  unfold outside
  rw [Array.all_eq_true]
  intro i hi
  simp
  intro q
  apply h
  unfold dsts
  rw [List.mem_filterMap]
  exact ⟨ops[i], by simp, q⟩

/-- A frame that parts from another at some slots alone. -/
theorem act_puts (a' : Act) : (ds : List Nat) → (b : Act) → a'.tmps.size = b.tmps.size → a'.defers = b.defers → (∀ j, j ∉ ds → a'.tmps.getD j undef = b.tmps.getD j undef) →
    a' = ds.foldl (fun b d => b.put (some d) (a'.tmps.getD d undef)) b
  | [], b, hs, hd, h => by
    obtain ⟨t, d⟩ := a'
    obtain ⟨t', d'⟩ := b
    simp only at hs hd h
    subst hd
    congr 1
    apply Array.ext hs
    intro i h1 h2
    have := h i (by simp)
    simpa [h1, h2] using this
  | d :: ds, b, hs, hd, h => by
    refine act_puts a' ds (b.put (some d) (a'.tmps.getD d undef)) (by simpa [Act.put] using hs) (by simpa [Act.put] using hd) ?_
    intro j hj
    by_cases q : d = j
    · subst q
      by_cases q2 : d < b.tmps.size
      · rw [getD_put_same _ _ _ q2]
      · have h1 : a'.tmps.getD d undef = undef := by simp [Array.getElem?_eq_none (Nat.le_of_not_lt (by rw [hs]; exact q2))]
        rw [h1]
        simp [Act.put, Array.getElem?_eq_none (Nat.le_of_not_lt (show ¬ d < (b.tmps.setIfInBounds d undef).size by simpa using q2))]
    · rw [getD_put_other _ _ _ _ (by intro e; cases e; exact q rfl)]
      exact h j (by simp [hj]; exact fun e => q e.symm)

/-- The region, from its beginning to its end: behind it all values are right. -/
theorem region_inv {id : Nat} {a0 : Act} {w : World} (G : World → Prop) (U : Nat → World → Prop) (R : Nat → Value → World → Prop) (hm : P.follows .mixedOrders = true) (hap : apartSlots ops a0.tmps.size = true)
    (hb : leadsBack ops = true)
    (hd : ∀ i o, ops[i]? = some o → o.dst = none → ∀ u u' : Value, ∀ x, R i u x → R i u' x)
    (hG : G w.drew) (hU : ∀ i, i < ops.size → U i w.drew) (hstep : ∀ i, i < ops.size → StepR P ops Q .any a0 G U R i)
    (hQ : ∀ a' w', a' = (dsts ops).foldl (fun b d => b.put (some d) (a'.tmps.getD d undef)) a0 → G w' → (∀ i, i < ops.size → R i (slotOf ops i a') w') → Q .normal a' w') :
    (Code.region id ops true).wp P Q a0 w := by
  refine wp_region_any hm (wpAny_inv hap hd hstep ?_ _ _ _ _ ?_ ?_)
  · intro listed a w' h hr
    refine hQ a w' ?_ h.good (fun i hi => h.inn i (all_listed h.lsize hb hr (i + 1) i (by omega) hi))
    exact act_puts a _ a0 h.size h.defers (fun j hj => h.out j (outside_of hj))
  · unfold rest
    refine Nat.le_trans List.countP_le_length ?_
    simp
  · refine ⟨by simp, rfl, rfl, hG, fun _ _ => rfl, fun i hi => ?_, fun i hi _ => hU i hi, fun _ _ => rfl, fun j o ho hi => ?_⟩
    · exfalso
      simp only [Array.getD_eq_getD_getElem?, Array.getElem?_replicate] at hi
      split at hi <;> simp at hi
    · exfalso
      simp only [Array.getD_eq_getD_getElem?, Array.getElem?_replicate] at hi
      split at hi <;> simp at hi

/-! Single operations. -/
theorem step_open {i : Nat} {o : Oper} {K : Act → World → Prop} {a : Act} {w : World} (ho : ops[i]? = some o) (hg : o.guard = none) (h : o.wp P a w K Q) : wpOp P ops Q i K a w := by
  unfold wpOp
  rw [ho]
  simp only [Region.wanted, hg, if_true]
  exact .inl h
/-- It yields a value, and leaves this world. -/
theorem step_value {G : World → Prop} {U : Nat → World → Prop} {R : Nat → Value → World → Prop} {i : Nat} {o : Oper} {a : Act} {w w' : World} {v : Value} (ho : ops[i]? = some o) (hg : o.guard = none)
    (hrun : (execOp a.eval o).run P w = .ok (.value v) w') (h1 : G w') (h2 : R i v w') (h3 : ∀ j u, j ≠ i → waits md ops j i = false → R j u w → R j u w') (h4 : ∀ j, j ≠ i → waits md ops i j = false → U j w → U j w') :
    wpOp P ops Q i (fun a' w' => ∃ v, a' = a.put ((ops[i]?).bind (·.dst)) v ∧ G w' ∧ R i v w' ∧ (∀ j u, j ≠ i → waits md ops j i = false → R j u w → R j u w') ∧ ∀ j, j ≠ i → waits md ops i j = false → U j w → U j w') a w := by
  refine step_open ho hg ?_
  unfold Oper.wp
  rw [hrun]
  exact ⟨v, by rw [ho]; rfl, h1, h2, h3, h4⟩
/-- It reads and reckons. -/
theorem step_pure {G : World → Prop} {U : Nat → World → Prop} {R : Nat → Value → World → Prop} {i : Nat} {o : Oper} {a : Act} {w : World} {v : Value} (ho : ops[i]? = some o) (hg : o.guard = none)
    (hrun : (execOp a.eval o).run P w = .ok (.value v) w) (h1 : G w) (h2 : R i v w) :
    wpOp P ops Q i (fun a' w' => ∃ v, a' = a.put ((ops[i]?).bind (·.dst)) v ∧ G w' ∧ R i v w' ∧ (∀ j u, j ≠ i → waits md ops j i = false → R j u w → R j u w') ∧ ∀ j, j ≠ i → waits md ops i j = false → U j w → U j w') a w :=
  step_value ho hg hrun h1 h2 (fun _ _ _ _ h => h) (fun _ _ _ h => h)
/-- It calls a function. -/
theorem step_call {G : World → Prop} {U : Nat → World → Prop} {R : Nat → Value → World → Prop} {i : Nat} {o : Oper} {a : Act} {w : World} {f : FuncId} {args : Array Value} (ho : ops[i]? = some o) (hg : o.guard = none)
    (hrun : (execOp a.eval o).run P w = .ok (.enter f args) w)
    (h : Calls P f args w fun e w' => ∃ v, e = .returned v ∧ G w' ∧ R i v w' ∧ (∀ j u, j ≠ i → waits md ops j i = false → R j u w → R j u w') ∧ ∀ j, j ≠ i → waits md ops i j = false → U j w → U j w') :
    wpOp P ops Q i (fun a' w' => ∃ v, a' = a.put ((ops[i]?).bind (·.dst)) v ∧ G w' ∧ R i v w' ∧ (∀ j u, j ≠ i → waits md ops j i = false → R j u w → R j u w') ∧ ∀ j, j ≠ i → waits md ops i j = false → U j w → U j w') a w := by
  refine step_open ho hg ?_
  unfold Oper.wp
  rw [hrun]
  refine Calls.mono h ?_
  rintro e w' ⟨v, rfl, rest⟩
  exact ⟨v, by rw [ho]; rfl, rest⟩
end
end Go.QK
