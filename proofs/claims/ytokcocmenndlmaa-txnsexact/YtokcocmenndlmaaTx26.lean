import Derived.Test.YtokcocmenndlmaaTx25
namespace Go.Proofs.Ytokcocmenndlmaa
open Go.RowKit Go.QK Go.Maps Go.QM Go.QT
set_option maxRecDepth 100000
theorem run_moreL (ty : TypeId) (x : World) (B : Nat) (v : Value) (xs : List Lv) (hown : GRow x B 26 4 v xs.length (rowsC lvC xs)) (ad : Addr) (z : Lv) (hnews : Lies x (some ad) (lvC z)) (hl : xs.length ≤ 1000000) (hB : B ≤ x.heap.size) :
    ∃ v' x', (Builtin.append_ #[33, 33] ty #[v, .slice (some ad) 1 1]).run Try.prog x = .ok v' x' ∧ GRow x' B 26 4 v' (xs.length + 1) (rowsC lvC (xs ++ [z])) ∧ x.grownBy x' v.ownBlock ∧ (v'.ownBlock = v.ownBlock ∨ v'.ownBlock = some x.heap.size) ∧ ∀ a c, v = .slice a xs.length c → Lies x' a (rowsC lvC xs) := by
  obtain ⟨i0, hi, hz0, hz1, hz2⟩ := info_of info26
  have hlen := rowsC_len lvC 4 (fun _ => rfl) xs
  have hnw : ∀ j u, (lvC z)[j]? = some u → x.cell? (ad.add j) = some u := by
    intro j u hj
    obtain ⟨b, off, e1, _, hc⟩ := hnews.cellAt j u hj
    cases e1
    rw [addr_add]
    exact hc
  obtain ⟨v', w', hr, h2, h3, h4, h5⟩ := run_append_own_at (P := Try.prog) x B 33 ty 26 i0 _ 4 24 Try.underlying33 hi hz0 hz1 hz2 rfl (by decide) v xs.length (rowsC lvC xs) hown ad 1 1 (lvC z) rfl hnw (lvC_one z) (by unfold maxLen; omega) (by omega) hB
  have ho : GRow w' B 26 4 v' (xs.length + 1) (rowsC lvC (xs ++ [z])) := by
    have e : rowsC lvC (xs ++ [z]) = rowsC lvC xs ++ lvC z := by simp [rowsC]
    rw [e]
    exact h2
  refine ⟨v', w', hr, ho, h3, h5, fun a c hv => ?_⟩
  rcases hown.2 with ⟨q, q0⟩ | ⟨g', cap, cur, q, hbg, hg, hnc, hcm, hcs, htake⟩
  · exact .inl (by rw [List.eq_nil_of_length_eq_zero q0]; rfl)
  · rw [hv] at q
    simp only [Value.slice.injEq, true_and] at q
    obtain ⟨rfl, rfl⟩ := q
    subst hv
    have hlt := (World.ownsRow.lt hown g' rfl).2
    by_cases hroom : xs.length + 1 ≤ c
    · have := run_append_room (P := Try.prog) x 33 ty 26 i0 Try.underlying33 hi g' xs.length c cur hg ad 1 1 (lvC z) (by rw [hz1]; rfl) hnw (lvC_one z) hroom (by rw [hz1]; simp; omega)
      rw [hr] at this
      simp only [Result.ok.injEq] at this
      rw [this.1] at ho
      obtain ⟨a2, c2, e2, l2, -⟩ := GRow.lies ho
      cases e2
      have := lies_take4 l2 xs.length (Nat.lt_of_lt_of_le hlt h3.size)
      rw [List.take_left' rfl] at this
      exact this
    · have := run_append_grow (P := Try.prog) x 33 ty 26 i0 _ Try.underlying33 hi hz0 ⟨g', 0, none⟩ xs.length c (rowsC lvC xs) (by rw [hz1]; omega) (World.ownsRow.cells hown (g := g') rfl) ad 1 1 (lvC z) (by rw [hz1]; rfl) hnw (by omega) (by omega) (growslice_fits (by omega) (by rw [hz2]; omega))
      rw [hr] at this
      simp only [Result.ok.injEq] at this
      rw [this.2]
      obtain ⟨a2, c2, e2, l2, -⟩ := GRow.lies hown
      cases e2
      exact l2.below ((Below.refl _ x).drew.alloc (Nat.le_refl _) _)
theorem grown_keep {w w' : World} {v : Value} (h : w.grownBy w' v.ownBlock) : Keep (fun z => v.ownBlock = some z) w w' := (Keep.refl _ w).grown h (fun _ hg _ => hg)
theorem info33 : (Try.prog.info? 33).map (fun i => (i.zero, i.size, i.bytes)) = some (some (.slice none 0 0), 1, 24) := by kernel_rfl
theorem lies_val (w : World) (v : Value) (t : TypeId) : Lies (w.alloc (.cells #[v] t)) (some ⟨w.heap.size, 0, none⟩) [v] := by
  have h := Cells.new w #[v] t
  refine .inr ⟨w.heap.size, 0, rfl, h.1, fun i hi => ?_⟩
  have q := (h.2 i (by simpa using hi)).1
  rw [Nat.zero_add]
  exact q
def filledL (xs : List Lv) (z : Lv) (k : Nat) : List Lv := List.replicate k z ++ xs.drop k
theorem filled_step {xs : List Lv} {z : Lv} {k : Nat} (h : k < xs.length) : (filledL xs z k).set k z = filledL xs z (k + 1) := by
  unfold filledL
  rw [List.drop_eq_getElem_cons h, List.set_append_right _ _ (by simp), List.length_replicate, Nat.sub_self, List.set_cons_zero, List.replicate_succ']
  simp
theorem filled_all (xs : List Lv) (z : Lv) : filledL xs z xs.length = List.replicate xs.length z := by unfold filledL; simp
theorem filled_len {xs : List Lv} {z : Lv} {k : Nat} (h : k ≤ xs.length) : (filledL xs z k).length = xs.length := by unfold filledL; simp; omega
/-- A list is written over with its mark: the loop's world. -/
structure KeepPost (lab : Nat → Nat) (w : World) (B : Nat) (T : Tab) (gb : Nat) (w' : World) : Prop where
  ex : ∃ lab' vL vM e, Tb lab' w' B { T with vL := vL, vM := vM, ls := T.ls ++ [e] } ∧ (∀ x, x < w.heap.size → x ≠ gb → lab' x = lab x)
  kp : Keep (fun z => z = T.t ∨ T.vL.ownBlock = some z ∨ T.vM.ownBlock = some z ∨ z = gb) w w'
/-- The pure step: what an append to the book leaves. -/
theorem Tb.booked {lab : Nat → Nat} {w w1 w2 w3 x0 x2 x4 w5 : World} {B : Nat} {T : Tab} (h : Tb lab w B T) {gb n cap : Nat} (hlb : lab gb = 9) (hgl : gb < w.heap.size) (hn : n ≤ 10000)
    (k1 : Keep (fun z => z = gb) w w1) (_o1 : GRow w1 B 26 4 (.slice (some ⟨gb, 0, none⟩) n cap) n (marks T.ls.length n))
    {vLn : Value} (q1 : GRow w2 B 33 1 vLn (T.ls.length + 1) (T.ls.map (fun e => e.1) ++ [.slice (some ⟨gb, 0, none⟩) n cap])) (k2 : Keep (fun z => T.vL.ownBlock = some z) w1 w2) (s2 : vLn.ownBlock = T.vL.ownBlock ∨ vLn.ownBlock = some (w1.heap.size + 1)) (hw3 : w3 = w2.setCell ⟨T.t, 4, none⟩ vLn)
    (b0 : Below w3.heap.size w3 x0)
    {vMo : Value} (o2 : GRow x2 B 26 4 vMo (n + 1) (marks T.ls.length (n + 1))) (k3 : Keep (fun z => z = gb) x0 x2) (s3 : vMo.ownBlock = some gb ∨ vMo.ownBlock = some (x0.heap.size + 1)) (hse : Lies x2 (some ⟨gb, 0, none⟩) (marks T.ls.length n))
    {vMn : Value} (q4 : GRow x4 B 33 1 vMn (T.ls.length + 1) (T.ls.map (fun e => e.2.1) ++ [vMo])) (k4 : Keep (fun z => T.vM.ownBlock = some z) x2 x4) (s4 : vMn.ownBlock = T.vM.ownBlock ∨ vMn.ownBlock = some (x2.heap.size + 1)) (hw5 : w5 = x4.setCell ⟨T.t, 5, none⟩ vMn) (hmany : T.ls.length + 1 ≤ 100000) :
    KeepPost lab w B T gb w5 := by
  obtain ⟨N, hN⟩ : ∃ N, N = T.ls.length := ⟨_, rfl⟩
  have kS3 : Keep (fun z => z = T.t) w2 w3 := by rw [hw3]; exact (Keep.refl (fun z => z = T.t) w2).setCell (g := T.t) (j := 4) (fun _ => rfl) _
  have kS5 : Keep (fun z => z = T.t) x4 w5 := by rw [hw5]; exact (Keep.refl (fun z => z = T.t) x4).setCell (g := T.t) (j := 5) (fun _ => rfl) _
  have z1 := k1.size
  have z2 := k2.size
  have z3 := kS3.size
  have z4 := b0.size
  have z5 := k3.size
  have z6 := k4.size
  have z7 := kS5.size
  have ht := h.box.1
  have htg : T.t ≠ gb := by intro q; have := h.l1; rw [q] at this; omega
  have lL := fun x (hx : T.vL.ownBlock = some x) => And.intro (own_lt h.rl hx) (h.l6 x hx)
  have lM := fun x (hx : T.vM.ownBlock = some x) => And.intro (own_lt h.rm hx) (h.l7 x hx)
  have nL := fun x (hx : vLn.ownBlock = some x) => own_lt q1 hx
  have nO := fun x (hx : vMo.ownBlock = some x) => own_lt o2 hx
  have nM := fun x (hx : vMn.ownBlock = some x) => own_lt q4 hx
  -- where the new rows lie
  have dL : ∀ x, vLn.ownBlock = some x → (x < w.heap.size ∧ lab x = 6) ∨ (w1.heap.size + 1 = x ∧ x < w2.heap.size) := by
    intro x hx
    rcases s2 with e | e
    · rw [e] at hx; exact .inl (lL x hx)
    · have := nL x hx; rw [e] at hx; cases hx; exact .inr ⟨rfl, this⟩
  have dO : ∀ x, vMo.ownBlock = some x → x = gb ∨ (x0.heap.size + 1 = x ∧ x < x2.heap.size) := by
    intro x hx
    rcases s3 with e | e
    · rw [e] at hx; cases hx; exact .inl rfl
    · have := nO x hx; rw [e] at hx; cases hx; exact .inr ⟨rfl, this⟩
  have dM : ∀ x, vMn.ownBlock = some x → (x < w.heap.size ∧ lab x = 7) ∨ (x2.heap.size + 1 = x ∧ x < x4.heap.size) := by
    intro x hx
    rcases s4 with e | e
    · rw [e] at hx; exact .inl (lM x hx)
    · have := nM x hx; rw [e] at hx; cases hx; exact .inr ⟨rfl, this⟩
  obtain ⟨lab', hl'⟩ : ∃ lab' : Nat → Nat, lab' = fun x => if x < w.heap.size then (if x = gb then 10 + N else lab x) else if vLn.ownBlock = some x then 6 else if vMn.ownBlock = some x then 7 else 10 + N := ⟨_, rfl⟩
  have old : ∀ x, x < w.heap.size → x ≠ gb → lab' x = lab x := fun x hx hn => by rw [hl']; simp only; rw [if_pos hx, if_neg hn]
  have lgb : lab' gb = 10 + N := by rw [hl']; simp [hgl]
  have oldl : ∀ x, x < w.heap.size → lab x ≠ 9 → lab' x = lab x := fun x hx hn => old x hx (fun q => hn (by rw [q]; exact hlb))
  have labL : ∀ x, vLn.ownBlock = some x → lab' x = 6 := by
    intro x hx
    rcases dL x hx with ⟨a, b⟩ | ⟨a, b⟩
    · rw [oldl x a (by omega)]; exact b
    · rw [hl']; simp only; rw [if_neg (by omega), if_pos hx]
  have labM : ∀ x, vMn.ownBlock = some x → lab' x = 7 := by
    intro x hx
    rcases dM x hx with ⟨a, b⟩ | ⟨a, b⟩
    · rw [oldl x a (by omega)]; exact b
    · rw [hl']; simp only
      rw [if_neg (by omega), if_neg (fun q => by rcases dL x q with ⟨c, d⟩ | ⟨c, d⟩ <;> omega), if_pos hx]
  have labO : ∀ x, vMo.ownBlock = some x → lab' x = 10 + N := by
    intro x hx
    rcases dO x hx with a | ⟨a, b⟩
    · rw [a]; exact lgb
    · rw [hl']; simp only
      rw [if_neg (by omega), if_neg (fun q => by rcases dL x q with ⟨c, d⟩ | ⟨c, d⟩ <;> omega), if_neg (fun q => by rcases dM x q with ⟨c, d⟩ | ⟨c, d⟩ <;> omega)]
  -- what stays from the beginning to the end
  have kA : Keep (fun z => z = T.t ∨ T.vL.ownBlock = some z ∨ T.vM.ownBlock = some z ∨ z = gb) w w5 :=
    (((((((k1.mono (T := fun z => z = T.t ∨ T.vL.ownBlock = some z ∨ T.vM.ownBlock = some z ∨ z = gb) (fun _ _ q => .inr (.inr (.inr q)))).trans k2 (fun _ _ q => .inr (.inl q))).trans kS3 (fun _ _ q => .inl q)).then_below b0).trans k3 (fun _ _ q => .inr (.inr (.inr q)))).trans k4 (fun _ _ q => .inr (.inr (.inl q)))).trans kS5 (fun _ _ q => .inl q))
  have hs : ∀ x, (x = T.t ∨ T.vL.ownBlock = some x ∨ T.vM.ownBlock = some x ∨ x = gb) → lab x = 1 ∨ lab x = 6 ∨ lab x = 7 ∨ lab x = 9 := by
    rintro x (q | q | q | q)
    · rw [q]; exact .inl h.l1
    · exact .inr (.inl (lL x q).2)
    · exact .inr (.inr (.inl (lM x q).2))
    · rw [q]; exact .inr (.inr (.inr hlb))
  have nt : ∀ {v : Value}, (∀ x, v.ownBlock = some x → lab' x ≠ 1) → v.ownBlock ≠ some T.t := fun hv q => hv _ q (by rw [oldl _ ht (by have := h.l1; omega)]; exact h.l1)
  refine ⟨⟨lab', vLn, vMn, (.slice (some ⟨gb, 0, none⟩) n cap, vMo, n), ?_, old⟩, kA⟩
  have hbox : Cells w5 T.t [ptr (T.b 0), ptr (T.b 1), ptr (T.c 0), ptr (T.c 1), vLn, vMn] := by
    have a1 := (h.box.keep k1 htg).keep k2 (fun q => by have := (lL _ q).2; have := h.l1; omega)
    have a2 := a1.stored (j := 4) (by simp) vLn
    rw [← hw3] at a2
    have a3 := ((a2.below b0).keep k3 htg).keep k4 (fun q => by have := (lM _ q).2; have := h.l1; omega)
    have a4 := a3.stored (j := 5) (by simp) vMn
    rw [← hw5] at a4
    simpa using a4
  refine ⟨hbox, fun i hi => ?_, fun i hi => ?_, ?_, ?_, fun k e he => ?_, by simp; omega, by rw [oldl _ ht (by have := h.l1; omega)]; exact h.l1, fun i hi => ?_, fun i hi => ?_, labL, labM, h.low⟩
  · have p := h.pr i hi
    have l := h.l2 i hi
    exact p.keep kA (fun q => by have := hs _ q; omega) (fun q => by have := hs _ q; omega)
  · have p := h.rr i hi
    have l := h.l4 i hi
    exact p.keep kA (fun q => by have := hs _ q; omega) (fun x hx q => by have := hs _ q; have := l.2 x hx; omega)
  · have r1 := GRow.keep q1 kS3 (fun x hx q => nt (v := vLn) (fun y hy => by rw [labL y hy]; omega) (by rw [hx, q]))
    have r2 := GRow.keep (GRow.below r1 b0) k3 (fun x hx q => by have := labL x hx; rw [q] at this; omega)
    have r3 := GRow.keep r2 k4 (fun x hx q => by have a := labL x hx; have b := lM x q; rw [oldl x b.1 (by omega)] at a; omega)
    have r4 := GRow.keep r3 kS5 (fun x hx q => nt (v := vLn) (fun y hy => by rw [labL y hy]; omega) (by rw [hx, q]))
    simpa using r4
  · have r4 := GRow.keep q4 kS5 (fun x hx q => nt (v := vMn) (fun y hy => by rw [labM y hy]; omega) (by rw [hx, q]))
    simpa using r4
  · by_cases hk : k < T.ls.length
    · have he' : T.ls[k]? = some e := by
        rw [List.getElem?_append_left hk] at he
        exact he
      have E := (h.ent k e he').keep kA (fun x q _ => by have := hs _ q; omega)
      have E0 := h.ent k e he'
      obtain ⟨⟨aL, cL, aM, cM, e1, e2, l1, l2, b1, b2⟩, hf⟩ := E
      obtain ⟨⟨aL', cL', aM', cM', e1', e2', -, -, b1', b2'⟩, -⟩ := E0
      rw [e1] at e1'
      rw [e2] at e2'
      cases e1'
      cases e2'
      exact ⟨⟨aL, cL, aM, cM, e1, e2, l1, l2, fun ad ha => ⟨(b1 ad ha).1, by rw [oldl _ (b1' ad ha).1 (by have := (b1' ad ha).2; omega)]; exact (b1' ad ha).2⟩, fun ad ha => ⟨(b2 ad ha).1, by rw [oldl _ (b2' ad ha).1 (by have := (b2' ad ha).2; omega)]; exact (b2' ad ha).2⟩⟩, hf⟩
    · have hk2 : k = T.ls.length := by
        have := (List.getElem?_eq_some_iff.1 he).1
        simp at this
        omega
      subst hk2
      rw [List.getElem?_append_right (Nat.le_refl _)] at he
      simp at he
      subst he
      have gM : ¬ T.vM.ownBlock = some gb := fun q => by have := (lM _ q).2; omega
      have lies1 : Lies w5 (some ⟨gb, 0, none⟩) (marks T.ls.length n) := (hse.keep k4 (fun ad ha => by cases ha; exact gM)).keep kS5 (fun ad ha => by cases ha; exact fun q => htg q.symm)
      obtain ⟨aO, cO, hvO, sO, -⟩ := GRow.lies o2
      have ownO : ∀ ad, aO = some ad → vMo.ownBlock = some ad.block := fun ad ha => by
        rw [hvO, ha]
        rfl
      have lies2 : Lies w5 aO (marks T.ls.length (n + 1)) := by
        refine (sO.keep k4 (fun ad ha q => ?_)).keep kS5 (fun ad ha q => ?_)
        · have l1 := labO _ (ownO ad ha); have l2 := lM _ q; rw [oldl _ l2.1 (by omega)] at l1; omega
        · have l1 := labO _ (ownO ad ha); rw [q, oldl _ ht (by have := h.l1; omega)] at l1; have := h.l1; omega
      refine ⟨⟨some ⟨gb, 0, none⟩, cap, aO, cO, rfl, hvO, lies1, lies2, ?_, ?_⟩, hn⟩
      · intro ad ha
        cases ha
        exact ⟨by show gb < w5.heap.size; omega, by show lab' gb = _; rw [lgb, hN]⟩
      · intro ad ha
        have := nO _ (ownO ad ha)
        exact ⟨by omega, by rw [labO _ (ownO ad ha), hN]⟩
  · have p := (h.pr i hi).lt
    have l := h.l2 i hi
    rw [oldl _ p.1 (by omega), oldl _ p.2 (by omega)]
    exact l
  · have p := h.rr i hi
    have l := h.l4 i hi
    exact ⟨by rw [oldl _ p.lt.1 (by omega)]; exact l.1, fun x hx => by have a := p.lt.2 x hx; have b := l.2 x hx; rw [oldl x a (by omega)]; exact b⟩
end Go.Proofs.Ytokcocmenndlmaa
