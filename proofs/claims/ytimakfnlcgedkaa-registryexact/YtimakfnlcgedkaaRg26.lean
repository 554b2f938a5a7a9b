import Derived.Test.YtimakfnlcgedkaaRg25
namespace Go.Proofs.Ytimakfnlcgedkaa
open Go.RowKit Go.QK Go.Maps Go.QM Go.QR
set_option maxRecDepth 100000
theorem run_more1 (ty : TypeId) (x : World) (B : Nat) (v : Value) (xs : List Int) (hown : Owns .i64 3 x B v xs) (ad : Addr) (z : Int) (hnews : Lies x (some ad) [.int .i64 z]) (hl : xs.length ≤ 1000000) (hB : B ≤ x.heap.size) :
    ∃ v' x', (Builtin.append_ #[34, 34] ty #[v, .slice (some ad) 1 1]).run Try.prog x = .ok v' x' ∧ Owns .i64 3 x' B v' (xs ++ [z]) ∧ x.grownBy x' v.ownBlock ∧ (v'.ownBlock = v.ownBlock ∨ v'.ownBlock = some x.heap.size) ∧ ∀ a c, v = .slice a xs.length c → Go.QK.Seen .i64 x' a xs := by
  obtain ⟨i0, hi, hz0, hz1, hz2⟩ := info_of info3
  have hnw : ∀ j u, [Value.int .i64 z][j]? = some u → x.cell? (ad.add j) = some u := by
    intro j u hj
    obtain ⟨b, off, e1, _, hc⟩ := hnews.cellAt j u hj
    cases e1
    rw [addr_add]
    exact hc
  have hone : ∀ u ∈ [Value.int .i64 z], u.oneCell' = true := by intro u hu; simp at hu; subst hu; rfl
  obtain ⟨v', w', hr, h2, h3, h4, h5⟩ := run_append_own_at (P := Try.prog) x B 34 ty 3 i0 (.int .i64 0) 1 8 Try.underlying34 hi hz0 hz1 hz2 rfl (by decide) v xs.length (xs.map (Value.int .i64)) hown ad 1 1 [.int .i64 z] rfl hnw hone (by unfold maxLen; omega) (by omega) hB
  have ho : Owns .i64 3 w' B v' (xs ++ [z]) := by
    unfold Owns
    rw [List.length_append, List.map_append]
    exact h2
  refine ⟨v', w', hr, ho, h3, h5, fun a c hv => ?_⟩
  rcases hown.2 with ⟨q, q0⟩ | ⟨g', cap, cur, q, hbg, hg, hnc, hcm, hcs, htake⟩
  · exact .inl (List.eq_nil_of_length_eq_zero q0)
  · rw [hv] at q
    simp only [Value.slice.injEq, true_and] at q
    obtain ⟨rfl, rfl⟩ := q
    subst hv
    by_cases hroom : xs.length + 1 ≤ c
    · have := run_append_room (P := Try.prog) x 34 ty 3 i0 Try.underlying34 hi g' xs.length c cur hg ad 1 1 [.int .i64 z] (by rw [hz1]; rfl) hnw hone hroom (by rw [hz1]; simp; omega)
      rw [hr] at this
      simp only [Result.ok.injEq] at this
      rw [this.1] at ho
      have := Seen.take (Owns.seen_at ho) xs.length
      rw [List.take_left] at this
      exact this
    · have := run_append_grow (P := Try.prog) x 34 ty 3 i0 (.int .i64 0) Try.underlying34 hi hz0 ⟨g', 0, none⟩ xs.length c (xs.map (Value.int .i64)) (by rw [hz1]; simp) (World.ownsRow.cells hown (g := g') rfl) ad 1 1 [.int .i64 z] (by rw [hz1]; rfl) hnw (by omega) (by omega) (growslice_fits (by omega) (by rw [hz2]; omega))
      rw [hr] at this
      simp only [Result.ok.injEq] at this
      rw [this.2]
      exact Go.QK.Seen.below (Owns.seen_at hown) ((Below.refl _ x).drew.alloc (Nat.le_refl _) _)


theorem info34 : (Try.prog.info? 34).map (fun i => (i.zero, i.size, i.bytes)) = some (some (.slice none 0 0), 1, 24) := by kernel_rfl
theorem lies_val (w : World) (v : Value) (t : TypeId) : Lies (w.alloc (.cells #[v] t)) (some ⟨w.heap.size, 0, none⟩) [v] := by
  have h := Cells.new w #[v] t
  refine .inr ⟨w.heap.size, 0, rfl, h.1, fun i hi => ?_⟩
  have q := (h.2 i (by simpa using hi)).1
  rw [Nat.zero_add]
  exact q
def filledL (xs : List Int) (z : Int) (k : Nat) : List Int := List.replicate k z ++ xs.drop k
theorem filled_step {xs : List Int} {z : Int} {k : Nat} (h : k < xs.length) : (filledL xs z k).set k z = filledL xs z (k + 1) := by
  unfold filledL
  rw [List.drop_eq_getElem_cons h, List.set_append_right _ _ (by simp), List.length_replicate, Nat.sub_self, List.set_cons_zero, List.replicate_succ']
  simp
theorem filled_all (xs : List Int) (z : Int) : filledL xs z xs.length = List.replicate xs.length z := by unfold filledL; simp
theorem filled_len {xs : List Int} {z : Int} {k : Nat} (h : k ≤ xs.length) : (filledL xs z k).length = xs.length := by unfold filledL; simp; omega
/-- A list is written over with its mark: the loop's world. -/
structure KeepPost (lab : Nat → Nat) (w : World) (B : Nat) (T : Tab) (gb : Nat) (w' : World) : Prop where
  ex : ∃ lab' vL vM e, Tb lab' w' B { T with vL := vL, vM := vM, ls := T.ls ++ [e] } ∧ (∀ x, x < w.heap.size → x ≠ gb → lab' x = lab x)
  kp : Keep (fun z => z = T.t ∨ T.vL.ownBlock = some z ∨ T.vM.ownBlock = some z ∨ z = gb) w w'
/-- The pure step: what an append to the book leaves. -/
theorem Tb.booked {lab : Nat → Nat} {w w1 w2 w3 x0 x2 x4 w5 : World} {B : Nat} {T : Tab} (h : Tb lab w B T) {gb n cap : Nat} (hlb : lab gb = 9) (hgl : gb < w.heap.size) (hn : n ≤ 10000)
    (k1 : Keep (fun z => z = gb) w w1) (_o1 : Owns .i64 3 w1 B (.slice (some ⟨gb, 0, none⟩) n cap) (List.replicate n (mark T.ls.length)))
    {vLn : Value} (q1 : GRow w2 B 34 1 vLn (T.ls.length + 1) (T.ls.map (fun e => e.1) ++ [.slice (some ⟨gb, 0, none⟩) n cap])) (k2 : Keep (fun z => T.vL.ownBlock = some z) w1 w2) (s2 : vLn.ownBlock = T.vL.ownBlock ∨ vLn.ownBlock = some (w1.heap.size + 1)) (hw3 : w3 = w2.setCell ⟨T.t, 4, none⟩ vLn)
    (b0 : Below w3.heap.size w3 x0)
    {vMo : Value} (o2 : Owns .i64 3 x2 B vMo (List.replicate n (mark T.ls.length) ++ [mark T.ls.length])) (k3 : Keep (fun z => z = gb) x0 x2) (s3 : vMo.ownBlock = some gb ∨ vMo.ownBlock = some (x0.heap.size + 1)) (hse : Seen .i64 x2 (some ⟨gb, 0, none⟩) (List.replicate n (mark T.ls.length)))
    {vMn : Value} (q4 : GRow x4 B 34 1 vMn (T.ls.length + 1) (T.ls.map (fun e => e.2.1) ++ [vMo])) (k4 : Keep (fun z => T.vM.ownBlock = some z) x2 x4) (s4 : vMn.ownBlock = T.vM.ownBlock ∨ vMn.ownBlock = some (x2.heap.size + 1)) (hw5 : w5 = x4.setCell ⟨T.t, 5, none⟩ vMn) (hmany : T.ls.length + 1 ≤ 100000) :
    KeepPost lab w B T gb w5 := by
  obtain ⟨N, hN⟩ : ∃ N, N = T.ls.length := ⟨_, rfl⟩
  have kS3 : Keep (fun z => z = T.t) w2 w3 := by rw [hw3]; exact (Keep.refl (fun z => z = T.t) w2).setCell (g := T.t) (j := 4) (fun _ => rfl) _
  have kS5 : Keep (fun z => z = T.t) x4 w5 := by rw [hw5]; exact (Keep.refl (fun z => z = T.t) x4).setCell (g := T.t) (j := 5) (fun _ => rfl) _
  have z1 := k1.size
  have z2 := k2.size
  have z3 := kS3.size
  have z4 := b0.size
  have z5 := k3.size
  have z6 := k4.size
  have z7 := kS5.size
  have ht := h.box.1
  have htg : T.t ≠ gb := by intro q; have := h.l1; rw [q] at this; omega
  have lL := fun x (hx : T.vL.ownBlock = some x) => And.intro (own_lt h.rl hx) (h.l6 x hx)
  have lM := fun x (hx : T.vM.ownBlock = some x) => And.intro (own_lt h.rm hx) (h.l7 x hx)
  have nL := fun x (hx : vLn.ownBlock = some x) => own_lt q1 hx
  have nO := fun x (hx : vMo.ownBlock = some x) => own_lt o2 hx
  have nM := fun x (hx : vMn.ownBlock = some x) => own_lt q4 hx
  -- where the new rows lie
  have dL : ∀ x, vLn.ownBlock = some x → (x < w.heap.size ∧ lab x = 6) ∨ (w1.heap.size + 1 = x ∧ x < w2.heap.size) := by
    intro x hx
    rcases s2 with e | e
    · rw [e] at hx; exact .inl (lL x hx)
    · have := nL x hx; rw [e] at hx; cases hx; exact .inr ⟨rfl, this⟩
  have dO : ∀ x, vMo.ownBlock = some x → x = gb ∨ (x0.heap.size + 1 = x ∧ x < x2.heap.size) := by
    intro x hx
    rcases s3 with e | e
    · rw [e] at hx; cases hx; exact .inl rfl
    · have := nO x hx; rw [e] at hx; cases hx; exact .inr ⟨rfl, this⟩
  have dM : ∀ x, vMn.ownBlock = some x → (x < w.heap.size ∧ lab x = 7) ∨ (x2.heap.size + 1 = x ∧ x < x4.heap.size) := by
    intro x hx
    rcases s4 with e | e
    · rw [e] at hx; exact .inl (lM x hx)
    · have := nM x hx; rw [e] at hx; cases hx; exact .inr ⟨rfl, this⟩
  obtain ⟨lab', hl'⟩ : ∃ lab' : Nat → Nat, lab' = fun x => if x < w.heap.size then (if x = gb then 10 + N else lab x) else if vLn.ownBlock = some x then 6 else if vMn.ownBlock = some x then 7 else 10 + N := ⟨_, rfl⟩
  have old : ∀ x, x < w.heap.size → x ≠ gb → lab' x = lab x := fun x hx hn => by rw [hl']; simp only; rw [if_pos hx, if_neg hn]
  have lgb : lab' gb = 10 + N := by rw [hl']; simp [hgl]
  have oldl : ∀ x, x < w.heap.size → lab x ≠ 9 → lab' x = lab x := fun x hx hn => old x hx (fun q => hn (by rw [q]; exact hlb))
  have labL : ∀ x, vLn.ownBlock = some x → lab' x = 6 := by
    intro x hx
    rcases dL x hx with ⟨a, b⟩ | ⟨a, b⟩
    · rw [oldl x a (by omega)]; exact b
    · rw [hl']; simp only; rw [if_neg (by omega), if_pos hx]
  have labM : ∀ x, vMn.ownBlock = some x → lab' x = 7 := by
    intro x hx
    rcases dM x hx with ⟨a, b⟩ | ⟨a, b⟩
    · rw [oldl x a (by omega)]; exact b
    · rw [hl']; simp only
      rw [if_neg (by omega), if_neg (fun q => by rcases dL x q with ⟨c, d⟩ | ⟨c, d⟩ <;> omega), if_pos hx]
  have labO : ∀ x, vMo.ownBlock = some x → lab' x = 10 + N := by
    intro x hx
    rcases dO x hx with a | ⟨a, b⟩
    · rw [a]; exact lgb
    · rw [hl']; simp only
      rw [if_neg (by omega), if_neg (fun q => by rcases dL x q with ⟨c, d⟩ | ⟨c, d⟩ <;> omega), if_neg (fun q => by rcases dM x q with ⟨c, d⟩ | ⟨c, d⟩ <;> omega)]
  -- what stays from the beginning to the end
  have kA : Keep (fun z => z = T.t ∨ T.vL.ownBlock = some z ∨ T.vM.ownBlock = some z ∨ z = gb) w w5 :=
    (((((((k1.mono (T := fun z => z = T.t ∨ T.vL.ownBlock = some z ∨ T.vM.ownBlock = some z ∨ z = gb) (fun _ _ q => .inr (.inr (.inr q)))).trans k2 (fun _ _ q => .inr (.inl q))).trans kS3 (fun _ _ q => .inl q)).then_below b0).trans k3 (fun _ _ q => .inr (.inr (.inr q)))).trans k4 (fun _ _ q => .inr (.inr (.inl q)))).trans kS5 (fun _ _ q => .inl q))
  have hs : ∀ x, (x = T.t ∨ T.vL.ownBlock = some x ∨ T.vM.ownBlock = some x ∨ x = gb) → lab x = 1 ∨ lab x = 6 ∨ lab x = 7 ∨ lab x = 9 := by
    rintro x (q | q | q | q)
    · rw [q]; exact .inl h.l1
    · exact .inr (.inl (lL x q).2)
    · exact .inr (.inr (.inl (lM x q).2))
    · rw [q]; exact .inr (.inr (.inr hlb))
  have nt : ∀ {v : Value}, (∀ x, v.ownBlock = some x → lab' x ≠ 1) → v.ownBlock ≠ some T.t := fun hv q => hv _ q (by rw [oldl _ ht (by have := h.l1; omega)]; exact h.l1)
  refine ⟨⟨lab', vLn, vMn, (.slice (some ⟨gb, 0, none⟩) n cap, vMo, n), ?_, old⟩, kA⟩
  have hbox : Cells w5 T.t [ptr (T.b 0), ptr (T.b 1), ptr (T.c 0), ptr (T.c 1), vLn, vMn] := by
    have a1 := (h.box.keep k1 htg).keep k2 (fun q => by have := (lL _ q).2; have := h.l1; omega)
    have a2 := a1.stored (j := 4) (by simp) vLn
    rw [← hw3] at a2
    have a3 := ((a2.below b0).keep k3 htg).keep k4 (fun q => by have := (lM _ q).2; have := h.l1; omega)
    have a4 := a3.stored (j := 5) (by simp) vMn
    rw [← hw5] at a4
    simpa using a4
  refine ⟨hbox, fun i hi => ?_, fun i hi => ?_, ?_, ?_, fun k e he => ?_, by simp; omega, by rw [oldl _ ht (by have := h.l1; omega)]; exact h.l1, fun i hi => ?_, fun i hi => ?_, labL, labM, h.low⟩
  · have p := h.pr i hi
    have l := h.l2 i hi
    exact p.keep kA (fun q => by have := hs _ q; omega) (fun q => by have := hs _ q; omega) (fun q => by have := hs _ q; omega)
  · have p := h.rr i hi
    have l := h.l4 i hi
    exact p.keep kA (fun q => by have := hs _ q; omega) (fun x hx q => by have := hs _ q; have := l.2.1 x hx; omega) (fun x hx q => by have := hs _ q; have := l.2.2 x hx; omega)
  · have r1 := GRow.keep q1 kS3 (fun x hx q => nt (v := vLn) (fun y hy => by rw [labL y hy]; omega) (by rw [hx, q]))
    have r2 := GRow.keep (GRow.below r1 b0) k3 (fun x hx q => by have := labL x hx; rw [q] at this; omega)
    have r3 := GRow.keep r2 k4 (fun x hx q => by have a := labL x hx; have b := lM x q; rw [oldl x b.1 (by omega)] at a; omega)
    have r4 := GRow.keep r3 kS5 (fun x hx q => nt (v := vLn) (fun y hy => by rw [labL y hy]; omega) (by rw [hx, q]))
    simpa using r4
  · have r4 := GRow.keep q4 kS5 (fun x hx q => nt (v := vMn) (fun y hy => by rw [labM y hy]; omega) (by rw [hx, q]))
    simpa using r4
  · by_cases hk : k < T.ls.length
    · have he' : T.ls[k]? = some e := by
        rw [List.getElem?_append_left hk] at he
        exact he
      have E := (h.ent k e he').keep kA (fun x q _ => by have := hs _ q; omega)
      have E0 := h.ent k e he'
      obtain ⟨⟨aL, cL, aM, cM, e1, e2, l1, l2, b1, b2⟩, hf⟩ := E
      obtain ⟨⟨aL', cL', aM', cM', e1', e2', -, -, b1', b2'⟩, -⟩ := E0
      rw [e1] at e1'
      rw [e2] at e2'
      cases e1'
      cases e2'
      exact ⟨⟨aL, cL, aM, cM, e1, e2, l1, l2, fun ad ha => ⟨(b1 ad ha).1, by rw [oldl _ (b1' ad ha).1 (by have := (b1' ad ha).2; omega)]; exact (b1' ad ha).2⟩, fun ad ha => ⟨(b2 ad ha).1, by rw [oldl _ (b2' ad ha).1 (by have := (b2' ad ha).2; omega)]; exact (b2' ad ha).2⟩⟩, hf⟩
    · have hk2 : k = T.ls.length := by
        have := (List.getElem?_eq_some_iff.1 he).1
        simp at this
        omega
      subst hk2
      rw [List.getElem?_append_right (Nat.le_refl _)] at he
      simp at he
      subst he
      have gM : ¬ T.vM.ownBlock = some gb := fun q => by have := (lM _ q).2; omega
      have seenLies : ∀ {W : World} {a : Option Addr} {l : List Int}, Seen .i64 W a l → Lies W a (l.map (Value.int .i64)) := by
        intro W a l hh
        rcases hh with q | ⟨bb, off, ha, hlt, hc⟩
        · exact .inl (by rw [q]; rfl)
        · exact .inr ⟨bb, off, ha, hlt, fun i hi => by rw [List.getElem_map]; exact hc i (by simpa using hi)⟩
      have mk1 : (List.replicate n (mark T.ls.length)).map (Value.int .i64) = marks T.ls.length n := by simp [marks]
      have lies1 : Lies w5 (some ⟨gb, 0, none⟩) (marks T.ls.length n) := by
        have a := seenLies hse
        rw [mk1] at a
        exact (a.keep k4 (fun ad ha => by cases ha; exact gM)).keep kS5 (fun ad ha => by cases ha; exact fun q => htg q.symm)
      obtain ⟨aO, cO, hvO, sO, -⟩ := Owns.seen o2
      have hlen : (List.replicate n (mark T.ls.length) ++ [mark T.ls.length]).length = n + 1 := by simp
      rw [hlen] at hvO
      have ownO : ∀ ad, aO = some ad → vMo.ownBlock = some ad.block := fun ad ha => by
        rw [hvO, ha]
        rfl
      have lies2 : Lies w5 aO (marks T.ls.length (n + 1)) := by
        have a := seenLies sO
        have e1 : (List.replicate n (mark T.ls.length) ++ [mark T.ls.length]).map (Value.int .i64) = marks T.ls.length (n + 1) := by simp [marks, List.replicate_succ']
        rw [e1] at a
        refine (a.keep k4 (fun ad ha q => ?_)).keep kS5 (fun ad ha q => ?_)
        · have l1 := labO _ (ownO ad ha); have l2 := lM _ q; rw [oldl _ l2.1 (by omega)] at l1; omega
        · have l1 := labO _ (ownO ad ha); rw [q, oldl _ ht (by have := h.l1; omega)] at l1; have := h.l1; omega
      refine ⟨⟨some ⟨gb, 0, none⟩, cap, aO, cO, rfl, hvO, lies1, lies2, ?_, ?_⟩, hn⟩
      · intro ad ha
        cases ha
        exact ⟨by show gb < w5.heap.size; omega, by show lab' gb = _; rw [lgb, hN]⟩
      · intro ad ha
        have := nO _ (ownO ad ha)
        exact ⟨by omega, by rw [labO _ (ownO ad ha), hN]⟩
  · have p := (h.pr i hi).lt
    have l := h.l2 i hi
    rw [oldl _ p.1 (by omega), oldl _ p.2.1 (by omega), oldl _ p.2.2 (by omega)]
    exact l
  · have p := h.rr i hi
    have l := h.l4 i hi
    exact ⟨by rw [oldl _ p.box.1 (by omega)]; exact l.1, fun x hx => by have a := own_lt p.rc hx; have b := l.2.1 x hx; rw [oldl x a (by omega)]; exact b, fun x hx => by have a := own_lt p.rg hx; have b := l.2.2 x hx; rw [oldl x a (by omega)]; exact b⟩
set_option maxHeartbeats 8000000 in
theorem keep_any (lab : Nat → Nat) (B : Nat) (T : Tab) (gb cap : Nat) (xs : List Int) (w : World) (h : Tb lab w B T) (ho : Owns .i64 3 w B (.slice (some ⟨gb, 0, none⟩) xs.length cap) xs) (hlb : lab gb = 9) (hn : xs.length ≤ 10000) (hm : T.ls.length + 1 ≤ 100000) :
    Calls Try.prog 42 #[.pointer (some ⟨T.t, 4, none⟩), .slice (some ⟨gb, 0, none⟩) xs.length cap] w fun e w' => e = .returned (.tuple #[]) ∧ KeepPost lab w B T gb w' := by
  obtain ⟨kl, -⟩ := h.box.get 4 _ rfl
  obtain ⟨aL, cL, hvL, -⟩ := GRow.lies h.rl
  have HT := hide h
  have HVL := hide hvL
  rw [hvL] at kl
  have hgl : gb < w.heap.size := (World.ownsRow.lt ho gb rfl).2
  have hgB : B ≤ gb := (World.ownsRow.lt ho gb rfl).1
  have HO := hide ho
  have HLB := hide hlb
  have hne : gb ≠ T.t := by intro q; rw [q] at hlb; have := h.l1; omega
  have ewm : wrap64 (-1 - (T.ls.length : Int)) = mark T.ls.length := by unfold mark; exact wrapI (by unfold I64; omega)
  have ewn : (-1 : Int) - (T.ls.length : Int) = mark T.ls.length := rfl
  obtain ⟨mk, hmk⟩ : ∃ x, x = mark T.ls.length := ⟨_, rfl⟩
  rw [← hmk] at ewm ewn
  have HMK := hide hmk
  have hmb : -200000 ≤ mk ∧ mk ≤ 0 := by rw [hmk]; unfold mark; omega
  clear h ho hlb hvL hmk
  go_enter Try.func42, Try.ntmps42
  go_wp2_with fail
  go_loopw [5] (fun v wr => ∃ k : Nat, v = .int .i64 (k : Int) ∧ k ≤ xs.length ∧ Owns .i64 3 wr B (.slice (some ⟨gb, 0, none⟩) xs.length cap) (filledL xs mk k) ∧ Keep (fun z => z = gb) w wr) (fun v _ => xs.length - (intOf v).toNat)
  case atStart => exact ⟨0, rfl, Nat.zero_le _, by simpa [filledL] using HO.out, Keep.refl _ _⟩
  case round =>
    obtain ⟨k, rfl, hk, o1, kp⟩ := hrel
    have O1 := hide o1
    have K1 := hide kp
    clear o1 kp
    by_cases hlt : k < xs.length
    · have ff := O1.out.frozen k
      have hlf : (filledL xs mk k).length = xs.length := filled_len (by omega)
      obtain ⟨_, _, ea, -, ca⟩ := O1.out.seen_at.at (i := k) (by rw [hlf]; exact hlt)
      cases ea
      rw [Nat.zero_add] at ca
      obtain ⟨y, hca⟩ : ∃ y, wr.cell? ⟨gb, k, none⟩ = some (.int .i64 y) := ⟨_, ca⟩
      clear ca hlf
      go_wp2_with fail
      go_roundw
      case rel =>
        have OF := O1.out.stored k mk
        rw [filled_step hlt] at OF
        exact ⟨k + 1, by go_num, by omega, OF, K1.out.setCell (fun _ => rfl) _⟩
      case measure => simp [intOf]; omega
    · obtain rfl : k = xs.length := by omega
      have hx2 : T.t < w.heap.size := HT.out.box.1
      have kt : wr.cell? ⟨T.t, 4, none⟩ = some (.slice aL T.ls.length cL) := (K1.out.cell (p := ⟨T.t, 4, none⟩) hx2 (fun q => hne q.symm)).trans kl
      have O1' := hide (show Owns .i64 3 wr B (.slice (some ⟨gb, 0, none⟩) xs.length cap) (List.replicate xs.length (mark T.ls.length)) by have := O1.out; rw [filled_all, HMK.out] at this; exact this)
      have RL := hide (show GRow wr B 34 1 (.slice aL T.ls.length cL) T.ls.length (T.ls.map (fun e => e.1)) by
        have := GRow.keep HT.out.rl K1.out (fun x hx q => by have := HT.out.l6 x hx; rw [q] at this; have := HLB.out; omega)
        rw [HVL.out] at this
        exact this)
      have BX := hide (HT.out.box.keep K1.out (fun q => hne q.symm))
      clear kl O1
      go_upto_region 6 with (at_builtin; refine wpList_appR Try.underlying57 info34 rfl (by decide) (by decide) rfl (.tmp _) (.tmp _) rfl B (.slice aL T.ls.length cL) T.ls.length (T.ls.map (fun e => e.1)) rfl (GRow.below RL.out (alloc_below _ _)) (some ⟨wr.heap.size, 0, none⟩) 1 1 [.slice (some ⟨gb, 0, none⟩) xs.length cap] rfl rfl (lies_val _ _ _) (by simp [Value.oneCell']) (by nofun) (by omega) (by have := K1.out.size; simp; omega) ?_; intro vLn w2 q1 q2 q3; obtain ⟨av, cv, hv, -⟩ := GRow.lies q1; subst hv; have k2 : Keep (fun z => (Value.slice aL T.ls.length cL).ownBlock = some z) wr w2 := (Keep.of_below (S := fun z => (Value.slice aL T.ls.length cL).ownBlock = some z) (alloc_below wr (.cells #[.slice (some ⟨gb, 0, none⟩) xs.length cap] 34))).trans (grown_keep q2) (fun _ _ h => h); have BX2 := hide (BX.out.keep k2 (fun q => by have := HT.out.l6 _ (by rw [HVL.out]; exact q); have := HT.out.l1; omega)); obtain ⟨kd, kdf⟩ := BX2.out.get 4 _ rfl; clear kt)
      refine named (P := Code.wp _ _ _ _) ?_
      intro w3 hw3
      have hx3 : w3.cell? ⟨T.t, 5, none⟩ = some T.vM := by
        rw [hw3]
        have := (BX2.out.stored (j := 4) (by simp) (.slice av (T.ls.length + 1) cv)).get 5 T.vM (by simp)
        exact this.1
      have hf3 : w3.frozen? ⟨T.t, 5, none⟩ = false := by
        rw [hw3]
        have := (BX2.out.stored (j := 4) (by simp) (.slice av (T.ls.length + 1) cv)).get 5 T.vM (by simp)
        exact this.2
      have lgw : gb < wr.heap.size := Nat.lt_of_lt_of_le hgl K1.out.size
      have kw3 : Keep (fun z => (Value.slice aL T.ls.length cL).ownBlock = some z ∨ z = T.t) wr w3 := by rw [hw3]; exact (k2.mono (fun _ _ q => .inl q)).setCell (g := T.t) (j := 4) (fun _ => .inr rfl) _
      have notL : ¬ ((Value.slice aL T.ls.length cL).ownBlock = some gb ∨ gb = T.t) := by
        rintro (q | q)
        · have := HT.out.l6 gb (by rw [HVL.out]; exact q); have := HLB.out; omega
        · exact hne q
      obtain ⟨x0, hx0⟩ : ∃ x, x = w3.drew := ⟨_, rfl⟩
      have O0 : Owns .i64 3 x0 B (.slice (some ⟨gb, 0, none⟩) xs.length cap) (List.replicate xs.length (mark T.ls.length)) := by
        rw [hx0]
        exact (O1'.out.keep kw3 (fun g hg q => by cases hg; exact notL q)).below (Below.refl _ _).drew
      have t0 : x0.cell? ⟨T.t, 5, none⟩ = some T.vM := by rw [hx0]; exact hx3
      have tf0 : x0.frozen? ⟨T.t, 5, none⟩ = false := by rw [hx0]; exact hf3
      have lt0 : T.t < x0.heap.size := by rw [hx0]; show T.t < w3.heap.size; exact Nat.lt_of_lt_of_le hx2 (Nat.le_trans K1.out.size kw3.size)
      have b0 : Below w3.heap.size w3 x0 := by rw [hx0]; exact (Below.refl _ _).drew
      have RM0 : GRow x0 B 34 1 T.vM T.ls.length (T.ls.map (fun e => e.2.1)) := by
        have h1 := GRow.keep HT.out.rm K1.out (fun x hx q => by have := HT.out.l7 x hx; rw [q] at this; have := HLB.out; omega)
        have h2 := GRow.keep h1 kw3 (fun x hx q => by
          have l := HT.out.l7 x hx
          rcases q with q | q
          · have := HT.out.l6 x (by rw [HVL.out]; exact q); omega
          · rw [q] at l; have := HT.out.l1; omega)
        exact GRow.below h2 b0
      have sB : B ≤ x0.heap.size := by have := HT.out.low.1; omega
      obtain ⟨x1, hx1⟩ : ∃ x, x = x0.alloc (.cells #[.int .i64 mk] 3) := ⟨_, rfl⟩
      have b1 : Below x0.heap.size x0 x1 := by rw [hx1]; exact alloc_below _ _
      have sz1 : x1.heap.size = x0.heap.size + 1 := by rw [hx1]; simp
      obtain ⟨vMo, x2, hr2, o2, gr2, s3, hse⟩ := run_more1 34 x1 B _ _ (O0.below b1) ⟨x0.heap.size, 0, none⟩ mk (by rw [hx1]; exact lies_one _ _ _) (by simp; omega) (by omega)
      have hse2 := hse _ _ (by rw [List.length_replicate])
      have k3 : Keep (fun z => z = gb) x0 x2 := (Keep.of_below (S := fun z => z = gb) b1).trans ((Keep.refl (fun z => z = gb) x1).grown gr2 (fun g hg _ => by cases hg; rfl)) (fun _ _ h => h)
      obtain ⟨aO, cO, hvO, -⟩ := Owns.seen o2
      have hlO : (List.replicate xs.length (mark T.ls.length) ++ [mk]).length = xs.length + 1 := by simp
      rw [hlO] at hvO
      obtain ⟨x3, hx3'⟩ : ∃ x, x = x2.alloc (.cells #[vMo] 34) := ⟨_, rfl⟩
      have b3 : Below x2.heap.size x2 x3 := by rw [hx3']; exact alloc_below _ _
      have sz3 : x3.heap.size = x2.heap.size + 1 := by rw [hx3']; simp
      have RM2 : GRow x2 B 34 1 T.vM T.ls.length (T.ls.map (fun e => e.2.1)) := GRow.keep RM0 k3 (fun x hx q => by have := HT.out.l7 x hx; rw [q] at this; have := HLB.out; omega)
      obtain ⟨vMn, x4, hr4, q4, gr4, s4⟩ := run_pushR Try.underlying57 info34 rfl (by decide) (by decide) 57 x3 B T.vM T.ls.length _ (GRow.below RM2 b3) ⟨x2.heap.size, 0, none⟩ 1 1 [vMo] rfl (by rw [hx3']; exact lies_val _ _ _) (by rw [hvO]; simp [Value.oneCell']) (by omega) (by have := k3.size; omega)
      have k4 : Keep (fun z => T.vM.ownBlock = some z) x2 x4 := (Keep.of_below (S := fun z => T.vM.ownBlock = some z) b3).trans (grown_keep gr4) (fun _ _ h => h)
      obtain ⟨aN, cN, hvN, -⟩ := GRow.lies q4
      have FIN := hide (HT.out.booked (w5 := x4.setCell ⟨T.t, 5, none⟩ vMn) HLB.out hgl hn K1.out O1'.out (vLn := .slice av (T.ls.length + 1) cv) q1 (by rw [HVL.out]; exact k2) (by rw [HVL.out]; simpa using q3) hw3 b0 (vMo := vMo) (by rw [HMK.out] at o2; exact o2) k3 (by rcases s3 with e | e; exact .inl e; exact .inr (by rw [e, sz1])) hse2 q4 k4 (by rcases s4 with e | e; exact .inl e; exact .inr (by rw [e, sz3])) rfl hm)
      have t2 : x2.cell? ⟨T.t, 5, none⟩ = some T.vM := (k3.cell (p := ⟨T.t, 5, none⟩) lt0 (fun q => hne q.symm)).trans t0
      have t1 : x1.cell? ⟨T.t, 5, none⟩ = some T.vM := (b1.cell (p := ⟨T.t, 5, none⟩) lt0).trans t0
      have lt2 : T.t < x2.heap.size := Nat.lt_of_lt_of_le lt0 k3.size
      have t3 : x3.cell? ⟨T.t, 5, none⟩ = some T.vM := (b3.cell (p := ⟨T.t, 5, none⟩) lt2).trans t2
      have notM : ¬ T.vM.ownBlock = some T.t := fun q => by have := HT.out.l7 _ q; have := HT.out.l1; omega
      have t4 : x4.cell? ⟨T.t, 5, none⟩ = some T.vM := (k4.cell (p := ⟨T.t, 5, none⟩) lt2 notM).trans t2
      have tf4 : x4.frozen? ⟨T.t, 5, none⟩ = false := (k4.frozen (p := ⟨T.t, 5, none⟩) lt2 notM).trans ((k3.frozen (p := ⟨T.t, 5, none⟩) lt0 (fun q => hne q.symm)).trans tf0)
      obtain ⟨aM, cM, hvM, -⟩ := GRow.lies RM0
      have HX0 := hide hx0
      have HX1 := hide hx1
      have HX3 := hide hx3'
      subst hvO
      subst hvN
      rw [hvM] at t0 t1 t2 t3 t4
      rw [hvM] at hr4
      clear hx0 hx1 hx3' hw3 q1 q2 q3 k2 BX2 kd kdf kw3 notL O0 RM0 b0 b1 sz1 o2 gr2 s3 hse hse2 k3 hlO b3 sz3 RM2 q4 gr4 s4 k4 hvM lgw hx3 hf3 notM RL BX O1' HO
      refine wp_region_held_drew (S := fun wq => True) (by kernel_rfl) trivial (fun hS => ?_)
      rw [← HX0.out]
      refine take_at 0 (some 32) (v := ?_) rfl rfl (by kernel_rfl) (by kernel_rfl) (by kernel_rfl) (fun _ _ _ h => h) ⟨by rfl, ?_⟩ hS ?_
      rotate_left
      · intro wq hSw; go_simp; try rfl
      simp only [Act.put, List.setIfInBounds_toArray, List.set_cons_zero, List.set_cons_succ]
      refine take_at 1 (some 33) (v := ?_) rfl rfl (by kernel_rfl) (by kernel_rfl) (by kernel_rfl) (fun _ _ _ h => h) ⟨by rfl, ?_⟩ hS ?_
      rotate_left
      · intro wq hSw; go_simp; try rfl
      simp only [Act.put, List.setIfInBounds_toArray, List.set_cons_zero, List.set_cons_succ]
      refine take_at 2 (some 34) (v := ?_) rfl rfl (by kernel_rfl) (by kernel_rfl) (by kernel_rfl) (fun _ _ _ h => h) ⟨by rfl, ?_⟩ hS ?_
      rotate_left
      · intro wq hSw; go_simp; try rfl
      simp only [Act.put, List.setIfInBounds_toArray, List.set_cons_zero, List.set_cons_succ]
      refine take_at 3 (some 35) (v := ?_) rfl rfl (by kernel_rfl) (by kernel_rfl) (by kernel_rfl) (fun _ _ _ h => h) ⟨by rfl, ?_⟩ hS ?_
      rotate_left
      · intro wq hSw; go_simp; try rfl
      simp only [Act.put, List.setIfInBounds_toArray, List.set_cons_zero, List.set_cons_succ]
      refine take_at 5 (some 37) (v := ?_) rfl rfl (by kernel_rfl) (by kernel_rfl) (by kernel_rfl) (fun _ _ _ h => h) ⟨by rfl, ?_⟩ hS ?_
      rotate_left
      · intro wq hSw; go_simp; try rfl
      simp only [Act.put, List.setIfInBounds_toArray, List.set_cons_zero, List.set_cons_succ]
      refine take_at 6 (some 38) (v := ?_) rfl rfl (by kernel_rfl) (by kernel_rfl) (by kernel_rfl) (fun _ _ _ h => h) ⟨by rfl, ?_⟩ hS ?_
      rotate_left
      · intro wq hSw; go_simp; try rfl
      simp only [Act.put, List.setIfInBounds_toArray, List.set_cons_zero, List.set_cons_succ]
      refine wpAnyH_ready (rs := [4, 7]) (by kernel_rfl) (by simp) ?_
      refine AllReadyH.cons rfl (fun K hK => ?_) (AllReadyH.cons rfl (fun K hK => ?_) AllReadyH.nil)
      · go_simp
        go_wp2_with fail
        refine hK.out _ _ trivial (fun hS => ?_)
        clear hK K
        (try simp only [Act.put, List.setIfInBounds_toArray, List.set_cons_zero, List.set_cons_succ])
        refine wpAnyH_ready (rs := [7]) (by kernel_rfl) (by simp) ?_
        refine AllReadyH.cons rfl (fun K hK => ?_) AllReadyH.nil
        go_simp
        go_wp2_with fail
        refine hK.out _ _ trivial (fun hS => ?_)
        clear hK K
        (try simp only [Act.put, List.setIfInBounds_toArray, List.set_cons_zero, List.set_cons_succ])
        rw [← HX1.out]
        refine wpAnyH_ready (rs := [8]) (by kernel_rfl) (by simp) ?_
        refine AllReadyH.cons rfl (fun K hK => ?_) AllReadyH.nil
        refine wp_run 40 (.tmp 37) (.tmp 39) rfl rfl rfl rfl rfl hr2 ?_
        refine hK.out _ _ trivial (fun hS => ?_)
        clear hK K
        (try simp only [Act.put, List.setIfInBounds_toArray, List.set_cons_zero, List.set_cons_succ])
        refine wpAnyH_ready (rs := [9]) (by kernel_rfl) (by simp) ?_
        refine AllReadyH.cons rfl (fun K hK => ?_) AllReadyH.nil
        go_simp
        go_wp2_with fail
        refine hK.out _ _ trivial (fun hS => ?_)
        clear hK K
        (try simp only [Act.put, List.setIfInBounds_toArray, List.set_cons_zero, List.set_cons_succ])
        rw [← HX3.out]
        refine wpAnyH_ready (rs := [10]) (by kernel_rfl) (by simp) ?_
        refine AllReadyH.cons rfl (fun K hK => ?_) AllReadyH.nil
        refine wp_run 42 (.tmp 36) (.tmp 41) rfl rfl rfl rfl rfl hr4 ?_
        refine hK.out _ _ trivial (fun hS => ?_)
        clear hK K
        (try simp only [Act.put, List.setIfInBounds_toArray, List.set_cons_zero, List.set_cons_succ])
        refine take_at 11 (some 43) (v := ?_) rfl rfl (by kernel_rfl) (by kernel_rfl) (by kernel_rfl) (fun _ _ _ h => h) ⟨by rfl, ?_⟩ hS ?_
        rotate_left
        · intro wq hSw; go_simp; try rfl
        simp only [Act.put, List.setIfInBounds_toArray, List.set_cons_zero, List.set_cons_succ]
        refine take_at 12 (some 44) (v := ?_) rfl rfl (by kernel_rfl) (by kernel_rfl) (by kernel_rfl) (fun _ _ _ h => h) ⟨by rfl, ?_⟩ hS ?_
        rotate_left
        · intro wq hSw; go_simp; try rfl
        simp only [Act.put, List.setIfInBounds_toArray, List.set_cons_zero, List.set_cons_succ]
        refine wpAnyH_ready (rs := [13]) (by kernel_rfl) (by simp) ?_
        refine AllReadyH.cons rfl (fun K hK => ?_) AllReadyH.nil
        go_simp
        go_wp2_with fail
        refine hK.out _ _ trivial (fun hS => ?_)
        clear hK K
        (try simp only [Act.put, List.setIfInBounds_toArray, List.set_cons_zero, List.set_cons_succ])
        refine wpAnyH_done (by kernel_rfl) ?_ _
        go_wp2_with fail
        go_end0
        exact ⟨rfl, FIN.out⟩
      · go_simp
        go_wp2_with fail
        refine hK.out _ _ trivial (fun hS => ?_)
        clear hK K
        (try simp only [Act.put, List.setIfInBounds_toArray, List.set_cons_zero, List.set_cons_succ])
        rw [← HX1.out]
        refine wpAnyH_ready (rs := [4, 8]) (by kernel_rfl) (by simp) ?_
        refine AllReadyH.cons rfl (fun K hK => ?_) (AllReadyH.cons rfl (fun K hK => ?_) AllReadyH.nil)
        · go_simp
          go_wp2_with fail
          refine hK.out _ _ trivial (fun hS => ?_)
          clear hK K
          (try simp only [Act.put, List.setIfInBounds_toArray, List.set_cons_zero, List.set_cons_succ])
          refine wpAnyH_ready (rs := [8]) (by kernel_rfl) (by simp) ?_
          refine AllReadyH.cons rfl (fun K hK => ?_) AllReadyH.nil
          refine wp_run 40 (.tmp 37) (.tmp 39) rfl rfl rfl rfl rfl hr2 ?_
          refine hK.out _ _ trivial (fun hS => ?_)
          clear hK K
          (try simp only [Act.put, List.setIfInBounds_toArray, List.set_cons_zero, List.set_cons_succ])
          refine wpAnyH_ready (rs := [9]) (by kernel_rfl) (by simp) ?_
          refine AllReadyH.cons rfl (fun K hK => ?_) AllReadyH.nil
          go_simp
          go_wp2_with fail
          refine hK.out _ _ trivial (fun hS => ?_)
          clear hK K
          (try simp only [Act.put, List.setIfInBounds_toArray, List.set_cons_zero, List.set_cons_succ])
          rw [← HX3.out]
          refine wpAnyH_ready (rs := [10]) (by kernel_rfl) (by simp) ?_
          refine AllReadyH.cons rfl (fun K hK => ?_) AllReadyH.nil
          refine wp_run 42 (.tmp 36) (.tmp 41) rfl rfl rfl rfl rfl hr4 ?_
          refine hK.out _ _ trivial (fun hS => ?_)
          clear hK K
          (try simp only [Act.put, List.setIfInBounds_toArray, List.set_cons_zero, List.set_cons_succ])
          refine take_at 11 (some 43) (v := ?_) rfl rfl (by kernel_rfl) (by kernel_rfl) (by kernel_rfl) (fun _ _ _ h => h) ⟨by rfl, ?_⟩ hS ?_
          rotate_left
          · intro wq hSw; go_simp; try rfl
          simp only [Act.put, List.setIfInBounds_toArray, List.set_cons_zero, List.set_cons_succ]
          refine take_at 12 (some 44) (v := ?_) rfl rfl (by kernel_rfl) (by kernel_rfl) (by kernel_rfl) (fun _ _ _ h => h) ⟨by rfl, ?_⟩ hS ?_
          rotate_left
          · intro wq hSw; go_simp; try rfl
          simp only [Act.put, List.setIfInBounds_toArray, List.set_cons_zero, List.set_cons_succ]
          refine wpAnyH_ready (rs := [13]) (by kernel_rfl) (by simp) ?_
          refine AllReadyH.cons rfl (fun K hK => ?_) AllReadyH.nil
          go_simp
          go_wp2_with fail
          refine hK.out _ _ trivial (fun hS => ?_)
          clear hK K
          (try simp only [Act.put, List.setIfInBounds_toArray, List.set_cons_zero, List.set_cons_succ])
          refine wpAnyH_done (by kernel_rfl) ?_ _
          go_wp2_with fail
          go_end0
          exact ⟨rfl, FIN.out⟩
        · refine wp_run 40 (.tmp 37) (.tmp 39) rfl rfl rfl rfl rfl hr2 ?_
          refine hK.out _ _ trivial (fun hS => ?_)
          clear hK K
          (try simp only [Act.put, List.setIfInBounds_toArray, List.set_cons_zero, List.set_cons_succ])
          refine wpAnyH_ready (rs := [4, 9]) (by kernel_rfl) (by simp) ?_
          refine AllReadyH.cons rfl (fun K hK => ?_) (AllReadyH.cons rfl (fun K hK => ?_) AllReadyH.nil)
          · go_simp
            go_wp2_with fail
            refine hK.out _ _ trivial (fun hS => ?_)
            clear hK K
            (try simp only [Act.put, List.setIfInBounds_toArray, List.set_cons_zero, List.set_cons_succ])
            refine wpAnyH_ready (rs := [9]) (by kernel_rfl) (by simp) ?_
            refine AllReadyH.cons rfl (fun K hK => ?_) AllReadyH.nil
            go_simp
            go_wp2_with fail
            refine hK.out _ _ trivial (fun hS => ?_)
            clear hK K
            (try simp only [Act.put, List.setIfInBounds_toArray, List.set_cons_zero, List.set_cons_succ])
            rw [← HX3.out]
            refine wpAnyH_ready (rs := [10]) (by kernel_rfl) (by simp) ?_
            refine AllReadyH.cons rfl (fun K hK => ?_) AllReadyH.nil
            refine wp_run 42 (.tmp 36) (.tmp 41) rfl rfl rfl rfl rfl hr4 ?_
            refine hK.out _ _ trivial (fun hS => ?_)
            clear hK K
            (try simp only [Act.put, List.setIfInBounds_toArray, List.set_cons_zero, List.set_cons_succ])
            refine take_at 11 (some 43) (v := ?_) rfl rfl (by kernel_rfl) (by kernel_rfl) (by kernel_rfl) (fun _ _ _ h => h) ⟨by rfl, ?_⟩ hS ?_
            rotate_left
            · intro wq hSw; go_simp; try rfl
            simp only [Act.put, List.setIfInBounds_toArray, List.set_cons_zero, List.set_cons_succ]
            refine take_at 12 (some 44) (v := ?_) rfl rfl (by kernel_rfl) (by kernel_rfl) (by kernel_rfl) (fun _ _ _ h => h) ⟨by rfl, ?_⟩ hS ?_
            rotate_left
            · intro wq hSw; go_simp; try rfl
            simp only [Act.put, List.setIfInBounds_toArray, List.set_cons_zero, List.set_cons_succ]
            refine wpAnyH_ready (rs := [13]) (by kernel_rfl) (by simp) ?_
            refine AllReadyH.cons rfl (fun K hK => ?_) AllReadyH.nil
            go_simp
            go_wp2_with fail
            refine hK.out _ _ trivial (fun hS => ?_)
            clear hK K
            (try simp only [Act.put, List.setIfInBounds_toArray, List.set_cons_zero, List.set_cons_succ])
            refine wpAnyH_done (by kernel_rfl) ?_ _
            go_wp2_with fail
            go_end0
            exact ⟨rfl, FIN.out⟩
          · go_simp
            go_wp2_with fail
            refine hK.out _ _ trivial (fun hS => ?_)
            clear hK K
            (try simp only [Act.put, List.setIfInBounds_toArray, List.set_cons_zero, List.set_cons_succ])
            rw [← HX3.out]
            refine wpAnyH_ready (rs := [4]) (by kernel_rfl) (by simp) ?_
            refine AllReadyH.cons rfl (fun K hK => ?_) AllReadyH.nil
            go_simp
            go_wp2_with fail
            refine hK.out _ _ trivial (fun hS => ?_)
            clear hK K
            (try simp only [Act.put, List.setIfInBounds_toArray, List.set_cons_zero, List.set_cons_succ])
            refine wpAnyH_ready (rs := [10]) (by kernel_rfl) (by simp) ?_
            refine AllReadyH.cons rfl (fun K hK => ?_) AllReadyH.nil
            refine wp_run 42 (.tmp 36) (.tmp 41) rfl rfl rfl rfl rfl hr4 ?_
            refine hK.out _ _ trivial (fun hS => ?_)
            clear hK K
            (try simp only [Act.put, List.setIfInBounds_toArray, List.set_cons_zero, List.set_cons_succ])
            refine take_at 11 (some 43) (v := ?_) rfl rfl (by kernel_rfl) (by kernel_rfl) (by kernel_rfl) (fun _ _ _ h => h) ⟨by rfl, ?_⟩ hS ?_
            rotate_left
            · intro wq hSw; go_simp; try rfl
            simp only [Act.put, List.setIfInBounds_toArray, List.set_cons_zero, List.set_cons_succ]
            refine take_at 12 (some 44) (v := ?_) rfl rfl (by kernel_rfl) (by kernel_rfl) (by kernel_rfl) (fun _ _ _ h => h) ⟨by rfl, ?_⟩ hS ?_
            rotate_left
            · intro wq hSw; go_simp; try rfl
            simp only [Act.put, List.setIfInBounds_toArray, List.set_cons_zero, List.set_cons_succ]
            refine wpAnyH_ready (rs := [13]) (by kernel_rfl) (by simp) ?_
            refine AllReadyH.cons rfl (fun K hK => ?_) AllReadyH.nil
            go_simp
            go_wp2_with fail
            refine hK.out _ _ trivial (fun hS => ?_)
            clear hK K
            (try simp only [Act.put, List.setIfInBounds_toArray, List.set_cons_zero, List.set_cons_succ])
            refine wpAnyH_done (by kernel_rfl) ?_ _
            go_wp2_with fail
            go_end0
            exact ⟨rfl, FIN.out⟩
end Go.Proofs.Ytimakfnlcgedkaa
