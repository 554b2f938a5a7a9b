import Derived.Test.YtohkmigahbellaaNew1
namespace Go.Proofs.Ytohkmigahbellaa
open Go.RowKit Go.QK

/-- What was handed out, and what it was: each block has a label: 1 the box, 2 and 3 the two rows, 10 + 3i the i-th list, 11 + 3i its copy. -/
structure Held (w : World) (lab : Nat → Nat) (B hb : Nat) (gv wv : Value) (gs ws : List PE) : Prop where
  box : Cells w hb [gv, wv]
  lb : lab hb = 1
  got : SRow 37 w B gv (gs.map PE.v)
  lg : ∀ b, gv.ownBlock = some b → lab b = 2
  want : SRow 37 w B wv (ws.map PE.v)
  lw : ∀ b, wv.ownBlock = some b → lab b = 3
  gi : ∀ i (h : i < gs.length), OwnB w B gs[i].v gs[i].b ∧ lab gs[i].k = 10 + 3 * i ∧ AllB gs[i].b ∧ 0 < gs[i].b.length ∧ gs[i].b.length ≤ 4096
  wi : ∀ i (h : i < ws.length), Bytes w (some ⟨ws[i].k, 0, none⟩) ws[i].b ∧ lab ws[i].k = 11 + 3 * i ∧ ws[i].k < w.heap.size
  eq : ws.map PE.b = gs.map PE.b
theorem own_lt {w : World} {B : Nat} {p : PE} {l : List Nat} (h : OwnB w B p.v l) : p.k < w.heap.size := (World.ownsRow.lt h p.k rfl).2
theorem Held.keep {w w' : World} {lab lab' : Nat → Nat} {B hb : Nat} {gv wv : Value} {gs ws : List PE} {V : Nat → Prop} (h : Held w lab B hb gv wv gs ws) (hk : Keep V w w') (hV : ∀ b, V b → lab b = 0 ∨ lab b = 4) (hl : ∀ b, b < w.heap.size → lab' b = lab b) : Held w' lab' B hb gv wv gs ws := by
  have no : ∀ b n, lab b = n → n ≠ 0 → n ≠ 4 → ¬ V b := fun b n e h0 h4 q => by rcases hV b q with r | r <;> omega
  refine ⟨h.box.keep hk (no _ 1 h.lb (by decide) (by decide)), (hl _ h.box.1).trans h.lb, h.got.keep hk (fun b hb => no _ 2 (h.lg b hb) (by decide) (by decide)), fun b hb => (hl _ (h.got.lt b hb).2).trans (h.lg b hb), h.want.keep hk (fun b hb => no _ 3 (h.lw b hb) (by decide) (by decide)), fun b hb => (hl _ (h.want.lt b hb).2).trans (h.lw b hb), fun i hi => ?_, fun i hi => ?_, h.eq⟩
  · obtain ⟨h1, h2, h3⟩ := h.gi i hi
    exact ⟨Owns.keep h1 hk (fun g hg => by
      have e : gs[i].k = g := Option.some.inj hg
      exact no g _ (e ▸ h2) (by omega) (by omega)), (hl _ (own_lt h1)).trans h2, h3⟩
  · obtain ⟨h1, h2, h3⟩ := h.wi i hi
    exact ⟨Seen.keep h1 hk (fun ad had => by cases had; exact no _ _ h2 (by omega) (by omega)), (hl _ h3).trans h2, Nat.lt_of_lt_of_le h3 hk.size⟩
theorem Held.len {w : World} {lab : Nat → Nat} {B hb : Nat} {gv wv : Value} {gs ws : List PE} (h : Held w lab B hb gv wv gs ws) : ws.length = gs.length := by
  have := congrArg List.length h.eq
  simpa using this

set_option maxHeartbeats 1000000 in
set_option maxRecDepth 100000 in
theorem take_any {w : World} {lab : Nat → Nat} {B hb : Nat} {gv wv : Value} {gs ws : List PE} (h : Held w lab B hb gv wv gs ws) (p : PE) (hp : OwnB w B p.v p.b) (lp : lab p.k = 10 + 3 * gs.length) (hab : AllB p.b) (h0 : 0 < p.b.length) (h4 : p.b.length ≤ 4096) (hn : gs.length ≤ 100000) (hB : B ≤ w.heap.size) :
    Calls Try.prog 31 #[.pointer (some ⟨hb, 0, none⟩), .slice (some ⟨p.k, 0, none⟩) p.b.length p.c] w fun e w' => ∃ v lab' gv' wv' q, e = .returned v ∧ Held w' lab' B hb gv' wv' (gs ++ [p]) (ws ++ [q]) ∧ (∀ b, b < w.heap.size → lab' b = lab b) ∧ Keep (fun b => lab b = 1 ∨ lab b = 2 ∨ lab b = 3) w w' := by
  have HWL := hide h.len
  have hhb := h.box.1
  have hpk := own_lt hp
  obtain ⟨c0, f0⟩ := h.box.get 0 _ rfl
  obtain ⟨c1, f1⟩ := h.box.get 1 _ rfl
  have bA := alloc_below w (.cells #[.slice (some ⟨p.k, 0, none⟩) p.b.length p.c] 37)
  have zA : (w.alloc (.cells #[.slice (some ⟨p.k, 0, none⟩) p.b.length p.c] 37)).cell? ⟨w.heap.size, 0, none⟩ = some (.slice (some ⟨p.k, 0, none⟩) p.b.length p.c) := by rw [World.cell?_alloc_new]; rfl
  obtain ⟨gv', w2, hr2, r2, g2, m2⟩ := run_pushS und59 info37 59 (w.alloc (.cells #[.slice (some ⟨p.k, 0, none⟩) p.b.length p.c] 37)) B gv (gs.map PE.v) ⟨w.heap.size, 0, none⟩ _ (h.got.below bA) zA rfl (by simp; omega) (by simp; omega)
  obtain ⟨gva, gvc, hgv', _⟩ := r2.form
  rw [List.length_append, List.length_map, List.length_singleton] at hgv'
  have k12 : Keep (fun b => gv.ownBlock = some b) w w2 := ((Keep.refl (fun b => gv.ownBlock = some b) w).alloc _).grown g2 (fun _ q _ => q)
  have hgb : gv.ownBlock ≠ some hb := fun q => by have := h.lg hb q; have := h.lb; omega
  have d0 := (k12.cell (p := ⟨hb, 0, none⟩) hhb hgb).trans c0
  have e0 := (k12.frozen (p := ⟨hb, 0, none⟩) hhb hgb).trans f0
  have C2 := h.box.keep k12 hgb
  have z12 := g2.size
  rw [World.size_alloc] at z12
  have m2' : ∀ b, gv'.ownBlock = some b → gv.ownBlock = some b ∨ w.heap.size ≤ b := fun b q => by
    rcases m2 with e | e
    · exact .inl (e ▸ q)
    · rw [e, World.size_alloc] at q
      cases q
      exact .inr (by omega)
  have g2lt : ∀ b, gv'.ownBlock = some b → b < w2.heap.size := fun b q => (r2.lt b q).2
  have C3 := C2.stored (j := 0) (by simp) gv'
  have k23 : Keep (fun b => b = hb) w2 (w2.setCell ⟨hb, 0, none⟩ gv') := (Keep.refl (fun b => b = hb) w2).setCell (fun _ => rfl) _
  have z23 : (w2.setCell ⟨hb, 0, none⟩ gv').heap.size = w2.heap.size := by simp
  have BP3 : Bytes (w2.setCell ⟨hb, 0, none⟩ gv') (some ⟨p.k, 0, none⟩) p.b := by
    refine Seen.keep (Seen.keep (Owns.seen_at hp) k12 (fun ad had => ?_)) k23 (fun ad had => ?_)
    · cases had
      intro q
      have := h.lg p.k q
      omega
    · cases had
      intro q
      have q : p.k = hb := q
      have := h.lb
      rw [← q] at this
      omega
  subst hgv'
  have K02 := hide k12
  have HR2r := hide hr2
  have HH := hide h
  have HP := hide hp
  have HR2 := hide r2
  have HC3 := hide C3
  have HM2 := hide m2'
  obtain ⟨w3, hw3⟩ : ∃ w3, w3 = w2.setCell ⟨hb, 0, none⟩ (.slice gva (gs.length + 1) gvc) := ⟨_, rfl⟩
  rw [← hw3] at k23 z23 BP3 HC3
  have HW3 := hide hw3.symm
  have hs3 : w3.cell? ⟨hb, 1, none⟩ = some wv := (HC3.out.get 1 _ rfl).1
  have ff3 := (HC3.out.get 1 _ rfl).2
  obtain ⟨v4, w4, hr4, o4, b4⟩ := run_ownB 37 w3.drew ⟨p.k, 0, none⟩ p.b.length p.c p.b rfl BP3 (by omega)
  have K23 := hide k23
  clear hr2 h hp r2 C2 C3 m2 m2' k12 zA bA g2 f0 k23 hw3
  have b4' := below_undrew b4
  have hb3 : hb < w3.heap.size := by omega
  have hS4 : w4.cell? ⟨hb, 1, none⟩ = some wv := (b4'.cell (p := ⟨hb, 1, none⟩) hb3).trans hs3
  obtain ⟨kq, cq, hv4, hcq, hBq, hkq⟩ := o4.form (by simpa using h0)
  rw [ints_length] at hv4
  subst hv4
  have hBq' : w3.heap.size ≤ kq := hBq
  have z34 : w3.heap.size ≤ w4.heap.size := b4'.size
  have WR4 : SRow 37 w4 B wv (ws.map PE.v) := by
    refine ((HH.out.want.keep K02.out (fun b hb q => ?_)).keep K23.out (fun b hb q => ?_)).below b4'
    · have := HH.out.lw b hb
      have := HH.out.lg b q
      omega
    · have q : b = _ := q
      have := HH.out.lw b hb
      have := HH.out.lb
      rw [← q] at this
      omega
  have bA := alloc_below w4 (.cells #[.slice (some ⟨kq, 0, none⟩) p.b.length cq] 37)
  have zA : (w4.alloc (.cells #[.slice (some ⟨kq, 0, none⟩) p.b.length cq] 37)).cell? ⟨w4.heap.size, 0, none⟩ = some (.slice (some ⟨kq, 0, none⟩) p.b.length cq) := by rw [World.cell?_alloc_new]; rfl
  have hS5 := (bA.cell (p := ⟨hb, 1, none⟩) (by show hb < _; omega)).trans hS4
  obtain ⟨wv', w6, hr6, r6, g6, m6⟩ := run_pushS und59 info37 59 (w4.alloc (.cells #[.slice (some ⟨kq, 0, none⟩) p.b.length cq] 37)) B wv (ws.map PE.v) ⟨w4.heap.size, 0, none⟩ _ (WR4.below bA) zA rfl (by simp; have := HWL.out; omega) (by simp; omega)
  obtain ⟨wva, wvc, hwv', _⟩ := r6.form
  rw [List.length_append, List.length_map, List.length_singleton] at hwv'
  have m6' : ∀ b, wv'.ownBlock = some b → wv.ownBlock = some b ∨ w4.heap.size < b := fun b q => by
    rcases m6 with e | e
    · exact .inl (e ▸ q)
    · rw [e, World.size_alloc] at q
      cases q
      exact .inr (by omega)
  have HR6 := hide r6
  have HR6r := hide hr6
  have HM6 := hide m6'
  subst hwv'
  have k46 : Keep (fun b => wv.ownBlock = some b) w4 w6 := ((Keep.refl (fun b => wv.ownBlock = some b) w4).alloc _).grown g6 (fun _ q _ => q)
  have hwb : wv.ownBlock ≠ some hb := fun q => by have := HH.out.lw hb q; have := HH.out.lb; omega
  have C4 := HC3.out.below b4'
  have C6 := C4.keep k46 hwb
  obtain ⟨x1, y1⟩ := C6.get 1 _ rfl
  have C7 := C6.stored (j := 1) (by simp) (.slice wva (ws.length + 1) wvc)
  have k67 : Keep (fun b => b = hb) w6 (w6.setCell ⟨hb, 1, none⟩ (.slice wva (ws.length + 1) wvc)) := (Keep.refl (fun b => b = hb) w6).setCell (fun _ => rfl) _
  have z67 : (w6.setCell ⟨hb, 1, none⟩ (.slice wva (ws.length + 1) wvc)).heap.size = w6.heap.size := by simp
  have z46 : w4.heap.size ≤ w6.heap.size := k46.size
  obtain ⟨w7, hw7⟩ : ∃ w7, w7 = w6.setCell ⟨hb, 1, none⟩ (.slice wva (ws.length + 1) wvc) := ⟨_, rfl⟩
  rw [← hw7] at C7 k67 z67
  have FIN : Hid (∃ v lab' gv' wv' q, (Ending.returned (Value.tuple #[]) : Ending) = .returned v ∧ Held w7 lab' B hb gv' wv' (gs ++ [p]) (ws ++ [q]) ∧ (∀ b, b < w.heap.size → lab' b = lab b) ∧ Keep (fun b => lab b = 1 ∨ lab b = 2 ∨ lab b = 3) w w7) := by
    have hlb := HH.out.lb
    have lg := HH.out.lg
    have lw := HH.out.lw
    -- what each stretch touched
    have k47 : Keep (fun b => b = hb ∨ wv.ownBlock = some b) w4 w7 := (k46.mono (fun _ _ q => .inr q)).trans k67 (fun _ _ q => .inl q)
    have k27 : Keep (fun b => b = hb ∨ wv.ownBlock = some b) w2 w7 := ((K23.out.mono (fun _ _ q => .inl q)).then_below b4').trans k47 (fun _ _ q => q)
    have k07 : Keep (fun b => b = hb ∨ gv.ownBlock = some b ∨ wv.ownBlock = some b) w w7 := (K02.out.mono (fun _ _ q => .inr (.inl q))).trans k27 (fun _ _ q => q.elim .inl (fun r => .inr (.inr r)))
    have hkqw : wv.ownBlock ≠ some kq := fun q => by have := (HH.out.want.lt kq q).2; omega
    have hkqh : kq ≠ hb := by omega
    let lab' : Nat → Nat := fun b => if b < w.heap.size then lab b else if (Value.slice gva (gs.length + 1) gvc).ownBlock = some b then 2 else if (Value.slice wva (ws.length + 1) wvc).ownBlock = some b then 3 else if b = kq then 11 + 3 * gs.length else 8
    have old : ∀ b, b < w.heap.size → lab' b = lab b := fun b hb => if_pos hb
    refine ⟨_, lab', _, _, ⟨0, kq, cq, p.b⟩, rfl, ⟨C7, (old _ hhb).trans hlb, ?_, ?_, ?_, ?_, ?_, ?_, ?_⟩, old, ?_⟩
    · rw [List.map_append]
      refine HR2.out.keep k27 (fun b hb' q => ?_)
      have := HM2.out b hb'
      rcases q with q | q
      · rcases this with r | r
        · have := lg b r; rw [q] at this; omega
        · omega
      · rcases this with r | r
        · have := lg b r; have := lw b q; omega
        · have := (HH.out.want.lt b q).2; omega
    · intro b hb'
      rcases HM2.out b hb' with r | r
      · exact (old _ (HH.out.got.lt b r).2).trans (lg b r)
      · show (if b < w.heap.size then lab b else if (Value.slice gva (gs.length + 1) gvc).ownBlock = some b then 2 else _) = 2
        rw [if_neg (by omega), if_pos hb']
    · rw [List.map_append]
      refine HR6.out.keep k67 (fun b hb' q => ?_)
      have q : b = hb := q
      rcases HM6.out b hb' with r | r
      · have := lw b r; rw [q] at this; omega
      · omega
    · intro b hb'
      rcases HM6.out b hb' with r | r
      · exact (old _ (HH.out.want.lt b r).2).trans (lw b r)
      · show (if b < w.heap.size then lab b else if (Value.slice gva (gs.length + 1) gvc).ownBlock = some b then 2 else if (Value.slice wva (ws.length + 1) wvc).ownBlock = some b then 3 else _) = 3
        rw [if_neg (by omega), if_neg (fun q => by have := g2lt b q; omega), if_pos hb']
    · intro i hi
      rcases Nat.lt_or_ge i gs.length with q | q
      · rw [List.getElem_append_left q]
        obtain ⟨t1, t2, t3⟩ := HH.out.gi i q
        refine ⟨Owns.keep t1 k07 (fun b hb' r => ?_), (old _ (own_lt t1)).trans t2, t3⟩
        have e : gs[i].k = b := Option.some.inj hb'
        rw [e] at t2
        rcases r with r | r | r
        · rw [r] at t2; omega
        · have := lg b r; omega
        · have := lw b r; omega
      · obtain rfl : i = gs.length := by simp at hi; omega
        rw [List.getElem_append_right (Nat.le_refl _)]
        simp only [Nat.sub_self, List.getElem_cons_zero]
        refine ⟨Owns.keep HP.out k07 (fun b hb' r => ?_), (old _ hpk).trans lp, hab, h0, h4⟩
        have e : p.k = b := Option.some.inj hb'
        rw [e] at lp
        rcases r with r | r | r
        · rw [r] at lp; omega
        · have := lg b r; omega
        · have := lw b r; omega
    · intro i hi
      rcases Nat.lt_or_ge i ws.length with q | q
      · rw [List.getElem_append_left q]
        obtain ⟨t1, t2, t3⟩ := HH.out.wi i q
        refine ⟨Seen.keep t1 k07 (fun ad had r => ?_), (old _ t3).trans t2, Nat.lt_of_lt_of_le t3 k07.size⟩
        cases had
        rcases r with r | r | r
        · have r : ws[i].k = hb := r
          rw [r] at t2; omega
        · have := lg ws[i].k r; omega
        · have := lw ws[i].k r; omega
      · obtain rfl : i = ws.length := by simp at hi; omega
        rw [List.getElem_append_right (Nat.le_refl _)]
        simp only [Nat.sub_self, List.getElem_cons_zero]
        refine ⟨Seen.keep (Owns.seen_at o4) k47 (fun ad had r => ?_), ?_, by show kq < _; omega⟩
        · cases had
          rcases r with r | r
          · exact hkqh r
          · exact hkqw r
        · show (if kq < w.heap.size then lab kq else if (Value.slice gva (gs.length + 1) gvc).ownBlock = some kq then 2 else if (Value.slice wva (ws.length + 1) wvc).ownBlock = some kq then 3 else if kq = kq then 11 + 3 * gs.length else 8) = _
          rw [if_neg (by omega), if_neg (fun q => by have := g2lt kq q; omega), if_neg (fun q => by
            rcases HM6.out kq q with r | r
            · exact hkqw r
            · omega), if_pos rfl, HWL.out]
    · rw [List.map_append, List.map_append, HH.out.eq]
      rfl
    · exact k07.mono (fun b _ q => by
        rcases q with q | q | q
        · rw [q]; exact .inl hlb
        · exact .inr (.inl (lg b q))
        · exact .inr (.inr (lw b q)))
  have HW7 := hide hw7.symm
  have HR4r := hide hr4
  clear r6 hr6 m6 m6' hr4 o4 b4 WR4 bA zA g6 k46 C4 C6 C7 k67 z67 z46 hw7 BP3
  go_enter Try.func31, Try.ntmps31
  go_upto_region 1 with (at_builtin; refine wpList_run rfl (.tmp 8) (.tmp 10) rfl rfl rfl HR2r.out ?_)
  rw [HW3.out]
  refine wp_region_held_drew (S := fun _ => True) (by kernel_rfl) trivial (fun _ => ?_)
  refine take_at 0 (some 14) (v := ?_) rfl rfl (by kernel_rfl) (by kernel_rfl) (by kernel_rfl) (fun _ _ _ h => h) ⟨by rfl, ?_⟩ trivial ?_
  rotate_left
  · intro wq _; go_simp; try rfl
  simp only [Act.put, List.setIfInBounds_toArray, List.set_cons_zero, List.set_cons_succ]
  refine take_at 1 (some 15) (v := ?_) rfl rfl (by kernel_rfl) (by kernel_rfl) (by kernel_rfl) (fun _ _ _ h => h) ⟨by rfl, ?_⟩ trivial ?_
  rotate_left
  · intro wq _; go_simp; try rfl
  simp only [Act.put, List.setIfInBounds_toArray, List.set_cons_zero, List.set_cons_succ]
  refine take_at 2 (some 16) (v := ?_) rfl rfl (by kernel_rfl) (by kernel_rfl) (by kernel_rfl) (fun _ _ _ h => h) ⟨by rfl, ?_⟩ trivial ?_
  rotate_left
  · intro wq _; go_simp; try rfl
  simp only [Act.put, List.setIfInBounds_toArray, List.set_cons_zero, List.set_cons_succ]
  refine take_at 3 (some 17) (v := ?_) rfl rfl (by kernel_rfl) (by kernel_rfl) (by kernel_rfl) (fun _ _ _ h => h) ⟨by rfl, ?_⟩ trivial ?_
  rotate_left
  · intro wq _; go_simp; try rfl
  simp only [Act.put, List.setIfInBounds_toArray, List.set_cons_zero, List.set_cons_succ]
  refine take_at 5 (some 19) (v := ?_) rfl rfl (by kernel_rfl) (by kernel_rfl) (by kernel_rfl) (fun _ _ _ h => h) ⟨by rfl, ?_⟩ trivial ?_
  rotate_left
  · intro wq _; go_simp; try rfl
  simp only [Act.put, List.setIfInBounds_toArray, List.set_cons_zero, List.set_cons_succ]
  refine wpAnyH_ready (rs := [4, 6]) (by kernel_rfl) (by simp) ?_
  refine AllReadyH.cons rfl (fun K hK => ?_) (AllReadyH.cons rfl (fun K hK => ?_) AllReadyH.nil)
  · go_simp
    go_wp2_with fail
    refine hK.out _ _ trivial (fun _ => ?_)
    clear hK K
    (try simp only [Act.put, List.setIfInBounds_toArray, List.set_cons_zero, List.set_cons_succ])
    refine wpAnyH_ready (rs := [6]) (by kernel_rfl) (by simp) ?_
    refine AllReadyH.cons rfl (fun K hK => ?_) AllReadyH.nil
    refine wp_run 20 (.const (.slice none 0 0)) (.tmp 19) rfl rfl rfl rfl rfl HR4r.out ?_
    refine hK.out _ _ trivial (fun _ => ?_)
    clear hK K
    (try simp only [Act.put, List.setIfInBounds_toArray, List.set_cons_zero, List.set_cons_succ])
    refine wpAnyH_ready (rs := [7]) (by kernel_rfl) (by simp) ?_
    refine AllReadyH.cons rfl (fun K hK => ?_) AllReadyH.nil
    go_simp
    go_wp2_with fail
    refine hK.out _ _ trivial (fun _ => ?_)
    clear hK K
    (try simp only [Act.put, List.setIfInBounds_toArray, List.set_cons_zero, List.set_cons_succ])
    refine wpAnyH_ready (rs := [8]) (by kernel_rfl) (by simp) ?_
    refine AllReadyH.cons rfl (fun K hK => ?_) AllReadyH.nil
    refine wp_run 22 (.tmp 18) (.tmp 21) rfl rfl rfl rfl rfl HR6r.out ?_
    refine hK.out _ _ trivial (fun _ => ?_)
    clear hK K
    (try simp only [Act.put, List.setIfInBounds_toArray, List.set_cons_zero, List.set_cons_succ])
    refine take_at 9 (some 23) (v := ?_) rfl rfl (by kernel_rfl) (by kernel_rfl) (by kernel_rfl) (fun _ _ _ h => h) ⟨by rfl, ?_⟩ trivial ?_
    rotate_left
    · intro wq _; go_simp; try rfl
    simp only [Act.put, List.setIfInBounds_toArray, List.set_cons_zero, List.set_cons_succ]
    refine take_at 10 (some 24) (v := ?_) rfl rfl (by kernel_rfl) (by kernel_rfl) (by kernel_rfl) (fun _ _ _ h => h) ⟨by rfl, ?_⟩ trivial ?_
    rotate_left
    · intro wq _; go_simp; try rfl
    simp only [Act.put, List.setIfInBounds_toArray, List.set_cons_zero, List.set_cons_succ]
    refine wpAnyH_ready (rs := [11]) (by kernel_rfl) (by simp) ?_
    refine AllReadyH.cons rfl (fun K hK => ?_) AllReadyH.nil
    go_simp
    go_wp2_with fail
    refine hK.out _ _ trivial (fun _ => ?_)
    clear hK K
    refine wpAnyH_done (by kernel_rfl) ?_ _
    go_wp2_with fail
    go_end0
    rw [HW7.out]
    exact FIN.out
  · refine wp_run 20 (.const (.slice none 0 0)) (.tmp 19) rfl rfl rfl rfl rfl HR4r.out ?_
    refine hK.out _ _ trivial (fun _ => ?_)
    clear hK K
    (try simp only [Act.put, List.setIfInBounds_toArray, List.set_cons_zero, List.set_cons_succ])
    refine wpAnyH_ready (rs := [4, 7]) (by kernel_rfl) (by simp) ?_
    refine AllReadyH.cons rfl (fun K hK => ?_) (AllReadyH.cons rfl (fun K hK => ?_) AllReadyH.nil)
    · go_simp
      go_wp2_with fail
      refine hK.out _ _ trivial (fun _ => ?_)
      clear hK K
      (try simp only [Act.put, List.setIfInBounds_toArray, List.set_cons_zero, List.set_cons_succ])
      refine wpAnyH_ready (rs := [7]) (by kernel_rfl) (by simp) ?_
      refine AllReadyH.cons rfl (fun K hK => ?_) AllReadyH.nil
      go_simp
      go_wp2_with fail
      refine hK.out _ _ trivial (fun _ => ?_)
      clear hK K
      (try simp only [Act.put, List.setIfInBounds_toArray, List.set_cons_zero, List.set_cons_succ])
      refine wpAnyH_ready (rs := [8]) (by kernel_rfl) (by simp) ?_
      refine AllReadyH.cons rfl (fun K hK => ?_) AllReadyH.nil
      refine wp_run 22 (.tmp 18) (.tmp 21) rfl rfl rfl rfl rfl HR6r.out ?_
      refine hK.out _ _ trivial (fun _ => ?_)
      clear hK K
      (try simp only [Act.put, List.setIfInBounds_toArray, List.set_cons_zero, List.set_cons_succ])
      refine take_at 9 (some 23) (v := ?_) rfl rfl (by kernel_rfl) (by kernel_rfl) (by kernel_rfl) (fun _ _ _ h => h) ⟨by rfl, ?_⟩ trivial ?_
      rotate_left
      · intro wq _; go_simp; try rfl
      simp only [Act.put, List.setIfInBounds_toArray, List.set_cons_zero, List.set_cons_succ]
      refine take_at 10 (some 24) (v := ?_) rfl rfl (by kernel_rfl) (by kernel_rfl) (by kernel_rfl) (fun _ _ _ h => h) ⟨by rfl, ?_⟩ trivial ?_
      rotate_left
      · intro wq _; go_simp; try rfl
      simp only [Act.put, List.setIfInBounds_toArray, List.set_cons_zero, List.set_cons_succ]
      refine wpAnyH_ready (rs := [11]) (by kernel_rfl) (by simp) ?_
      refine AllReadyH.cons rfl (fun K hK => ?_) AllReadyH.nil
      go_simp
      go_wp2_with fail
      refine hK.out _ _ trivial (fun _ => ?_)
      clear hK K
      refine wpAnyH_done (by kernel_rfl) ?_ _
      go_wp2_with fail
      go_end0
      rw [HW7.out]
      exact FIN.out
    · go_simp
      go_wp2_with fail
      refine hK.out _ _ trivial (fun _ => ?_)
      clear hK K
      (try simp only [Act.put, List.setIfInBounds_toArray, List.set_cons_zero, List.set_cons_succ])
      refine wpAnyH_ready (rs := [4]) (by kernel_rfl) (by simp) ?_
      refine AllReadyH.cons rfl (fun K hK => ?_) AllReadyH.nil
      go_simp
      go_wp2_with fail
      refine hK.out _ _ trivial (fun _ => ?_)
      clear hK K
      (try simp only [Act.put, List.setIfInBounds_toArray, List.set_cons_zero, List.set_cons_succ])
      refine wpAnyH_ready (rs := [8]) (by kernel_rfl) (by simp) ?_
      refine AllReadyH.cons rfl (fun K hK => ?_) AllReadyH.nil
      refine wp_run 22 (.tmp 18) (.tmp 21) rfl rfl rfl rfl rfl HR6r.out ?_
      refine hK.out _ _ trivial (fun _ => ?_)
      clear hK K
      (try simp only [Act.put, List.setIfInBounds_toArray, List.set_cons_zero, List.set_cons_succ])
      refine take_at 9 (some 23) (v := ?_) rfl rfl (by kernel_rfl) (by kernel_rfl) (by kernel_rfl) (fun _ _ _ h => h) ⟨by rfl, ?_⟩ trivial ?_
      rotate_left
      · intro wq _; go_simp; try rfl
      simp only [Act.put, List.setIfInBounds_toArray, List.set_cons_zero, List.set_cons_succ]
      refine take_at 10 (some 24) (v := ?_) rfl rfl (by kernel_rfl) (by kernel_rfl) (by kernel_rfl) (fun _ _ _ h => h) ⟨by rfl, ?_⟩ trivial ?_
      rotate_left
      · intro wq _; go_simp; try rfl
      simp only [Act.put, List.setIfInBounds_toArray, List.set_cons_zero, List.set_cons_succ]
      refine wpAnyH_ready (rs := [11]) (by kernel_rfl) (by simp) ?_
      refine AllReadyH.cons rfl (fun K hK => ?_) AllReadyH.nil
      go_simp
      go_wp2_with fail
      refine hK.out _ _ trivial (fun _ => ?_)
      clear hK K
      refine wpAnyH_done (by kernel_rfl) ?_ _
      go_wp2_with fail
      go_end0
      rw [HW7.out]
      exact FIN.out
end Go.Proofs.Ytohkmigahbellaa
