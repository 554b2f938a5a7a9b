import Derived.Test.YtapjbgkmcplpbaaGreatRef5
namespace Go.Proofs.YtapjbgkmcplpbaaGreat
open Go.RowKit Go.QK

/-- 'append(s, t...)' of integers, in a region that draws its order. -/
theorem wp_append {P : Program} {ty e : TypeId} {k : IntKind} {by_ : Nat} (ht : P.underlying ty = some (.slice e)) (hin : (P.info? e).map (fun i => (i.zero, i.size, i.bytes)) = some (some (.int k 0), 1, by_))
    {o : Oper} {a : Act} {x : World} {K : Act → World → Prop} {Q : Exit → Act → World → Prop} {cond : Bool} (d : Nat) (s t : Operand) (hc : cond = true) (hd : o.dst = some d)
    (ho : o.op = .call { callee := .builtin .append, args := #[s, t], argTypes := #[ty, ty] })
    (B : Nat) (v : Value) (xs : List Int) (hs : a.eval s = v) (hown : Owns k e x B v xs) (ax : Option Addr) (n c : Nat) (ys : List Int) (hyn : ys.length = n) (hx : a.eval t = .slice ax n c) (hseen : Seen k x ax ys) (hnil : ax = none → c = 0)
    (h63 : xs.length + ys.length ≤ maxLen) (hbytes : (xs.length + ys.length) * by_ ≤ 140737488355328) (hB : B ≤ x.heap.size)
    (h : ∀ v' x', Owns k e x' B v' (xs ++ ys) → x.grownBy x' v.ownBlock → (v'.ownBlock = v.ownBlock ∨ v'.ownBlock = some x.heap.size) → K (a.put (some d) v') x') : if cond = true then Oper.wp P o a x K Q else K (a.put o.dst undef) x := by
  rw [if_pos hc]
  obtain ⟨i0, hi, hz0, hz1, hz2⟩ := info_parts hin
  subst hyn
  have key : ∀ v' x', (Builtin.append_ #[ty, ty] o.type #[v, .slice ax ys.length c]).run P x = .ok v' x' → Owns k e x' B v' (xs ++ ys) → x.grownBy x' v.ownBlock → (v'.ownBlock = v.ownBlock ∨ v'.ownBlock = some x.heap.size) → Oper.wp P o a x K Q := by
    intro v' w' hr h1 h2 h4
    have hrun : (execOp a.eval o).run P x = .ok (.value v') w' := by
      unfold execOp
      simp only [ho, resolve, invoke, builtin, Sem.run_bind, Sem.run_pure, Result.andThen_ok, List.map_toArray, List.map_cons, List.map_nil, hs, hx, hr]
    unfold Oper.wp
    rw [hrun]
    show K (a.put o.dst v') w'
    rw [hd]
    exact h v' w' h1 h2 h4
  cases ax with
  | none =>
    have hc := hnil rfl
    subst hc
    rcases hseen with rfl | ⟨b, off, hn, _⟩
    · have hrun := run_append_owned_none (P := P) (w := x) B ty o.type e i0 1 ht hi v xs.length _ hown
      exact key v x hrun (by simpa using hown) (World.grownBy.refl _ _) (.inl rfl)
    · cases hn
  | some ad =>
    obtain ⟨v', w', hr, h1, h2, h3, h4⟩ := run_append_own_at (P := P) x B ty o.type e i0 (.int k 0) 1 by_ ht hi hz0 hz1 hz2 rfl (by decide) v xs.length _ hown ad ys.length c (ys.map (Value.int k)) (by simp) (by
        intro j u hj
        rcases hseen with rfl | ⟨b, off, hn, hlt, hc⟩
        · simp at hj
        · cases hn
          simp at hj
          obtain ⟨q, hq, rfl⟩ := hj
          obtain ⟨hjl, hq'⟩ := List.getElem?_eq_some_iff.1 hq
          rw [addr_add, hc j hjl, hq']) (by
        intro u hu
        simp at hu
        obtain ⟨q, _, rfl⟩ := hu
        rfl) h63 hbytes hB
    exact key v' w' hr (by unfold Owns; simpa using h1) h2 h4

set_option maxHeartbeats 1000000 in
set_option maxRecDepth 100000 in
theorem rArm_any {w : World} {S : Nat → Prop} {d : Nat} {g : Dev} (h : RDev w S d g) (step : Int) (hst : step ≤ 9223372036854775807) (l : Loss) (a : Option Addr) (c : Nat) (hl : LossAt w l a c) (ha : l.keep ≠ [] → ∀ ad, a = some ad → ¬ S ad.block) (hkl : l.keep.length ≤ 17592186044415) :
    Calls Tryz.prog 27 #[.pointer (some ⟨d, 0, none⟩), .int .i64 step, .agg #[.slice a l.keep.length c, .int .i64 l.torn, .int .i64 l.off]] w fun e w' => ∃ S', e = .returned (.int .i64 ((g.armE step : Nat) : Int)) ∧ RDev w' S' d (g.arm step l) ∧ Step w S w' S' := by
  have okA := hide (h.ok.arm' step l hl.ok hst)
  obtain ⟨ib, ic, pv, ps, kv, tn, off, hc, hb, hp, ok⟩ := h
  obtain ⟨c3, f3⟩ := hc.get 2 _ rfl
  obtain ⟨c4, f4⟩ := hc.get 4 _ rfl
  have hdl := hc.1
  have B0 := alloc_below w (.cells #[.slice a l.keep.length c, .int .i64 l.torn, .int .i64 l.off] 33)
  have C0 := hide (hc.below B0)
  have HC := hide hc
  have HB := hide hb
  have LB := hide (hb.below B0)
  unfold Dev.armE
  have OKG := hide ok
  by_cases hd : g.down = true
  · rw [hd] at c3
    rw [if_pos hd]
    have e0 : g.arm step l = g := by unfold Dev.arm; rw [if_pos (Or.inl hd)]
    rw [e0]
    clear hc hb okA
    go_enter Tryz.func27, Tryz.ntmps27
    go_wp2_with fail
    go_ret
    exact ⟨S, rfl, ⟨ib, ic, pv, ps, kv, tn, off, C0.out, LB.out, hp, OKG.out⟩, Step.of_below B0⟩
  · rw [if_neg hd]
    have hdf := hide hd
    simp only [Bool.not_eq_true] at hd
    rw [hd] at c3
    by_cases hs : step < 0
    · rw [if_pos hs]
      have e0 : g.arm step l = g := by unfold Dev.arm; rw [if_pos (Or.inr hs)]
      rw [e0]
      clear hc hb okA
      go_enter Tryz.func27, Tryz.ntmps27
      go_wp2_with fail
      go_ret
      exact ⟨S, rfl, ⟨ib, ic, pv, ps, kv, tn, off, C0.out, LB.out, hp, OKG.out⟩, Step.of_below B0⟩
    · rw [if_neg hs]
      have e0 := hide (show g.arm step l = { g with left := step.toNat, loss := if 0 < step then some l else none } by unfold Dev.arm; rw [if_neg (by rintro (q | q); exact hdf.out q; exact hs q)])
      have hs' : decide (step < 0) = false := by simpa using hs
      clear hc hb
      have hs0 := hs
      go_enter Tryz.func27, Tryz.ntmps27
      go_upto_region 6 with fail
      obtain ⟨w1, hw1⟩ : ∃ w1, w1 = ((w.setCell ⟨d, 4, none⟩ (.int .i64 step)).alloc (.cells #[.slice a l.keep.length c, .int .i64 l.torn, .int .i64 l.off] 33)) := ⟨_, rfl⟩
      rw [← hw1]
      have s0 : (w.setCell ⟨d, 4, none⟩ (.int .i64 step)).heap.size = w.heap.size := by simp
      have kd1 : Keep (fun j => j = d) w (w.setCell ⟨d, 4, none⟩ (.int .i64 step)) := (Keep.refl (fun j => j = d) w).setCell (fun _ => rfl) _
      have b1 : Below (w.setCell ⟨d, 4, none⟩ (.int .i64 step)).heap.size (w.setCell ⟨d, 4, none⟩ (.int .i64 step)) w1 := by rw [hw1]; exact alloc_below _ _
      have C1 : Hid (Cells w1 d (rcs (.slice (some ⟨ib, 0, none⟩) g.img.length ic) pv { g with left := step.toNat } kv tn off)) := by
        have e : ((step.toNat : Nat) : Int) = step := by omega
        have q := (HC.out.stored (j := 4) (by simp [rcs]) (.int .i64 step)).below b1
        simp only [rcs, e]
        exact q
      have n0 : ¬ w.heap.size = d := by omega
      have y0 : w1.cell? ⟨w.heap.size, 0, none⟩ = some (.slice a l.keep.length c) := by rw [hw1]; have := World.cell?_alloc_new (w.setCell ⟨d, 4, none⟩ (.int .i64 step)) #[.slice a l.keep.length c, .int .i64 l.torn, .int .i64 l.off] 33 0; rw [s0] at this; rw [this]; rfl
      have y1 : w1.cell? ⟨w.heap.size, 1, none⟩ = some (.int .i64 l.torn) := by rw [hw1]; have := World.cell?_alloc_new (w.setCell ⟨d, 4, none⟩ (.int .i64 step)) #[.slice a l.keep.length c, .int .i64 l.torn, .int .i64 l.off] 33 1; rw [s0] at this; rw [this]; rfl
      have y2 : w1.cell? ⟨w.heap.size, 2, none⟩ = some (.int .i64 l.off) := by rw [hw1]; have := World.cell?_alloc_new (w.setCell ⟨d, 4, none⟩ (.int .i64 step)) #[.slice a l.keep.length c, .int .i64 l.torn, .int .i64 l.off] 33 2; rw [s0] at this; rw [this]; rfl
      have KW1 := hide (kd1.then_below b1)
      have s1 : w1.heap.size = w.heap.size + 1 := by rw [hw1]; simp
      have hs1 := hide (Seen.keep' hl.seen KW1.out (fun hx ad had q => ha (ints_ne hx) ad had (by rw [q]; exact HB.out.dS)))
      clear hw1 kd1 b1 s0 HC C0 c3 f3 c4 f4 LB
      refine wp_region_held_drew (S := fun wq => wq.cell? ⟨w.heap.size, 0, none⟩ = some (.slice a l.keep.length c) ∧ wq.cell? ⟨w.heap.size, 1, none⟩ = some (.int .i64 l.torn) ∧ wq.cell? ⟨w.heap.size, 2, none⟩ = some (.int .i64 l.off)) (by kernel_rfl) ⟨y0, y1, y2⟩ (fun hS => ?_)
      refine take_at 0 (some 17) (v := ?_) rfl rfl (by kernel_rfl) (by kernel_rfl) (by kernel_rfl) (fun _ _ _ h => h) ⟨by rfl, ?_⟩ hS ?_
      rotate_left
      · intro wq hSw; obtain ⟨x0, x1, x2⟩ := hSw; go_simp; try rfl
      simp only [Act.put, List.setIfInBounds_toArray, List.set_cons_zero, List.set_cons_succ]
      refine take_at 1 (some 18) (v := ?_) rfl rfl (by kernel_rfl) (by kernel_rfl) (by kernel_rfl) (fun _ _ _ h => h) ⟨by rfl, ?_⟩ hS ?_
      rotate_left
      · intro wq hSw; obtain ⟨x0, x1, x2⟩ := hSw; go_simp; try rfl
      simp only [Act.put, List.setIfInBounds_toArray, List.set_cons_zero, List.set_cons_succ]
      refine take_at 2 (some 19) (v := ?_) rfl rfl (by kernel_rfl) (by kernel_rfl) (by kernel_rfl) (fun _ _ _ h => h) ⟨by rfl, ?_⟩ hS ?_
      rotate_left
      · intro wq hSw; obtain ⟨x0, x1, x2⟩ := hSw; go_simp; try rfl
      simp only [Act.put, List.setIfInBounds_toArray, List.set_cons_zero, List.set_cons_succ]
      refine take_at 4 (some 21) (v := ?_) rfl rfl (by kernel_rfl) (by kernel_rfl) (by kernel_rfl) (fun _ _ _ h => h) ⟨by rfl, ?_⟩ hS ?_
      rotate_left
      · intro wq hSw; obtain ⟨x0, x1, x2⟩ := hSw; go_simp; try rfl
      simp only [Act.put, List.setIfInBounds_toArray, List.set_cons_zero, List.set_cons_succ]
      refine take_at 5 (some 22) (v := ?_) rfl rfl (by kernel_rfl) (by kernel_rfl) (by kernel_rfl) (fun _ _ _ h => h) ⟨by rfl, ?_⟩ hS ?_
      rotate_left
      · intro wq hSw; obtain ⟨x0, x1, x2⟩ := hSw; go_simp; try rfl
      simp only [Act.put, List.setIfInBounds_toArray, List.set_cons_zero, List.set_cons_succ]
      refine take_at 6 (some 23) (v := ?_) rfl rfl (by kernel_rfl) (by kernel_rfl) (by kernel_rfl) (fun _ _ _ h => h) ⟨by rfl, ?_⟩ hS ?_
      rotate_left
      · intro wq hSw; obtain ⟨x0, x1, x2⟩ := hSw; go_simp; try rfl
      simp only [Act.put, List.setIfInBounds_toArray, List.set_cons_zero, List.set_cons_succ]
      refine take_at 7 (some 24) (v := ?_) rfl rfl (by kernel_rfl) (by kernel_rfl) (by kernel_rfl) (fun _ _ _ h => h) ⟨by rfl, ?_⟩ hS ?_
      rotate_left
      · intro wq hSw; obtain ⟨x0, x1, x2⟩ := hSw; go_simp; try rfl
      simp only [Act.put, List.setIfInBounds_toArray, List.set_cons_zero, List.set_cons_succ]
      refine wpAnyH_ready (rs := [3]) (by kernel_rfl) (by simp) ?_
      refine AllReadyH.cons rfl (fun K hK => ?_) AllReadyH.nil
      refine wp_append Tryz.underlying31 info79 20 (.const (.slice none 0 0)) (.tmp 19) rfl rfl rfl w1.heap.size (.slice none 0 0) [] rfl (Owns.nil _ _ _ _) a l.keep.length c (ints l.keep) (by simp) rfl hs1.out hl.nil (by unfold maxLen; simp; omega) (by simp; omega) (Nat.le_refl _) ?_
      intro v2 w2 o2 g2 _
      rw [List.nil_append] at o2
      have b2 : Below w1.heap.size w1 w2 := (below_undrew ((Below.refl _ _).grown g2 (Nat.le_refl _) (by nofun)))
      obtain ⟨a3, c3', hv3, s3, n3, l3, m3⟩ := o2.seen
      rw [ints_length] at hv3
      have hw3 : ∀ ad, a3 = some ad → w1.heap.size ≤ ad.block ∧ ad.block < w2.heap.size := fun ad had => World.ownsRow.lt o2 _ (by rw [hv3, had]; rfl)
      subst hv3
      have C2 := hide (C1.out.below b2)
      obtain ⟨u5, g5⟩ := C2.out.get 5 _ rfl
      obtain ⟨u6, g6⟩ := C2.out.get 6 _ rfl
      obtain ⟨u7, g7⟩ := C2.out.get 7 _ rfl
      have S3 := hide s3
      have KW2 := hide (KW1.out.then_below b2)
      have sz2 := b2.size
      have hS2 : w2.cell? ⟨w.heap.size, 0, none⟩ = some (.slice a l.keep.length c) ∧ w2.cell? ⟨w.heap.size, 1, none⟩ = some (.int .i64 l.torn) ∧ w2.cell? ⟨w.heap.size, 2, none⟩ = some (.int .i64 l.off) := ⟨(b2.cell (p := ⟨w.heap.size, 0, none⟩) (by show w.heap.size < _; omega)).trans y0, (b2.cell (p := ⟨w.heap.size, 1, none⟩) (by show w.heap.size < _; omega)).trans y1, (b2.cell (p := ⟨w.heap.size, 2, none⟩) (by show w.heap.size < _; omega)).trans y2⟩
      clear o2 g2 s3 b2 hs1 C1 KW1 y0 y1 y2 hS
      refine hK.out _ _ hS2 (fun hS => ?_)
      clear hK K
      (try simp only [Act.put, List.setIfInBounds_toArray, List.set_cons_zero, List.set_cons_succ])
      refine take_at 8 (some 25) (v := ?_) rfl rfl (by kernel_rfl) (by kernel_rfl) (by kernel_rfl) (fun _ _ _ h => h) ⟨by rfl, ?_⟩ hS ?_
      rotate_left
      · intro wq hSw; obtain ⟨x0, x1, x2⟩ := hSw; go_simp; try rfl
      simp only [Act.put, List.setIfInBounds_toArray, List.set_cons_zero, List.set_cons_succ]
      refine take_at 9 (some 26) (v := ?_) rfl rfl (by kernel_rfl) (by kernel_rfl) (by kernel_rfl) (fun _ _ _ h => h) ⟨by rfl, ?_⟩ hS ?_
      rotate_left
      · intro wq hSw; obtain ⟨x0, x1, x2⟩ := hSw; go_simp; try rfl
      simp only [Act.put, List.setIfInBounds_toArray, List.set_cons_zero, List.set_cons_succ]
      refine take_at 10 (some 27) (v := ?_) rfl rfl (by kernel_rfl) (by kernel_rfl) (by kernel_rfl) (fun _ _ _ h => h) ⟨by rfl, ?_⟩ hS ?_
      rotate_left
      · intro wq hSw; obtain ⟨x0, x1, x2⟩ := hSw; go_simp; try rfl
      simp only [Act.put, List.setIfInBounds_toArray, List.set_cons_zero, List.set_cons_succ]
      refine wpAnyH_ready (rs := [11]) (by kernel_rfl) (by simp) ?_
      refine AllReadyH.cons rfl (fun K hK => ?_) AllReadyH.nil
      go_simp
      go_wp2_with fail
      refine hK.out _ _ ?_ (fun _ => ?_)
      · have kd : Keep (fun j => j = d) w2 (((w2.setCell ⟨d, 5, none⟩ (.slice a3 l.keep.length c3')).setCell ⟨d, 6, none⟩ (.int .i64 l.torn)).setCell ⟨d, 7, none⟩ (.int .i64 l.off)) := (((Keep.refl (fun j => j = d) w2).setCell (fun _ => rfl) _).setCell (fun _ => rfl) _).setCell (fun _ => rfl) _
        exact ⟨(kd.cell (p := ⟨w.heap.size, 0, none⟩) (by show w.heap.size < _; omega) n0).trans hS.1, (kd.cell (p := ⟨w.heap.size, 1, none⟩) (by show w.heap.size < _; omega) n0).trans hS.2.1, (kd.cell (p := ⟨w.heap.size, 2, none⟩) (by show w.heap.size < _; omega) n0).trans hS.2.2⟩
      clear hK K
      refine wpAnyH_done (by kernel_rfl) ?_ _
      go_wp2_with fail
      go_ret
      have KD : Keep (fun j => j = d) w (((w2.setCell ⟨d, 5, none⟩ (.slice a3 l.keep.length c3')).setCell ⟨d, 6, none⟩ (.int .i64 l.torn)).setCell ⟨d, 7, none⟩ (.int .i64 l.off)) := ((KW2.out.setCell (fun _ => rfl) _).setCell (fun _ => rfl) _).setCell (fun _ => rfl) _
      have C5 := ((C2.out.stored (j := 5) (by simp [rcs]) (.slice a3 l.keep.length c3')).stored (j := 6) (by simp [rcs]) (.int .i64 l.torn)).stored (j := 7) (by simp [rcs]) (.int .i64 l.off)
      have k5 : Keep (fun j => j = d) w2 (((w2.setCell ⟨d, 5, none⟩ (.slice a3 l.keep.length c3')).setCell ⟨d, 6, none⟩ (.int .i64 l.torn)).setCell ⟨d, 7, none⟩ (.int .i64 l.off)) := (((Keep.refl (fun j => j = d) w2).setCell (fun _ => rfl) _).setCell (fun _ => rfl) _).setCell (fun _ => rfl) _
      have nS : ∀ ad, a3 = some ad → ¬ S ad.block := fun ad had q => by
        have := HB.out.lt _ q
        have := hw3 ad had
        omega
      have S5 := Seen.keep S3.out k5 (fun ad had q => nS ad had (by rw [q]; exact HB.out.dS))
      obtain ⟨w5, hw5⟩ : ∃ w5, w5 = (((w2.setCell ⟨d, 5, none⟩ (.slice a3 l.keep.length c3')).setCell ⟨d, 6, none⟩ (.int .i64 l.torn)).setCell ⟨d, 7, none⟩ (.int .i64 l.off)) := ⟨_, rfl⟩
      have z5 : w5.heap.size = w2.heap.size := by rw [hw5]; simp
      rw [← hw5] at KD C5 S5 ⊢
      have B4 := HB.out.keep KD (fun _ q _ => q)
      rw [e0.out] at okA ⊢
      refine ⟨fun b => S b ∨ ∃ ad, a3 = some ad ∧ ad.block = b, rfl, ⟨ib, ic, pv, ps, .slice a3 l.keep.length c3', l.torn, l.off, C5, ?_, hp, okA.out⟩, KD.mono (fun j _ q => by subst q; exact HB.out.dS), ?_⟩
      · refine ⟨.inl B4.dS, B4.img, ⟨.inl B4.iS.1, B4.iS.2⟩, B4.row, fun b hb => ⟨.inl (B4.rS b hb).1, (B4.rS b hb).2⟩, fun p hp => ?_, fun l' hl' => ?_, fun b hb => ?_⟩
        · obtain ⟨h1, h2, h3, h4, h5⟩ := B4.en p hp
          exact ⟨h1, h2, h3, .inl h4, h5⟩
        · have hl2 : l' = l := by
            dsimp only at hl'
            split at hl'
            · exact (Option.some.inj hl').symm
            · cases hl'
          subst hl2
          exact ⟨rfl, rfl, a3, c3', rfl, S5, n3, fun ad had => ⟨.inr ⟨ad, had, rfl⟩, fun q => nS ad had (by rw [q]; exact HB.out.dS), fun q => nS ad had (by rw [q]; exact HB.out.iS.1), fun q => nS ad had (HB.out.rS _ q).1⟩⟩
        · rcases hb with q | ⟨ad, had, rfl⟩
          · exact B4.lt b q
          · rw [z5]
            exact (hw3 ad had).2
      · rintro b (q | ⟨ad, had, rfl⟩)
        · exact .inl q
        · have := (hw3 ad had).1
          exact .inr (by omega)
end Go.Proofs.YtapjbgkmcplpbaaGreat
