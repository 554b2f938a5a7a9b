import Derived.Test.YtoocbpbaieedmaaAp7
namespace Go.Proofs.Ytoocbpbaieedmaa
open Go.RowKit Go.QK Quota
set_option maxRecDepth 100000
theorem ctr_any (B b cb : Nat) (v1 v2 : Value) (p : Pg) (r : Rc) (w : World) (h : PQ w B b v1 v2 p) (hf : p.Fit) (hr : r.Fit) (hcb : RBox w cb 38 (recA r)) : Calls Try.prog 31 #[ptr b, recV r, fv (fnOf r.k) cb] w fun e w' => e = .returned (.int .i64 (ctrE p r)) ∧ Below B w w' ∧ (ctrE p r = 0 → ∃ v1' v2', PQ w' B b v1' v2' (ctrP p r)) := by
  have hB : B ≤ w.heap.size := Nat.le_trans h.hB (Nat.le_of_lt h.lt)
  by_cases hi : isC p r
  · by_cases hk : r.k = 2
    · have e1 : ctrE p r = 0 := by unfold ctrE; rw [if_pos hi, if_pos hk]
      have e2 : ctrP p r = ⟨p.num, p.lsn, p.cs ++ [r.c], p.gs⟩ := by unfold ctrP; rw [if_pos hk]
      rw [e1, e2]
      refine (cc_new B b cb _ v1 v2 p r w h hf hi hk).mono ?_
      rintro e w' ⟨h1, h2, h3⟩
      exact ⟨h1, h2, fun _ => h3⟩
    · have e1 : ctrE p r = fitE (mv r (ctrAt p.cs r.wi).val) := by unfold ctrE; rw [if_pos hi, if_neg hk]
      have e2 : ctrP p r = ⟨p.num, p.lsn, putV p.cs r.wi (mv r (ctrAt p.cs r.wi).val), p.gs⟩ := by unfold ctrP; rw [if_neg hk]
      rw [e1, e2]
      refine (cc_old B b cb _ v1 v2 p r w h hf hr hi hk rfl hcb).mono ?_
      rintro e w' ⟨h1, h2, h3⟩
      exact ⟨h1, h2, fun q => h3 (fitE_zero.1 q)⟩
  · have e1 : ctrE p r = 83 := by unfold ctrE; rw [if_neg hi]
    rw [e1]
    refine (cc_no B b cb _ v1 v2 p r w h hf hi).mono ?_
    rintro e w' ⟨h1, h2⟩
    exact ⟨h1, h2.mono hB, fun q => by cases q⟩
theorem sum_any (B b cb : Nat) (v1 v2 : Value) (p : Pg) (r : Rc) (w : World) (h : PQ w B b v1 v2 p) (hf : p.Fit) (hr : r.Fit) (hcb : RBox w cb 38 (recA r)) (hcv : ¬ v2.ownBlock = some cb) (hcb2 : ¬ cb = b) : Calls Try.prog 33 #[ptr b, recV r, fv (fnOf r.k) cb] w fun e w' => e = .returned (.int .i64 (sumE p r)) ∧ Below B w w' ∧ (sumE p r = 0 → ∃ v1' v2', PQ w' B b v1' v2' (sumP p r)) := by
  have hB : B ≤ w.heap.size := Nat.le_trans h.hB (Nat.le_of_lt h.lt)
  by_cases hi : isS p r
  · by_cases hs : r.si = p.gs.length
    · have eg : grown p.gs r = p.gs ++ [⟨r.c.grp, 0⟩] := by unfold grown; rw [if_pos hs]
      have ea : grpAt (p.gs ++ [⟨r.c.grp, 0⟩]) r.si = ⟨r.c.grp, 0⟩ := by
        rw [hs, grpAt_nat _ p.gs.length (by simp)]
        simp
      have e1 : sumE p r = fitE (mv r 0) := by unfold sumE; rw [if_pos hi, eg, ea]
      have e2 : sumP p r = ⟨p.num, p.lsn, p.cs, putS (p.gs ++ [⟨r.c.grp, 0⟩]) r.si (mv r 0)⟩ := by unfold sumP; rw [eg, ea]
      rw [e1, e2]
      refine (cs_new B b cb _ v1 v2 p r w h hf hr hi hs rfl hcb hcv hcb2).mono ?_
      rintro e w' ⟨h1, h2, h3⟩
      exact ⟨h1, h2, fun q => h3 (fitE_zero.1 q)⟩
    · have h2 : 0 ≤ r.si ∧ r.si < p.gs.length := by
        have := hi.2
        by_cases q : 0 ≤ r.si ∧ r.si < p.gs.length
        · exact q
        · rw [if_neg q] at this
          exact absurd this.2.1 hs
      have eg : grown p.gs r = p.gs := by unfold grown; rw [if_neg hs]
      have e1 : sumE p r = fitE (mv r (grpAt p.gs r.si).sum) := by unfold sumE; rw [if_pos hi, eg]
      have e2 : sumP p r = ⟨p.num, p.lsn, p.cs, putS p.gs r.si (mv r (grpAt p.gs r.si).sum)⟩ := by unfold sumP; rw [eg]
      rw [e1, e2]
      refine (cs_old B b cb _ v1 v2 p r w h hf hr hi h2.1 h2.2 rfl hcb).mono ?_
      rintro e w' ⟨h1, h2, h3⟩
      exact ⟨h1, h2, fun q => h3 (fitE_zero.1 q)⟩
  · have e1 : sumE p r = 83 := by unfold sumE; rw [if_neg hi]
    rw [e1]
    refine (cs_no B b cb _ v1 v2 p r w h hf hi).mono ?_
    rintro e w' ⟨h1, h2⟩
    exact ⟨h1, h2.mono hB, fun q => by cases q⟩
theorem wp_ld38 {o : Oper} {a : Act} {x : World} {K : Act → World → Prop} {Q : Exit → Act → World → Prop} {cond : Bool} {b : Nat} {cs : Array Value} (d : Nat) (p : Operand) (hc : cond = true) (hd : o.dst = some d) (ho : o.op = .load 38 p) (hp : a.eval p = .pointer (some ⟨b, 0, none⟩)) (hb : RBox x b 38 cs) (hs : cs.size = 17)
    (h : K (a.put (some d) (.agg cs)) x) : if cond = true then Oper.wp Try.prog o a x K Q else K (a.put o.dst undef) x := by
  rw [if_pos hc]
  have hrun := exec_load38 (ev := a.eval) ho hp (rb_at hb) hs
  unfold Oper.wp
  rw [hrun]
  show K (a.put o.dst (.agg cs)) x
  rw [hd]
  exact h
set_option maxHeartbeats 4000000 in
theorem cp_ctr (B b : Nat) (v1 v2 : Value) (p : Pg) (r : Rc) (w : World) (h : PQ w B b v1 v2 p) (hf : p.Fit) (hr : r.Fit) (hq : p.num = r.wp) : Calls Try.prog 24 #[ptr b, recV r] w fun e w' => e = .returned (.int .i64 (ctrE p r)) ∧ Below B w w' ∧ (ctrE p r = 0 → ∃ v1' v2', PQ w' B b v1' v2' (ctrP p r)) := by
  have hB : B ≤ w.heap.size := Nat.le_trans h.hB (Nat.le_of_lt h.lt)
  obtain ⟨RA, hRA⟩ : ∃ RA, RA = recA r := ⟨_, rfl⟩
  have hsz : RA.size = 17 := by rw [hRA]; rfl
  have hk4 := hide (show ∀ (x : World) (n : Nat), RBox x n 38 RA → x.cell? ⟨n, 4, none⟩ = some (.int .i64 r.wp) from fun x n q => by subst hRA; exact (q.cells.get 4 _ rfl).1)
  have K1 := fun w' => changeOf_any r w'
  have K2 := fun w' cb v1 v2 hp hc => ctr_any B b cb v1 v2 p r w' hp hf hr hc
  show Calls Try.prog 24 #[ptr b, .agg (recA r)] w _
  simp only [recV] at K1 K2
  rw [← hRA] at K1 K2 ⊢
  obtain ⟨E, hE⟩ : ∃ E, E = ctrE p r := ⟨_, rfl⟩
  rw [← hE] at K2 ⊢
  obtain ⟨F, hF⟩ : ∃ F, F = fnOf r.k := ⟨_, rfl⟩
  rw [← hF] at K1 K2
  have HQ : (p.num == r.wp) = true := by simpa using hq
  have HSZ := hide hsz
  have HPQ := hide h
  have HBW := hide hB
  clear h hsz hRA hB hq hf hr hE hF
  go_enter Try.func24, Try.ntmps24
  go_upto_region 1 with fail
  refine named (P := Code.wp _ _ _ _) ?_
  intro w1 hw1
  obtain ⟨nb, hnb⟩ : ∃ nb, nb = w.heap.size := ⟨_, rfl⟩
  have b1 : Below w.heap.size w w1 := by rw [hw1]; exact alloc_below _ _
  have PQ1 := hide (HPQ.out.below b1)
  have RB1 := hide (show RBox w1 nb 38 RA by rw [hw1, hnb]; exact RBox.new _ _ _)
  have B1 := hide b1
  rw [← hnb]
  clear hw1 b1 HPQ hnb
  have f4 := hk4.out _ _ RB1.out
  obtain ⟨f0, -⟩ := PQ1.out.cl.get 0 _ rfl
  go_upto_region 2 with (go_quiet (fail))
  clear f4 f0
  refine named (P := Code.wp _ _ _ _) ?_
  intro wz hwz
  have bz : Below w1.heap.size w1 wz := by rw [hwz]; exact bel (Below.refl _ _)
  have PQZ := hide (PQ1.out.below bz)
  have RBZ := hide (RB1.out.below bz)
  have BZ := hide (B1.out.trans (bz.mono B1.out.size))
  clear hwz bz PQ1 RB1 B1 w1
  refine wp_region_held_drew (S := fun wq => True) (by kernel_rfl) trivial (fun hS => ?_)
  have D0 := hide ((Below.refl wz.heap.size wz).drew)
  have PQ0 := hide (PQZ.out.below D0.out)
  have RB0 := hide (RBZ.out.below D0.out)
  have B0 := hide (BZ.out.trans (D0.out.mono BZ.out.size))
  clear D0 PQZ RBZ BZ
  generalize wz.drew = x0 at *
  refine take_at 0 (some 13) (v := ?_) rfl rfl (by kernel_rfl) (by kernel_rfl) (by kernel_rfl) (fun _ _ _ h => h) ⟨by rfl, ?_⟩ hS ?_
  rotate_left
  · intro wq hSw; go_simp; try rfl
  simp only [Act.put, List.setIfInBounds_toArray, List.set_cons_zero, List.set_cons_succ]
  clear hS
  refine wpAnyH_ready (rs := [1, 2]) (by kernel_rfl) (by simp) ?_
  refine AllReadyH.cons rfl (fun K hK => ?_) (AllReadyH.cons rfl (fun K hK => ?_) AllReadyH.nil)
  · refine wp_ld38 14 (.tmp 3) rfl rfl rfl rfl RB0.out HSZ.out ?_
    refine hK.out _ _ trivial (fun hS => ?_)
    clear hK K hS
    (try simp only [Act.put, List.setIfInBounds_toArray, List.set_cons_zero, List.set_cons_succ])
    refine wpAnyH_ready (rs := [2]) (by kernel_rfl) (by simp) ?_
    refine AllReadyH.cons rfl (fun K hK => ?_) AllReadyH.nil
    refine wp_ld38 15 (.tmp 3) rfl rfl rfl rfl RB0.out HSZ.out ?_
    refine hK.out _ _ trivial (fun hS => ?_)
    clear hK K hS
    (try simp only [Act.put, List.setIfInBounds_toArray, List.set_cons_zero, List.set_cons_succ])
    refine wpAnyH_ready (rs := [3]) (by kernel_rfl) (by simp) ?_
    refine AllReadyH.cons rfl (fun K hK => ?_) AllReadyH.nil
    go_simp
    go_wp2_with fail
    refine (K1 x0).mono ?_
    rintro e x1 ⟨rfl, hx1⟩
    have al : Below x0.heap.size x0 x1 := by rw [hx1]; exact alloc_below _ _
    have CB := hide (show RBox x1 x0.heap.size 38 RA by rw [hx1]; exact RBox.new _ _ _)
    have PQ1 := hide (PQ0.out.below al)
    have RB1 := hide (RB0.out.below al)
    have B1 := hide (B0.out.trans (al.mono B0.out.size))
    have C1 := hide (show ¬ v2.ownBlock = some x0.heap.size from fun q => by have := (World.ownsRow.lt PQ0.out.g2 _ q).2; omega)
    have C2 := hide (show ¬ x0.heap.size = b by have := PQ0.out.lt; omega)
    clear hx1 al
    go_wp2_with fail
    refine hK.out _ _ trivial (fun hS => ?_)
    clear hK K hS
    (try simp only [Act.put, List.setIfInBounds_toArray, List.set_cons_zero, List.set_cons_succ])
    refine wpAnyH_ready (rs := [4]) (by kernel_rfl) (by simp) ?_
    refine AllReadyH.cons rfl (fun K hK => ?_) AllReadyH.nil
    go_simp
    go_wp2_with fail
    refine (K2 _ _ _ _ PQ1.out CB.out).mono ?_
    rintro e x2 ⟨rfl, h2, h3⟩
    have H3 := hide h3
    have HB2 := hide ((B1.out.mono HBW.out).trans h2)
    clear h2 h3 K1 K2
    go_wp2_with fail
    refine hK.out _ _ trivial (fun hS => ?_)
    clear hK K
    (try simp only [Act.put, List.setIfInBounds_toArray, List.set_cons_zero, List.set_cons_succ])
    refine take_at 5 (some 4) (v := ?_) rfl rfl (by kernel_rfl) (by kernel_rfl) (by kernel_rfl) (fun _ _ _ h => h) ⟨by rfl, ?_⟩ hS ?_
    rotate_left
    · intro wq hSw; go_simp; try rfl
    simp only [Act.put, List.setIfInBounds_toArray, List.set_cons_zero, List.set_cons_succ]
    clear hS
    refine wpAnyH_done (by kernel_rfl) ?_ _
    go_wp2_with fail
    exact bodyPost_ret (v := .int .i64 E) (by simp [results, Try.results24, go_sem]) rfl ⟨rfl, HB2.out, H3.out⟩
  · refine wp_ld38 15 (.tmp 3) rfl rfl rfl rfl RB0.out HSZ.out ?_
    refine hK.out _ _ trivial (fun hS => ?_)
    clear hK K hS
    (try simp only [Act.put, List.setIfInBounds_toArray, List.set_cons_zero, List.set_cons_succ])
    refine wpAnyH_ready (rs := [1, 3]) (by kernel_rfl) (by simp) ?_
    refine AllReadyH.cons rfl (fun K hK => ?_) (AllReadyH.cons rfl (fun K hK => ?_) AllReadyH.nil)
    · refine wp_ld38 14 (.tmp 3) rfl rfl rfl rfl RB0.out HSZ.out ?_
      refine hK.out _ _ trivial (fun hS => ?_)
      clear hK K hS
      (try simp only [Act.put, List.setIfInBounds_toArray, List.set_cons_zero, List.set_cons_succ])
      refine wpAnyH_ready (rs := [3]) (by kernel_rfl) (by simp) ?_
      refine AllReadyH.cons rfl (fun K hK => ?_) AllReadyH.nil
      go_simp
      go_wp2_with fail
      refine (K1 x0).mono ?_
      rintro e x1 ⟨rfl, hx1⟩
      have al : Below x0.heap.size x0 x1 := by rw [hx1]; exact alloc_below _ _
      have CB := hide (show RBox x1 x0.heap.size 38 RA by rw [hx1]; exact RBox.new _ _ _)
      have PQ1 := hide (PQ0.out.below al)
      have RB1 := hide (RB0.out.below al)
      have B1 := hide (B0.out.trans (al.mono B0.out.size))
      have C1 := hide (show ¬ v2.ownBlock = some x0.heap.size from fun q => by have := (World.ownsRow.lt PQ0.out.g2 _ q).2; omega)
      have C2 := hide (show ¬ x0.heap.size = b by have := PQ0.out.lt; omega)
      clear hx1 al
      go_wp2_with fail
      refine hK.out _ _ trivial (fun hS => ?_)
      clear hK K hS
      (try simp only [Act.put, List.setIfInBounds_toArray, List.set_cons_zero, List.set_cons_succ])
      refine wpAnyH_ready (rs := [4]) (by kernel_rfl) (by simp) ?_
      refine AllReadyH.cons rfl (fun K hK => ?_) AllReadyH.nil
      go_simp
      go_wp2_with fail
      refine (K2 _ _ _ _ PQ1.out CB.out).mono ?_
      rintro e x2 ⟨rfl, h2, h3⟩
      have H3 := hide h3
      have HB2 := hide ((B1.out.mono HBW.out).trans h2)
      clear h2 h3 K1 K2
      go_wp2_with fail
      refine hK.out _ _ trivial (fun hS => ?_)
      clear hK K
      (try simp only [Act.put, List.setIfInBounds_toArray, List.set_cons_zero, List.set_cons_succ])
      refine take_at 5 (some 4) (v := ?_) rfl rfl (by kernel_rfl) (by kernel_rfl) (by kernel_rfl) (fun _ _ _ h => h) ⟨by rfl, ?_⟩ hS ?_
      rotate_left
      · intro wq hSw; go_simp; try rfl
      simp only [Act.put, List.setIfInBounds_toArray, List.set_cons_zero, List.set_cons_succ]
      clear hS
      refine wpAnyH_done (by kernel_rfl) ?_ _
      go_wp2_with fail
      exact bodyPost_ret (v := .int .i64 E) (by simp [results, Try.results24, go_sem]) rfl ⟨rfl, HB2.out, H3.out⟩
    · go_simp
      go_wp2_with fail
      refine (K1 x0).mono ?_
      rintro e x1 ⟨rfl, hx1⟩
      have al : Below x0.heap.size x0 x1 := by rw [hx1]; exact alloc_below _ _
      have CB := hide (show RBox x1 x0.heap.size 38 RA by rw [hx1]; exact RBox.new _ _ _)
      have PQ1 := hide (PQ0.out.below al)
      have RB1 := hide (RB0.out.below al)
      have B1 := hide (B0.out.trans (al.mono B0.out.size))
      have C1 := hide (show ¬ v2.ownBlock = some x0.heap.size from fun q => by have := (World.ownsRow.lt PQ0.out.g2 _ q).2; omega)
      have C2 := hide (show ¬ x0.heap.size = b by have := PQ0.out.lt; omega)
      clear hx1 al
      go_wp2_with fail
      refine hK.out _ _ trivial (fun hS => ?_)
      clear hK K hS
      (try simp only [Act.put, List.setIfInBounds_toArray, List.set_cons_zero, List.set_cons_succ])
      refine wpAnyH_ready (rs := [1]) (by kernel_rfl) (by simp) ?_
      refine AllReadyH.cons rfl (fun K hK => ?_) AllReadyH.nil
      refine wp_ld38 14 (.tmp 3) rfl rfl rfl rfl RB1.out HSZ.out ?_
      refine hK.out _ _ trivial (fun hS => ?_)
      clear hK K hS
      (try simp only [Act.put, List.setIfInBounds_toArray, List.set_cons_zero, List.set_cons_succ])
      refine wpAnyH_ready (rs := [4]) (by kernel_rfl) (by simp) ?_
      refine AllReadyH.cons rfl (fun K hK => ?_) AllReadyH.nil
      go_simp
      go_wp2_with fail
      refine (K2 _ _ _ _ PQ1.out CB.out).mono ?_
      rintro e x2 ⟨rfl, h2, h3⟩
      have H3 := hide h3
      have HB2 := hide ((B1.out.mono HBW.out).trans h2)
      clear h2 h3 K1 K2
      go_wp2_with fail
      refine hK.out _ _ trivial (fun hS => ?_)
      clear hK K
      (try simp only [Act.put, List.setIfInBounds_toArray, List.set_cons_zero, List.set_cons_succ])
      refine take_at 5 (some 4) (v := ?_) rfl rfl (by kernel_rfl) (by kernel_rfl) (by kernel_rfl) (fun _ _ _ h => h) ⟨by rfl, ?_⟩ hS ?_
      rotate_left
      · intro wq hSw; go_simp; try rfl
      simp only [Act.put, List.setIfInBounds_toArray, List.set_cons_zero, List.set_cons_succ]
      clear hS
      refine wpAnyH_done (by kernel_rfl) ?_ _
      go_wp2_with fail
      exact bodyPost_ret (v := .int .i64 E) (by simp [results, Try.results24, go_sem]) rfl ⟨rfl, HB2.out, H3.out⟩
set_option maxHeartbeats 4000000 in
theorem cp_sum (B b : Nat) (v1 v2 : Value) (p : Pg) (r : Rc) (w : World) (h : PQ w B b v1 v2 p) (hf : p.Fit) (hr : r.Fit) (hq : ¬ p.num = r.wp) : Calls Try.prog 24 #[ptr b, recV r] w fun e w' => e = .returned (.int .i64 (sumE p r)) ∧ Below B w w' ∧ (sumE p r = 0 → ∃ v1' v2', PQ w' B b v1' v2' (sumP p r)) := by
  have hB : B ≤ w.heap.size := Nat.le_trans h.hB (Nat.le_of_lt h.lt)
  obtain ⟨RA, hRA⟩ : ∃ RA, RA = recA r := ⟨_, rfl⟩
  have hsz : RA.size = 17 := by rw [hRA]; rfl
  have hk4 := hide (show ∀ (x : World) (n : Nat), RBox x n 38 RA → x.cell? ⟨n, 4, none⟩ = some (.int .i64 r.wp) from fun x n q => by subst hRA; exact (q.cells.get 4 _ rfl).1)
  have K1 := fun w' => changeOf_any r w'
  have K2 := fun w' cb v1 v2 hp hc h1 h2 => sum_any B b cb v1 v2 p r w' hp hf hr hc h1 h2
  show Calls Try.prog 24 #[ptr b, .agg (recA r)] w _
  simp only [recV] at K1 K2
  rw [← hRA] at K1 K2 ⊢
  obtain ⟨E, hE⟩ : ∃ E, E = sumE p r := ⟨_, rfl⟩
  rw [← hE] at K2 ⊢
  obtain ⟨F, hF⟩ : ∃ F, F = fnOf r.k := ⟨_, rfl⟩
  rw [← hF] at K1 K2
  have HQ : (p.num == r.wp) = false := by simpa using hq
  have HSZ := hide hsz
  have HPQ := hide h
  have HBW := hide hB
  clear h hsz hRA hB hq hf hr hE hF
  go_enter Try.func24, Try.ntmps24
  go_upto_region 1 with fail
  refine named (P := Code.wp _ _ _ _) ?_
  intro w1 hw1
  obtain ⟨nb, hnb⟩ : ∃ nb, nb = w.heap.size := ⟨_, rfl⟩
  have b1 : Below w.heap.size w w1 := by rw [hw1]; exact alloc_below _ _
  have PQ1 := hide (HPQ.out.below b1)
  have RB1 := hide (show RBox w1 nb 38 RA by rw [hw1, hnb]; exact RBox.new _ _ _)
  have B1 := hide b1
  rw [← hnb]
  clear hw1 b1 HPQ hnb
  have f4 := hk4.out _ _ RB1.out
  obtain ⟨f0, -⟩ := PQ1.out.cl.get 0 _ rfl
  go_upto_region 3 with (go_quiet (fail))
  clear f4 f0
  refine named (P := Code.wp _ _ _ _) ?_
  intro wz hwz
  have bz : Below w1.heap.size w1 wz := by rw [hwz]; exact bel (Below.refl _ _)
  have PQZ := hide (PQ1.out.below bz)
  have RBZ := hide (RB1.out.below bz)
  have BZ := hide (B1.out.trans (bz.mono B1.out.size))
  clear hwz bz PQ1 RB1 B1 w1
  refine wp_region_held_drew (S := fun wq => True) (by kernel_rfl) trivial (fun hS => ?_)
  have D0 := hide ((Below.refl wz.heap.size wz).drew)
  have PQ0 := hide (PQZ.out.below D0.out)
  have RB0 := hide (RBZ.out.below D0.out)
  have B0 := hide (BZ.out.trans (D0.out.mono BZ.out.size))
  clear D0 PQZ RBZ BZ
  generalize wz.drew = x0 at *
  refine take_at 0 (some 18) (v := ?_) rfl rfl (by kernel_rfl) (by kernel_rfl) (by kernel_rfl) (fun _ _ _ h => h) ⟨by rfl, ?_⟩ hS ?_
  rotate_left
  · intro wq hSw; go_simp; try rfl
  simp only [Act.put, List.setIfInBounds_toArray, List.set_cons_zero, List.set_cons_succ]
  clear hS
  refine wpAnyH_ready (rs := [1, 2]) (by kernel_rfl) (by simp) ?_
  refine AllReadyH.cons rfl (fun K hK => ?_) (AllReadyH.cons rfl (fun K hK => ?_) AllReadyH.nil)
  · refine wp_ld38 19 (.tmp 3) rfl rfl rfl rfl RB0.out HSZ.out ?_
    refine hK.out _ _ trivial (fun hS => ?_)
    clear hK K hS
    (try simp only [Act.put, List.setIfInBounds_toArray, List.set_cons_zero, List.set_cons_succ])
    refine wpAnyH_ready (rs := [2]) (by kernel_rfl) (by simp) ?_
    refine AllReadyH.cons rfl (fun K hK => ?_) AllReadyH.nil
    refine wp_ld38 20 (.tmp 3) rfl rfl rfl rfl RB0.out HSZ.out ?_
    refine hK.out _ _ trivial (fun hS => ?_)
    clear hK K hS
    (try simp only [Act.put, List.setIfInBounds_toArray, List.set_cons_zero, List.set_cons_succ])
    refine wpAnyH_ready (rs := [3]) (by kernel_rfl) (by simp) ?_
    refine AllReadyH.cons rfl (fun K hK => ?_) AllReadyH.nil
    go_simp
    go_wp2_with fail
    refine (K1 x0).mono ?_
    rintro e x1 ⟨rfl, hx1⟩
    have al : Below x0.heap.size x0 x1 := by rw [hx1]; exact alloc_below _ _
    have CB := hide (show RBox x1 x0.heap.size 38 RA by rw [hx1]; exact RBox.new _ _ _)
    have PQ1 := hide (PQ0.out.below al)
    have RB1 := hide (RB0.out.below al)
    have B1 := hide (B0.out.trans (al.mono B0.out.size))
    have C1 := hide (show ¬ v2.ownBlock = some x0.heap.size from fun q => by have := (World.ownsRow.lt PQ0.out.g2 _ q).2; omega)
    have C2 := hide (show ¬ x0.heap.size = b by have := PQ0.out.lt; omega)
    clear hx1 al
    go_wp2_with fail
    refine hK.out _ _ trivial (fun hS => ?_)
    clear hK K hS
    (try simp only [Act.put, List.setIfInBounds_toArray, List.set_cons_zero, List.set_cons_succ])
    refine wpAnyH_ready (rs := [4]) (by kernel_rfl) (by simp) ?_
    refine AllReadyH.cons rfl (fun K hK => ?_) AllReadyH.nil
    go_simp
    go_wp2_with fail
    refine (K2 _ _ _ _ PQ1.out CB.out C1.out C2.out).mono ?_
    rintro e x2 ⟨rfl, h2, h3⟩
    have H3 := hide h3
    have HB2 := hide ((B1.out.mono HBW.out).trans h2)
    clear h2 h3 K1 K2
    go_wp2_with fail
    refine hK.out _ _ trivial (fun hS => ?_)
    clear hK K
    (try simp only [Act.put, List.setIfInBounds_toArray, List.set_cons_zero, List.set_cons_succ])
    refine take_at 5 (some 4) (v := ?_) rfl rfl (by kernel_rfl) (by kernel_rfl) (by kernel_rfl) (fun _ _ _ h => h) ⟨by rfl, ?_⟩ hS ?_
    rotate_left
    · intro wq hSw; go_simp; try rfl
    simp only [Act.put, List.setIfInBounds_toArray, List.set_cons_zero, List.set_cons_succ]
    clear hS
    refine wpAnyH_done (by kernel_rfl) ?_ _
    go_wp2_with fail
    exact bodyPost_ret (v := .int .i64 E) (by simp [results, Try.results24, go_sem]) rfl ⟨rfl, HB2.out, H3.out⟩
  · refine wp_ld38 20 (.tmp 3) rfl rfl rfl rfl RB0.out HSZ.out ?_
    refine hK.out _ _ trivial (fun hS => ?_)
    clear hK K hS
    (try simp only [Act.put, List.setIfInBounds_toArray, List.set_cons_zero, List.set_cons_succ])
    refine wpAnyH_ready (rs := [1, 3]) (by kernel_rfl) (by simp) ?_
    refine AllReadyH.cons rfl (fun K hK => ?_) (AllReadyH.cons rfl (fun K hK => ?_) AllReadyH.nil)
    · refine wp_ld38 19 (.tmp 3) rfl rfl rfl rfl RB0.out HSZ.out ?_
      refine hK.out _ _ trivial (fun hS => ?_)
      clear hK K hS
      (try simp only [Act.put, List.setIfInBounds_toArray, List.set_cons_zero, List.set_cons_succ])
      refine wpAnyH_ready (rs := [3]) (by kernel_rfl) (by simp) ?_
      refine AllReadyH.cons rfl (fun K hK => ?_) AllReadyH.nil
      go_simp
      go_wp2_with fail
      refine (K1 x0).mono ?_
      rintro e x1 ⟨rfl, hx1⟩
      have al : Below x0.heap.size x0 x1 := by rw [hx1]; exact alloc_below _ _
      have CB := hide (show RBox x1 x0.heap.size 38 RA by rw [hx1]; exact RBox.new _ _ _)
      have PQ1 := hide (PQ0.out.below al)
      have RB1 := hide (RB0.out.below al)
      have B1 := hide (B0.out.trans (al.mono B0.out.size))
      have C1 := hide (show ¬ v2.ownBlock = some x0.heap.size from fun q => by have := (World.ownsRow.lt PQ0.out.g2 _ q).2; omega)
      have C2 := hide (show ¬ x0.heap.size = b by have := PQ0.out.lt; omega)
      clear hx1 al
      go_wp2_with fail
      refine hK.out _ _ trivial (fun hS => ?_)
      clear hK K hS
      (try simp only [Act.put, List.setIfInBounds_toArray, List.set_cons_zero, List.set_cons_succ])
      refine wpAnyH_ready (rs := [4]) (by kernel_rfl) (by simp) ?_
      refine AllReadyH.cons rfl (fun K hK => ?_) AllReadyH.nil
      go_simp
      go_wp2_with fail
      refine (K2 _ _ _ _ PQ1.out CB.out C1.out C2.out).mono ?_
      rintro e x2 ⟨rfl, h2, h3⟩
      have H3 := hide h3
      have HB2 := hide ((B1.out.mono HBW.out).trans h2)
      clear h2 h3 K1 K2
      go_wp2_with fail
      refine hK.out _ _ trivial (fun hS => ?_)
      clear hK K
      (try simp only [Act.put, List.setIfInBounds_toArray, List.set_cons_zero, List.set_cons_succ])
      refine take_at 5 (some 4) (v := ?_) rfl rfl (by kernel_rfl) (by kernel_rfl) (by kernel_rfl) (fun _ _ _ h => h) ⟨by rfl, ?_⟩ hS ?_
      rotate_left
      · intro wq hSw; go_simp; try rfl
      simp only [Act.put, List.setIfInBounds_toArray, List.set_cons_zero, List.set_cons_succ]
      clear hS
      refine wpAnyH_done (by kernel_rfl) ?_ _
      go_wp2_with fail
      exact bodyPost_ret (v := .int .i64 E) (by simp [results, Try.results24, go_sem]) rfl ⟨rfl, HB2.out, H3.out⟩
    · go_simp
      go_wp2_with fail
      refine (K1 x0).mono ?_
      rintro e x1 ⟨rfl, hx1⟩
      have al : Below x0.heap.size x0 x1 := by rw [hx1]; exact alloc_below _ _
      have CB := hide (show RBox x1 x0.heap.size 38 RA by rw [hx1]; exact RBox.new _ _ _)
      have PQ1 := hide (PQ0.out.below al)
      have RB1 := hide (RB0.out.below al)
      have B1 := hide (B0.out.trans (al.mono B0.out.size))
      have C1 := hide (show ¬ v2.ownBlock = some x0.heap.size from fun q => by have := (World.ownsRow.lt PQ0.out.g2 _ q).2; omega)
      have C2 := hide (show ¬ x0.heap.size = b by have := PQ0.out.lt; omega)
      clear hx1 al
      go_wp2_with fail
      refine hK.out _ _ trivial (fun hS => ?_)
      clear hK K hS
      (try simp only [Act.put, List.setIfInBounds_toArray, List.set_cons_zero, List.set_cons_succ])
      refine wpAnyH_ready (rs := [1]) (by kernel_rfl) (by simp) ?_
      refine AllReadyH.cons rfl (fun K hK => ?_) AllReadyH.nil
      refine wp_ld38 19 (.tmp 3) rfl rfl rfl rfl RB1.out HSZ.out ?_
      refine hK.out _ _ trivial (fun hS => ?_)
      clear hK K hS
      (try simp only [Act.put, List.setIfInBounds_toArray, List.set_cons_zero, List.set_cons_succ])
      refine wpAnyH_ready (rs := [4]) (by kernel_rfl) (by simp) ?_
      refine AllReadyH.cons rfl (fun K hK => ?_) AllReadyH.nil
      go_simp
      go_wp2_with fail
      refine (K2 _ _ _ _ PQ1.out CB.out C1.out C2.out).mono ?_
      rintro e x2 ⟨rfl, h2, h3⟩
      have H3 := hide h3
      have HB2 := hide ((B1.out.mono HBW.out).trans h2)
      clear h2 h3 K1 K2
      go_wp2_with fail
      refine hK.out _ _ trivial (fun hS => ?_)
      clear hK K
      (try simp only [Act.put, List.setIfInBounds_toArray, List.set_cons_zero, List.set_cons_succ])
      refine take_at 5 (some 4) (v := ?_) rfl rfl (by kernel_rfl) (by kernel_rfl) (by kernel_rfl) (fun _ _ _ h => h) ⟨by rfl, ?_⟩ hS ?_
      rotate_left
      · intro wq hSw; go_simp; try rfl
      simp only [Act.put, List.setIfInBounds_toArray, List.set_cons_zero, List.set_cons_succ]
      clear hS
      refine wpAnyH_done (by kernel_rfl) ?_ _
      go_wp2_with fail
      exact bodyPost_ret (v := .int .i64 E) (by simp [results, Try.results24, go_sem]) rfl ⟨rfl, HB2.out, H3.out⟩
theorem changePage_any (B b : Nat) (v1 v2 : Value) (p : Pg) (r : Rc) (w : World) (h : PQ w B b v1 v2 p) (hf : p.Fit) (hr : r.Fit) : Calls Try.prog 24 #[ptr b, recV r] w fun e w' => e = .returned (.int .i64 (chgE p r)) ∧ Below B w w' ∧ (chgE p r = 0 → ∃ v1' v2', PQ w' B b v1' v2' (chgP p r)) := by
  unfold chgE chgP
  by_cases hq : p.num = r.wp
  · rw [if_pos hq, if_pos hq]
    exact cp_ctr B b v1 v2 p r w h hf hr hq
  · rw [if_neg hq, if_neg hq]
    exact cp_sum B b v1 v2 p r w h hf hr hq
end Go.Proofs.Ytoocbpbaieedmaa
