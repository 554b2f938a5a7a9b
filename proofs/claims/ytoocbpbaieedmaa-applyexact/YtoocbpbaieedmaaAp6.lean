import Derived.Test.YtoocbpbaieedmaaAp5
namespace Go.Proofs.Ytoocbpbaieedmaa
open Go.RowKit Go.QK Quota
set_option maxRecDepth 100000
theorem ctrC_one (c : Ctr) : ∀ u ∈ ctrC c, u.oneCell' = true := by
  intro u hu
  simp [ctrC] at hu
  rcases hu with rfl | rfl | rfl | rfl | rfl <;> rfl
theorem grpC_one (c : Grp) : ∀ u ∈ grpC c, u.oneCell' = true := by
  intro u hu
  simp [grpC] at hu
  rcases hu with rfl | rfl <;> rfl
theorem grow_form {w : World} {B e sz n : Nat} {v : Value} {xs : List Value} (h : GRow w B e sz v n xs) (hn : 0 < n) : ∃ g c, v = .slice (some ⟨g, 0, none⟩) n c := by
  rcases h.2 with ⟨_, q⟩ | ⟨g, cap, cur, q, _⟩
  · omega
  · exact ⟨g, cap, q⟩
theorem ctr_cells {w : World} {a : Option Addr} {cs : List Ctr} {g : Nat} (ha : a = some ⟨g, 0, none⟩) (h : Lies w a (rowsC ctrC cs)) (i : Nat) (hi : i < cs.length) : w.cell? ⟨g, i * 5 + 4, none⟩ = some (.int .i64 cs[i].val) := by
  obtain ⟨b, off, e, _, q⟩ := Lies.rowAt ctrC 5 (fun _ => rfl) h i hi (by decide)
  rw [ha] at e
  cases e
  have := q 4 _ rfl
  rw [Nat.zero_add] at this
  exact this

theorem cc_fin {w x x3 : World} {B b g c : Nat} {v2 : Value} {num lsn M : Int} {cs : List Ctr} {gs : List Grp} {i : Nat} (h : PQ x B b (.slice (some ⟨g, 0, none⟩) cs.length c) v2 ⟨num, lsn, cs, gs⟩) (hb : Below B w x) (hB : B ≤ w.heap.size) (hi : i < cs.length) (h3 : I64 M → ∃ wm, Below x.heap.size x wm ∧ x3 = wm.setCell ⟨g, i * 5 + 4, none⟩ (.int .i64 M)) (h4 : ¬ I64 M → Below x.heap.size x x3) :
    Below B w x3 ∧ (I64 M → ∃ v1' v2', PQ x3 B b v1' v2' ⟨num, lsn, putV cs (i : Int) M, gs⟩) ∧ Keep (fun k => k = g) x x3 := by
  have hBx : B ≤ x.heap.size := Nat.le_trans hB hb.size
  by_cases hm : I64 M
  · obtain ⟨wm, b1, rfl⟩ := h3 hm
    obtain ⟨q1, q2⟩ := PQ.stV (p := ⟨num, lsn, cs, gs⟩) (i := i) (h.below b1) hi M
    exact ⟨hb.trans ((b1.mono hBx).trans q2), fun _ => ⟨_, _, q1⟩, (Keep.of_below (S := fun k => k = g) b1).setCell (fun _ => rfl) _⟩
  · exact ⟨hb.trans ((h4 hm).mono hBx), fun q => absurd q hm, Keep.of_below (h4 hm)⟩
set_option maxHeartbeats 4000000 in
theorem cc_no (B b cb F : Nat) (v1 v2 : Value) (p : Pg) (r : Rc) (w : World) (h : PQ w B b v1 v2 p) (hf : p.Fit) (hi : ¬ isC p r) : Calls Try.prog 31 #[ptr b, recV r, fv F cb] w fun e w' => e = .returned (.int .i64 83) ∧ Below w.heap.size w w' := by
  obtain ⟨t, e1, e2, hin⟩ := h.in_
  subst e1 e2
  obtain ⟨RA, hRA⟩ : ∃ RA, RA = recA r := ⟨_, rfl⟩
  have hk1 := hide (show ∀ (x : World) (n : Nat), RBox x n 38 RA → x.cell? ⟨n, 1, none⟩ = some (.int .i64 r.k) from fun x n q => by subst hRA; exact (q.cells.get 1 _ rfl).1)
  have hsz : RA.size = 17 := by rw [hRA]; rfl
  have KC := fun w' hw => isC_any p t r w' hw (Nat.le_trans hf.lc (by decide))
  show Calls Try.prog 31 #[ptr b, .agg (recA r), fv F cb] w _
  simp only [recV] at KC
  rw [← hRA] at KC ⊢
  rw [decide_eq_false hi] at KC
  have HSZ := hide hsz
  have HPQ := hide h
  have HIN := hide hin
  clear h hin hsz hRA hi
  go_enter Try.func31, Try.ntmps31
  go_upto_region 1 with fail
  refine named (P := Code.wp _ _ _ _) ?_
  intro w1 hw1
  obtain ⟨nb, hnb⟩ : ∃ nb, nb = w.heap.size := ⟨_, rfl⟩
  have b1 : Below w.heap.size w w1 := by rw [hw1]; exact alloc_below _ _
  have PQ1 := hide (HPQ.out.below b1)
  have RB1 := hide (show RBox w1 nb 38 RA by rw [hw1, hnb]; exact RBox.new _ _ _)
  have IN1 := hide (HIN.out.below b1)
  have B1 := hide b1
  rw [← hnb]
  clear hw1 b1 HPQ HIN hnb
  obtain ⟨num, lsn, cs, gs⟩ := p
  obtain ⟨ta, tc, tb, td⟩ := t
  simp only [pgV, pgA] at KC
  refine wp_region_held_drew (S := fun wq => Below w1.heap.size w1 wq) (by kernel_rfl) (Below.refl _ _).drew (fun hS => ?_)
  refine take_at 0 (some 8) (v := ?_) rfl rfl (by kernel_rfl) (by kernel_rfl) (by kernel_rfl) (fun _ _ _ h => h) ⟨by rfl, ?_⟩ hS ?_
  rotate_left
  · intro wq hSw; go_simp; try rfl
  simp only [Act.put, List.setIfInBounds_toArray, List.set_cons_zero, List.set_cons_succ]
  refine take_at 1 (some 9) (v := ?_) rfl rfl (by kernel_rfl) (by kernel_rfl) (by kernel_rfl) (fun _ _ _ h => h) ⟨by rfl, ?_⟩ hS ?_
  rotate_left
  · intro wq hSw; go_simp; try rfl
  simp only [Act.put, List.setIfInBounds_toArray, List.set_cons_zero, List.set_cons_succ]
  refine take_at 2 (some 10) (v := ?_) rfl rfl (by kernel_rfl) (by kernel_rfl) (by kernel_rfl) (fun _ _ _ h => h) ⟨by rfl, ?_⟩ hS ?_
  rotate_left
  · intro wq hSw; have qq := PQ1.out.cl.below hSw; obtain ⟨q0, _⟩ := qq.get 0 _ rfl; obtain ⟨q1, _⟩ := qq.get 1 _ rfl; obtain ⟨q2, _⟩ := qq.get 2 _ rfl; obtain ⟨q3, _⟩ := qq.get 3 _ rfl; clear qq; go_simp; try rfl
  simp only [Act.put, List.setIfInBounds_toArray, List.set_cons_zero, List.set_cons_succ]
  refine take_at 3 (some 11) (v := .agg RA) rfl rfl (by kernel_rfl) (by kernel_rfl) (by kernel_rfl) (fun _ _ _ h => h) ⟨by rfl, fun wq hSw => exec_load38 rfl rfl (rb_at (RB1.out.below hSw)) HSZ.out⟩ hS ?_
  simp only [Act.put, List.setIfInBounds_toArray, List.set_cons_zero, List.set_cons_succ]
  refine wpAnyH_ready (rs := [4]) (by kernel_rfl) (by simp) ?_
  refine AllReadyH.cons rfl (fun K hK => ?_) AllReadyH.nil
  go_simp
  go_wp2_with fail
  refine (KC _ (IN1.out.below hS)).mono ?_
  rintro e x2 ⟨rfl, h2⟩
  have s2 : Below w1.heap.size w1 x2 := hS.trans (h2.mono hS.size)
  clear h2 hS
  go_wp2_with fail
  refine hK.out _ _ s2 (fun hS => ?_)
  clear hK K s2
  (try simp only [Act.put, List.setIfInBounds_toArray, List.set_cons_zero, List.set_cons_succ])
  refine take_at 5 (some 13) (v := ?_) rfl rfl (by kernel_rfl) (by kernel_rfl) (by kernel_rfl) (fun _ _ _ h => h) ⟨by rfl, ?_⟩ hS ?_
  rotate_left
  · intro wq hSw; go_simp; try rfl
  simp only [Act.put, List.setIfInBounds_toArray, List.set_cons_zero, List.set_cons_succ]
  refine take_at 6 (some 7) (v := ?_) rfl rfl (by kernel_rfl) (by kernel_rfl) (by kernel_rfl) (fun _ _ _ h => h) ⟨by rfl, ?_⟩ hS ?_
  rotate_left
  · intro wq hSw; go_simp; try rfl
  simp only [Act.put, List.setIfInBounds_toArray, List.set_cons_zero, List.set_cons_succ]
  have S2 := hide hS
  clear hS
  refine wpAnyH_done (by kernel_rfl) ?_ _
  go_wp2_with fail
  exact bodyPost_ret (v := .int .i64 83) (by simp [results, Try.results31, go_sem]) rfl ⟨rfl, B1.out.trans (S2.out.mono B1.out.size)⟩

set_option maxHeartbeats 8000000 in
theorem cc_new (B b cb F : Nat) (v1 v2 : Value) (p : Pg) (r : Rc) (w : World) (h : PQ w B b v1 v2 p) (hf : p.Fit) (hi : isC p r) (hk : r.k = 2) : Calls Try.prog 31 #[ptr b, recV r, fv F cb] w fun e w' => e = .returned (.int .i64 0) ∧ Below B w w' ∧ ∃ v1' v2', PQ w' B b v1' v2' ⟨p.num, p.lsn, p.cs ++ [r.c], p.gs⟩ := by
  have hlc := hf.lc
  obtain ⟨t, e1, e2, hin⟩ := h.in_
  subst e1 e2
  obtain ⟨RA, hRA⟩ : ∃ RA, RA = recA r := ⟨_, rfl⟩
  have hk1 := hide (show ∀ (x : World) (n : Nat), RBox x n 38 RA → x.cell? ⟨n, 1, none⟩ = some (.int .i64 r.k) from fun x n q => by subst hRA; exact (q.cells.get 1 _ rfl).1)
  have hc9 := hide (show ∀ (x : World) (n : Nat), RBox x n 38 RA → x.cell? ⟨n, 9, none⟩ = some (.int .i64 r.c.id) ∧ x.cell? ⟨n, 10, none⟩ = some (.int .i64 r.c.grp) ∧ x.cell? ⟨n, 11, none⟩ = some (.int .i64 r.c.lo) ∧ x.cell? ⟨n, 12, none⟩ = some (.int .i64 r.c.hi) ∧ x.cell? ⟨n, 13, none⟩ = some (.int .i64 r.c.val) from fun x n q => by subst hRA; exact ⟨(q.cells.get 9 _ rfl).1, (q.cells.get 10 _ rfl).1, (q.cells.get 11 _ rfl).1, (q.cells.get 12 _ rfl).1, (q.cells.get 13 _ rfl).1⟩)
  have hsz : RA.size = 17 := by rw [hRA]; rfl
  have KC := fun w' hw => isC_any p t r w' hw (Nat.le_trans hf.lc (by decide))
  show Calls Try.prog 31 #[ptr b, .agg (recA r), fv F cb] w _
  simp only [recV] at KC
  rw [← hRA] at KC ⊢
  rw [decide_eq_true hi] at KC
  have HSZ := hide hsz
  have HPQ := hide h
  have HIN := hide hin
  clear h hin hsz hRA hi
  go_enter Try.func31, Try.ntmps31
  go_upto_region 1 with fail
  refine named (P := Code.wp _ _ _ _) ?_
  intro w1 hw1
  obtain ⟨nb, hnb⟩ : ∃ nb, nb = w.heap.size := ⟨_, rfl⟩
  have b1 : Below w.heap.size w w1 := by rw [hw1]; exact alloc_below _ _
  have PQ1 := hide (HPQ.out.below b1)
  have RB1 := hide (show RBox w1 nb 38 RA by rw [hw1, hnb]; exact RBox.new _ _ _)
  have IN1 := hide (HIN.out.below b1)
  have B1 := hide b1
  have NBB := hide (show ¬ nb = b by have := HPQ.out.lt; omega)
  have NBV := hide (show ¬ (Value.slice t.a p.cs.length t.c).ownBlock = some nb by intro q; have := (World.ownsRow.lt HPQ.out.g1 _ q).2; omega)
  have HBW := hide (show B ≤ w.heap.size by have := HPQ.out.lt; have := HPQ.out.hB; omega)
  rw [← hnb]
  clear hw1 b1 HPQ HIN hnb
  obtain ⟨num, lsn, cs, gs⟩ := p
  obtain ⟨ta, tc, tb, td⟩ := t
  simp only [pgV, pgA] at KC
  refine wp_region_held_drew (S := fun wq => Below w1.heap.size w1 wq) (by kernel_rfl) (Below.refl _ _).drew (fun hS => ?_)
  refine take_at 0 (some 8) (v := ?_) rfl rfl (by kernel_rfl) (by kernel_rfl) (by kernel_rfl) (fun _ _ _ h => h) ⟨by rfl, ?_⟩ hS ?_
  rotate_left
  · intro wq hSw; go_simp; try rfl
  simp only [Act.put, List.setIfInBounds_toArray, List.set_cons_zero, List.set_cons_succ]
  refine take_at 1 (some 9) (v := ?_) rfl rfl (by kernel_rfl) (by kernel_rfl) (by kernel_rfl) (fun _ _ _ h => h) ⟨by rfl, ?_⟩ hS ?_
  rotate_left
  · intro wq hSw; go_simp; try rfl
  simp only [Act.put, List.setIfInBounds_toArray, List.set_cons_zero, List.set_cons_succ]
  refine take_at 2 (some 10) (v := ?_) rfl rfl (by kernel_rfl) (by kernel_rfl) (by kernel_rfl) (fun _ _ _ h => h) ⟨by rfl, ?_⟩ hS ?_
  rotate_left
  · intro wq hSw; have qq := PQ1.out.cl.below hSw; obtain ⟨q0, _⟩ := qq.get 0 _ rfl; obtain ⟨q1, _⟩ := qq.get 1 _ rfl; obtain ⟨q2, _⟩ := qq.get 2 _ rfl; obtain ⟨q3, _⟩ := qq.get 3 _ rfl; clear qq; go_simp; try rfl
  simp only [Act.put, List.setIfInBounds_toArray, List.set_cons_zero, List.set_cons_succ]
  refine take_at 3 (some 11) (v := .agg RA) rfl rfl (by kernel_rfl) (by kernel_rfl) (by kernel_rfl) (fun _ _ _ h => h) ⟨by rfl, fun wq hSw => exec_load38 rfl rfl (rb_at (RB1.out.below hSw)) HSZ.out⟩ hS ?_
  simp only [Act.put, List.setIfInBounds_toArray, List.set_cons_zero, List.set_cons_succ]
  refine wpAnyH_ready (rs := [4]) (by kernel_rfl) (by simp) ?_
  refine AllReadyH.cons rfl (fun K hK => ?_) AllReadyH.nil
  go_simp
  go_wp2_with fail
  refine (KC _ (IN1.out.below hS)).mono ?_
  rintro e x2 ⟨rfl, h2⟩
  have s2 : Below w1.heap.size w1 x2 := hS.trans (h2.mono hS.size)
  clear h2 hS
  go_wp2_with fail
  refine hK.out _ _ s2 (fun hS => ?_)
  clear hK K s2
  (try simp only [Act.put, List.setIfInBounds_toArray, List.set_cons_zero, List.set_cons_succ])
  refine take_at 5 (some 13) (v := ?_) rfl rfl (by kernel_rfl) (by kernel_rfl) (by kernel_rfl) (fun _ _ _ h => h) ⟨by rfl, ?_⟩ hS ?_
  rotate_left
  · intro wq hSw; go_simp; try rfl
  simp only [Act.put, List.setIfInBounds_toArray, List.set_cons_zero, List.set_cons_succ]
  refine take_at 6 (some 7) (v := ?_) rfl rfl (by kernel_rfl) (by kernel_rfl) (by kernel_rfl) (fun _ _ _ h => h) ⟨by rfl, ?_⟩ hS ?_
  rotate_left
  · intro wq hSw; go_simp; try rfl
  simp only [Act.put, List.setIfInBounds_toArray, List.set_cons_zero, List.set_cons_succ]
  have S2 := hide hS
  clear hS
  refine wpAnyH_done (by kernel_rfl) ?_ _
  have hkk := hk1.out _ _ (RB1.out.below S2.out)
  rw [hk] at hkk
  go_upto_region 4 with fail
  clear hkk
  have PQ2 := hide (PQ1.out.below S2.out)
  have RB2 := hide (RB1.out.below S2.out)
  have B2 := hide (B1.out.trans (S2.out.mono B1.out.size))
  clear PQ1 RB1 IN1 B1 S2 KC w1
  obtain ⟨lsn', k', tx, prev, wp, wi, sp, si, delta, ⟨ci, cg, cl, ch, cv⟩, x, y, z⟩ := r
  simp only at hc9 hlc ⊢
  refine wp_region_held_drew (S := fun wq => RBox wq nb 38 RA) (by kernel_rfl) (RB2.out.below ((Below.refl x2.heap.size x2).drew)) (fun hS => ?_)
  have D0 := hide ((Below.refl x2.heap.size x2).drew)
  have PD := hide (PQ2.out.below D0.out)
  have RD := hide hS
  generalize x2.drew = x0 at *
  refine take_at 0 (some 18) (v := ?_) rfl rfl (by kernel_rfl) (by kernel_rfl) (by kernel_rfl) (fun _ _ _ h => h) ⟨by rfl, ?_⟩ hS ?_
  rotate_left
  · intro wq hSw; go_simp; try rfl
  simp only [Act.put, List.setIfInBounds_toArray, List.set_cons_zero, List.set_cons_succ]
  refine take_at 1 (some 19) (v := ?_) rfl rfl (by kernel_rfl) (by kernel_rfl) (by kernel_rfl) (fun _ _ _ h => h) ⟨by rfl, ?_⟩ hS ?_
  rotate_left
  · intro wq hSw; go_simp; try rfl
  simp only [Act.put, List.setIfInBounds_toArray, List.set_cons_zero, List.set_cons_succ]
  refine take_at 2 (some 20) (v := ?_) rfl rfl (by kernel_rfl) (by kernel_rfl) (by kernel_rfl) (fun _ _ _ h => h) ⟨by rfl, ?_⟩ hS ?_
  rotate_left
  · intro wq hSw; go_simp; try rfl
  simp only [Act.put, List.setIfInBounds_toArray, List.set_cons_zero, List.set_cons_succ]
  refine take_at 3 (some 21) (v := ?_) rfl rfl (by kernel_rfl) (by kernel_rfl) (by kernel_rfl) (fun _ _ _ h => h) ⟨by rfl, ?_⟩ hS ?_
  rotate_left
  · intro wq hSw; go_simp; try rfl
  simp only [Act.put, List.setIfInBounds_toArray, List.set_cons_zero, List.set_cons_succ]
  refine take_at 5 (some 23) (v := ?_) rfl rfl (by kernel_rfl) (by kernel_rfl) (by kernel_rfl) (fun _ _ _ h => h) ⟨by rfl, ?_⟩ hS ?_
  rotate_left
  · intro wq hSw; go_simp; try rfl
  simp only [Act.put, List.setIfInBounds_toArray, List.set_cons_zero, List.set_cons_succ]
  refine take_at 6 (some 24) (v := ?_) rfl rfl (by kernel_rfl) (by kernel_rfl) (by kernel_rfl) (fun _ _ _ h => h) ⟨by rfl, ?_⟩ hS ?_
  rotate_left
  · intro wq hSw; obtain ⟨q9, q10, q11, q12, q13⟩ := hc9.out _ _ hSw; go_simp; try rfl
  simp only [Act.put, List.setIfInBounds_toArray, List.set_cons_zero, List.set_cons_succ]
  have al := alloc_below x0 (.cells (ctrC ⟨ci, cg, cl, ch, cv⟩).toArray 32)
  obtain ⟨v3, x3, hr3, hO, hg3, hn3⟩ := run_pushR Try.underlying22 info32 rfl (by decide) (by decide) 22 (x0.alloc (.cells (ctrC ⟨ci, cg, cl, ch, cv⟩).toArray 32)) B (.slice ta cs.length tc) cs.length (rowsC ctrC cs) (GRow.below PD.out.g1 al) ⟨x0.heap.size, 0, none⟩ 1 1 (ctrC ⟨ci, cg, cl, ch, cv⟩) rfl (lies_new x0 _ 32) (ctrC_one _) (by omega) (by have := PD.out.hB; have := PD.out.lt; simp; omega)
  obtain ⟨fin, fbl⟩ := PQ.pushC (c := ⟨ci, cg, cl, ch, cv⟩) PD.out al hO hg3 hn3
  have kg : Keep (fun z => (Value.slice ta cs.length tc).ownBlock = some z) _ _ := (Keep.refl (fun z => (Value.slice ta cs.length tc).ownBlock = some z) (x0.alloc (.cells (ctrC ⟨ci, cg, cl, ch, cv⟩).toArray 32))).grown hg3 (fun _ e _ => e)
  have ra1 := RD.out.below al
  have rn : ¬ (Value.slice ta cs.length tc).ownBlock = some nb := NBV.out
  have ra3 := ra1.keep kg rn
  have ks : Keep (fun k => k = b) x3 (x3.setCell ⟨b, 2, none⟩ v3) := (Keep.refl (fun k => k = b) x3).setCell (g := b) (j := 2) (fun _ => rfl) _
  have ra4 := ra3.keep ks NBB.out
  have cz0 := (PD.out.cl.get 2 _ rfl).1
  have cz1 := ((PD.out.cl.below al).get 2 _ rfl).1
  obtain ⟨f2c, f2f⟩ := ((PD.out.cl.below al).keep kg PD.out.b1).get 2 _ rfl
  obtain ⟨a3, c3, e3, -⟩ := GRow.lies hO
  subst e3
  have FIN := hide fin
  have FBL := hide fbl
  have HR3 := hide hr3
  have s1 := hide ra1
  have s3 := hide ra3
  have s4 := hide ra4
  have AL := hide al
  clear fin fbl hr3 ra1 ra3 ra4 kg ks rn hO hg3 hn3 hS al
  refine wpAnyH_ready (rs := [4, 7]) (by kernel_rfl) (by simp) ?_
  refine AllReadyH.cons rfl (fun K hK => ?_) (AllReadyH.cons rfl (fun K hK => ?_) AllReadyH.nil)
  · go_simp
    go_wp2_with fail
    refine hK.out _ _ RD.out (fun hS => ?_)
    clear hK K hS
    (try simp only [Act.put, List.setIfInBounds_toArray, List.set_cons_zero, List.set_cons_succ])
    refine wpAnyH_ready (rs := [7]) (by kernel_rfl) (by simp) ?_
    refine AllReadyH.cons rfl (fun K hK => ?_) AllReadyH.nil
    go_simp
    go_wp2_with fail
    refine hK.out _ _ s1.out (fun hS => ?_)
    clear hK K hS
    (try simp only [Act.put, List.setIfInBounds_toArray, List.set_cons_zero, List.set_cons_succ])
    refine wpAnyH_ready (rs := [8]) (by kernel_rfl) (by simp) ?_
    refine AllReadyH.cons rfl (fun K hK => ?_) AllReadyH.nil
    refine wp_run 26 (.tmp 22) (.tmp 25) rfl rfl rfl rfl rfl HR3.out ?_
    refine hK.out _ _ s3.out (fun hS => ?_)
    clear hK K
    (try simp only [Act.put, List.setIfInBounds_toArray, List.set_cons_zero, List.set_cons_succ])
    refine take_at 9 (some 27) (v := ?_) rfl rfl (by kernel_rfl) (by kernel_rfl) (by kernel_rfl) (fun _ _ _ h => h) ⟨by rfl, ?_⟩ hS ?_
    rotate_left
    · intro wq hSw; go_simp; try rfl
    simp only [Act.put, List.setIfInBounds_toArray, List.set_cons_zero, List.set_cons_succ]
    refine take_at 10 (some 28) (v := ?_) rfl rfl (by kernel_rfl) (by kernel_rfl) (by kernel_rfl) (fun _ _ _ h => h) ⟨by rfl, ?_⟩ hS ?_
    rotate_left
    · intro wq hSw; go_simp; try rfl
    simp only [Act.put, List.setIfInBounds_toArray, List.set_cons_zero, List.set_cons_succ]
    clear hS
    refine wpAnyH_ready (rs := [11]) (by kernel_rfl) (by simp) ?_
    refine AllReadyH.cons rfl (fun K hK => ?_) AllReadyH.nil
    go_simp
    go_wp2_with fail
    refine hK.out _ _ s4.out (fun hS => ?_)
    clear hK K hS
    (try simp only [Act.put])
    refine wpAnyH_done (by kernel_rfl) ?_ _
    clear cz0 cz1 f2c f2f
    go_wp2_with fail
    refine bodyPost_ret (v := .int .i64 0) (by simp [results, Try.results31, go_sem]) rfl ⟨rfl, ?_, _, _, FIN.out⟩
    exact (B2.out.mono HBW.out).trans (((D0.out).mono (Nat.le_trans HBW.out B2.out.size)).trans FBL.out)
  · go_simp
    go_wp2_with fail
    refine hK.out _ _ s1.out (fun hS => ?_)
    clear hK K hS
    (try simp only [Act.put, List.setIfInBounds_toArray, List.set_cons_zero, List.set_cons_succ])
    refine wpAnyH_ready (rs := [4]) (by kernel_rfl) (by simp) ?_
    refine AllReadyH.cons rfl (fun K hK => ?_) AllReadyH.nil
    go_simp
    go_wp2_with fail
    refine hK.out _ _ s1.out (fun hS => ?_)
    clear hK K hS
    (try simp only [Act.put, List.setIfInBounds_toArray, List.set_cons_zero, List.set_cons_succ])
    refine wpAnyH_ready (rs := [8]) (by kernel_rfl) (by simp) ?_
    refine AllReadyH.cons rfl (fun K hK => ?_) AllReadyH.nil
    refine wp_run 26 (.tmp 22) (.tmp 25) rfl rfl rfl rfl rfl HR3.out ?_
    refine hK.out _ _ s3.out (fun hS => ?_)
    clear hK K
    (try simp only [Act.put, List.setIfInBounds_toArray, List.set_cons_zero, List.set_cons_succ])
    refine take_at 9 (some 27) (v := ?_) rfl rfl (by kernel_rfl) (by kernel_rfl) (by kernel_rfl) (fun _ _ _ h => h) ⟨by rfl, ?_⟩ hS ?_
    rotate_left
    · intro wq hSw; go_simp; try rfl
    simp only [Act.put, List.setIfInBounds_toArray, List.set_cons_zero, List.set_cons_succ]
    refine take_at 10 (some 28) (v := ?_) rfl rfl (by kernel_rfl) (by kernel_rfl) (by kernel_rfl) (fun _ _ _ h => h) ⟨by rfl, ?_⟩ hS ?_
    rotate_left
    · intro wq hSw; go_simp; try rfl
    simp only [Act.put, List.setIfInBounds_toArray, List.set_cons_zero, List.set_cons_succ]
    clear hS
    refine wpAnyH_ready (rs := [11]) (by kernel_rfl) (by simp) ?_
    refine AllReadyH.cons rfl (fun K hK => ?_) AllReadyH.nil
    go_simp
    go_wp2_with fail
    refine hK.out _ _ s4.out (fun hS => ?_)
    clear hK K hS
    (try simp only [Act.put])
    refine wpAnyH_done (by kernel_rfl) ?_ _
    clear cz0 cz1 f2c f2f
    go_wp2_with fail
    refine bodyPost_ret (v := .int .i64 0) (by simp [results, Try.results31, go_sem]) rfl ⟨rfl, ?_, _, _, FIN.out⟩
    exact (B2.out.mono HBW.out).trans (((D0.out).mono (Nat.le_trans HBW.out B2.out.size)).trans FBL.out)

set_option maxHeartbeats 8000000 in
theorem cc_old (B b cb F : Nat) (v1 v2 : Value) (p : Pg) (r : Rc) (w : World) (h : PQ w B b v1 v2 p) (hf : p.Fit) (hr : r.Fit) (hi : isC p r) (hk : r.k ≠ 2) (hF : F = fnOf r.k) (hcb : RBox w cb 38 (recA r)) : Calls Try.prog 31 #[ptr b, recV r, fv F cb] w fun e w' => e = .returned (.int .i64 (fitE (mv r (ctrAt p.cs r.wi).val))) ∧ Below B w w' ∧ (I64 (mv r (ctrAt p.cs r.wi).val) → ∃ v1' v2', PQ w' B b v1' v2' ⟨p.num, p.lsn, putV p.cs r.wi (mv r (ctrAt p.cs r.wi).val), p.gs⟩) := by
  have hlc := hf.lc
  have hi2 := hi.2
  rw [if_neg hk] at hi2
  obtain ⟨i, hwi⟩ : ∃ i : Nat, r.wi = (i : Int) := ⟨r.wi.toNat, by omega⟩
  have hil : i < p.cs.length := by omega
  rw [hwi, ctrAt_nat p.cs i hil]
  have hv : I64 p.cs[i].val := hf.c _ (List.getElem_mem hil)
  obtain ⟨n, hn⟩ : ∃ n, n = p.cs[i].val := ⟨_, rfl⟩
  have KT := fun w' g hb hg hz hlt => turn_any r cb g (i * 5 + 4) n w' hb hr (by rw [hn]; exact hv) hg hz hlt
  rw [← hF] at KT
  rw [← hn]
  have hgv := fun {x : World} {a : Option Addr} {g : Nat} ha hl => ctr_cells (w := x) (a := a) (cs := p.cs) (g := g) ha hl i hil
  rw [← hn] at hgv
  obtain ⟨g, c, e1⟩ : ∃ g c, v1 = .slice (some ⟨g, 0, none⟩) p.cs.length c := by
    exact grow_form h.g1 (by omega)
  obtain ⟨a2, c2, e2, -⟩ := GRow.lies h.g2
  subst e1
  have HGV := hide (show ∀ (x : World), PQ x B b (.slice (some ⟨g, 0, none⟩) p.cs.length c) v2 p → x.cell? ⟨g, i * 5 + 4, none⟩ = some (.int .i64 n) ∧ x.frozen? ⟨g, i * 5 + 4, none⟩ = false ∧ g < x.heap.size from fun x q => by
    obtain ⟨a, c', e, l, -⟩ := GRow.lies q.g1
    cases e
    exact ⟨hgv rfl l, World.ownsRow.frozenAt q.g1 _, (World.ownsRow.lt q.g1 g rfl).2⟩)
  clear hgv
  subst e2
  generalize mv r n = M at *
  obtain ⟨t, e1, e2, hin⟩ := h.in_
  obtain ⟨ta, tc, tb, td⟩ := t
  simp only [Value.slice.injEq] at e1 e2
  obtain ⟨rfl, -, rfl⟩ := e1
  obtain ⟨rfl, -, rfl⟩ := e2
  obtain ⟨RA, hRA⟩ : ∃ RA, RA = recA r := ⟨_, rfl⟩
  have hk1 := hide (show ∀ (x : World) (n : Nat), RBox x n 38 RA → x.cell? ⟨n, 1, none⟩ = some (.int .i64 r.k) ∧ x.cell? ⟨n, 5, none⟩ = some (.int .i64 (i : Int)) from fun x n q => by subst hRA; rw [← hwi]; exact ⟨(q.cells.get 1 _ rfl).1, (q.cells.get 5 _ rfl).1⟩)
  have hsz : RA.size = 17 := by rw [hRA]; rfl
  have KC := fun w' hw => isC_any p ⟨some ⟨g, 0, none⟩, c, a2, c2⟩ r w' hw (Nat.le_trans hf.lc (by decide))
  show Calls Try.prog 31 #[ptr b, .agg (recA r), fv F cb] w _
  simp only [recV] at KC
  rw [← hRA] at KC hcb KT ⊢
  rw [decide_eq_true hi] at KC
  have HSZ := hide hsz
  have HPQ := hide h
  have HIN := hide hin
  clear h hin hsz hRA hi hr hf hv hF hi2
  go_enter Try.func31, Try.ntmps31
  go_upto_region 1 with fail
  refine named (P := Code.wp _ _ _ _) ?_
  intro w1 hw1
  obtain ⟨nb, hnb⟩ : ∃ nb, nb = w.heap.size := ⟨_, rfl⟩
  have b1 : Below w.heap.size w w1 := by rw [hw1]; exact alloc_below _ _
  have PQ1 := hide (HPQ.out.below b1)
  have RB1 := hide (show RBox w1 nb 38 RA by rw [hw1, hnb]; exact RBox.new _ _ _)
  have IN1 := hide (HIN.out.below b1)
  have B1 := hide b1
  have HBW := hide (show B ≤ w.heap.size by have := HPQ.out.lt; have := HPQ.out.hB; omega)
  have CB1 := hide (hcb.below b1)
  have GNB := hide (show ¬ g = nb by have := (World.ownsRow.lt HPQ.out.g1 g rfl).2; omega)
  clear hcb
  rw [← hnb]
  clear hw1 b1 HPQ HIN hnb
  obtain ⟨num, lsn, cs, gs⟩ := p
  simp only [pgV, pgA] at KC
  refine wp_region_held_drew (S := fun wq => Below w1.heap.size w1 wq) (by kernel_rfl) (Below.refl _ _).drew (fun hS => ?_)
  refine take_at 0 (some 8) (v := ?_) rfl rfl (by kernel_rfl) (by kernel_rfl) (by kernel_rfl) (fun _ _ _ h => h) ⟨by rfl, ?_⟩ hS ?_
  rotate_left
  · intro wq hSw; go_simp; try rfl
  simp only [Act.put, List.setIfInBounds_toArray, List.set_cons_zero, List.set_cons_succ]
  refine take_at 1 (some 9) (v := ?_) rfl rfl (by kernel_rfl) (by kernel_rfl) (by kernel_rfl) (fun _ _ _ h => h) ⟨by rfl, ?_⟩ hS ?_
  rotate_left
  · intro wq hSw; go_simp; try rfl
  simp only [Act.put, List.setIfInBounds_toArray, List.set_cons_zero, List.set_cons_succ]
  refine take_at 2 (some 10) (v := ?_) rfl rfl (by kernel_rfl) (by kernel_rfl) (by kernel_rfl) (fun _ _ _ h => h) ⟨by rfl, ?_⟩ hS ?_
  rotate_left
  · intro wq hSw; have qq := PQ1.out.cl.below hSw; obtain ⟨q0, _⟩ := qq.get 0 _ rfl; obtain ⟨q1, _⟩ := qq.get 1 _ rfl; obtain ⟨q2, _⟩ := qq.get 2 _ rfl; obtain ⟨q3, _⟩ := qq.get 3 _ rfl; clear qq; go_simp; try rfl
  simp only [Act.put, List.setIfInBounds_toArray, List.set_cons_zero, List.set_cons_succ]
  refine take_at 3 (some 11) (v := .agg RA) rfl rfl (by kernel_rfl) (by kernel_rfl) (by kernel_rfl) (fun _ _ _ h => h) ⟨by rfl, fun wq hSw => exec_load38 rfl rfl (rb_at (RB1.out.below hSw)) HSZ.out⟩ hS ?_
  simp only [Act.put, List.setIfInBounds_toArray, List.set_cons_zero, List.set_cons_succ]
  refine wpAnyH_ready (rs := [4]) (by kernel_rfl) (by simp) ?_
  refine AllReadyH.cons rfl (fun K hK => ?_) AllReadyH.nil
  go_simp
  go_wp2_with fail
  refine (KC _ (IN1.out.below hS)).mono ?_
  rintro e x2 ⟨rfl, h2⟩
  have s2 : Below w1.heap.size w1 x2 := hS.trans (h2.mono hS.size)
  clear h2 hS
  go_wp2_with fail
  refine hK.out _ _ s2 (fun hS => ?_)
  clear hK K s2
  (try simp only [Act.put, List.setIfInBounds_toArray, List.set_cons_zero, List.set_cons_succ])
  refine take_at 5 (some 13) (v := ?_) rfl rfl (by kernel_rfl) (by kernel_rfl) (by kernel_rfl) (fun _ _ _ h => h) ⟨by rfl, ?_⟩ hS ?_
  rotate_left
  · intro wq hSw; go_simp; try rfl
  simp only [Act.put, List.setIfInBounds_toArray, List.set_cons_zero, List.set_cons_succ]
  refine take_at 6 (some 7) (v := ?_) rfl rfl (by kernel_rfl) (by kernel_rfl) (by kernel_rfl) (fun _ _ _ h => h) ⟨by rfl, ?_⟩ hS ?_
  rotate_left
  · intro wq hSw; go_simp; try rfl
  simp only [Act.put, List.setIfInBounds_toArray, List.set_cons_zero, List.set_cons_succ]
  have S2 := hide hS
  clear hS
  refine wpAnyH_done (by kernel_rfl) ?_ _
  obtain ⟨hkk, hii⟩ := hk1.out _ _ (RB1.out.below S2.out)
  have HII := hide hii
  clear hii
  have hkn : (r.k == 2) = false := by simpa using hk
  go_upto_region 6 with fail
  clear hkk
  have PQ2 := hide (PQ1.out.below S2.out)
  have RB2 := hide (RB1.out.below S2.out)
  have B2 := hide (B1.out.trans (S2.out.mono B1.out.size))
  have CB2 := hide (CB1.out.below S2.out)
  clear CB1 hkn PQ1 RB1 IN1 B1 S2 KC w1
  have GB := hide (show ¬ b = g from fun e => PQ2.out.b1 (by rw [e]; rfl))
  have GN := hide (show ¬ nb = g from fun e => GNB.out e.symm)
  refine wp_region_held_drew (S := fun wq => Cells wq b [.int .i64 num, .int .i64 lsn, .slice (some ⟨g, 0, none⟩) cs.length c, .slice a2 gs.length c2] ∧ RBox wq nb 38 RA) (by kernel_rfl) ⟨PQ2.out.cl.below (Below.refl x2.heap.size x2).drew, RB2.out.below (Below.refl x2.heap.size x2).drew⟩ (fun hS => ?_)
  have D0 := hide ((Below.refl x2.heap.size x2).drew)
  generalize x2.drew = x0 at *
  have HIL := hide hil
  clear hwi
  have D6 : decide ((i : Int) < (cs.length : Int)) = true := by simpa using hil
  refine take_at 0 (some 29) (v := ?_) rfl rfl (by kernel_rfl) (by kernel_rfl) (by kernel_rfl) (fun _ _ _ h => h) ⟨by rfl, ?_⟩ hS ?_
  rotate_left
  · intro wq hSw; go_simp; try rfl
  simp only [Act.put, List.setIfInBounds_toArray, List.set_cons_zero, List.set_cons_succ]
  refine take_at 1 (some 30) (v := ?_) rfl rfl (by kernel_rfl) (by kernel_rfl) (by kernel_rfl) (fun _ _ _ h => h) ⟨by rfl, ?_⟩ hS ?_
  rotate_left
  · intro wq hSw; go_simp; try rfl
  simp only [Act.put, List.setIfInBounds_toArray, List.set_cons_zero, List.set_cons_succ]
  refine take_at 2 (some 31) (v := ?_) rfl rfl (by kernel_rfl) (by kernel_rfl) (by kernel_rfl) (fun _ _ _ h => h) ⟨by rfl, ?_⟩ hS ?_
  rotate_left
  · intro wq hSw; go_simp; try rfl
  simp only [Act.put, List.setIfInBounds_toArray, List.set_cons_zero, List.set_cons_succ]
  refine take_at 3 (some 32) (v := ?_) rfl rfl (by kernel_rfl) (by kernel_rfl) (by kernel_rfl) (fun _ _ _ h => h) ⟨by rfl, ?_⟩ hS ?_
  rotate_left
  · intro wq hSw; obtain ⟨q5, -⟩ := hSw.1.get 2 _ rfl; go_simp; try rfl
  simp only [Act.put, List.setIfInBounds_toArray, List.set_cons_zero, List.set_cons_succ]
  refine take_at 4 (some 33) (v := ?_) rfl rfl (by kernel_rfl) (by kernel_rfl) (by kernel_rfl) (fun _ _ _ h => h) ⟨by rfl, ?_⟩ hS ?_
  rotate_left
  · intro wq hSw; go_simp; try rfl
  simp only [Act.put, List.setIfInBounds_toArray, List.set_cons_zero, List.set_cons_succ]
  refine take_at 5 (some 34) (v := ?_) rfl rfl (by kernel_rfl) (by kernel_rfl) (by kernel_rfl) (fun _ _ _ h => h) ⟨by rfl, ?_⟩ hS ?_
  rotate_left
  · intro wq hSw; go_simp; try rfl
  simp only [Act.put, List.setIfInBounds_toArray, List.set_cons_zero, List.set_cons_succ]
  refine take_at 6 (some 35) (v := ?_) rfl rfl (by kernel_rfl) (by kernel_rfl) (by kernel_rfl) (fun _ _ _ h => h) ⟨by rfl, ?_⟩ hS ?_
  rotate_left
  · intro wq hSw; have q6 := (hk1.out _ _ hSw.2).2; go_simp; try rfl
  simp only [Act.put, List.setIfInBounds_toArray, List.set_cons_zero, List.set_cons_succ]
  refine take_at 7 (some 36) (v := ?_) rfl rfl (by kernel_rfl) (by kernel_rfl) (by kernel_rfl) (fun _ _ _ h => h) ⟨by rfl, ?_⟩ hS ?_
  rotate_left
  · intro wq hSw; go_simp; try rfl
  simp only [Act.put, List.setIfInBounds_toArray, List.set_cons_zero, List.set_cons_succ]
  refine take_at 8 (some 37) (v := ?_) rfl rfl (by kernel_rfl) (by kernel_rfl) (by kernel_rfl) (fun _ _ _ h => h) ⟨by rfl, ?_⟩ hS ?_
  rotate_left
  · intro wq hSw; go_simp; try rfl
  simp only [Act.put, List.setIfInBounds_toArray, List.set_cons_zero, List.set_cons_succ]
  refine take_at 9 (some 38) (v := ?_) rfl rfl (by kernel_rfl) (by kernel_rfl) (by kernel_rfl) (fun _ _ _ h => h) ⟨by rfl, ?_⟩ hS ?_
  rotate_left
  · intro wq hSw; go_simp; try rfl
  simp only [Act.put, List.setIfInBounds_toArray, List.set_cons_zero, List.set_cons_succ]
  refine wpAnyH_ready (rs := [10]) (by kernel_rfl) (by simp) ?_
  refine AllReadyH.cons rfl (fun K hK => ?_) AllReadyH.nil
  go_simp
  go_wp2_with fail
  obtain ⟨z1, z2, z3⟩ := HGV.out _ (PQ2.out.below D0.out)
  refine (KT _ g (CB2.out.below D0.out) z1 z2 z3).mono ?_
  clear z1 z2 z3
  rintro e x3 ⟨rfl, h3, h4⟩
  have PQ3 := hide (PQ2.out.below D0.out)
  have BX := hide ((B2.out.mono HBW.out).trans (D0.out.mono (Nat.le_trans HBW.out B2.out.size)))
  have FIN := hide (show Below B w x3 ∧ (I64 M → ∃ v1' v2', PQ x3 B b v1' v2' ⟨num, lsn, putV cs (i : Int) M, gs⟩) ∧ Keep (fun k => k = g) x0 x3 from cc_fin PQ3.out BX.out HBW.out HIL.out h3 h4)
  have S9 := hide (And.intro (hS.1.keep FIN.out.2.2 GB.out) (hS.2.keep FIN.out.2.2 GN.out))
  clear h3 h4 hS PQ3 BX
  go_wp2_with fail
  refine hK.out _ _ S9.out (fun hS => ?_)
  clear hK K
  (try simp only [Act.put, List.setIfInBounds_toArray, List.set_cons_zero, List.set_cons_succ])
  refine take_at 11 (some 6) (v := ?_) rfl rfl (by kernel_rfl) (by kernel_rfl) (by kernel_rfl) (fun _ _ _ h => h) ⟨by rfl, ?_⟩ hS ?_
  rotate_left
  · intro wq hSw; go_simp; try rfl
  simp only [Act.put, List.setIfInBounds_toArray, List.set_cons_zero, List.set_cons_succ]
  clear hS
  refine wpAnyH_done (by kernel_rfl) ?_ _
  go_wp2_with fail
  exact bodyPost_ret (v := .int .i64 (fitE M)) (by simp [results, Try.results31, go_sem]) rfl ⟨rfl, FIN.out.1, FIN.out.2.1⟩
end Go.Proofs.Ytoocbpbaieedmaa
