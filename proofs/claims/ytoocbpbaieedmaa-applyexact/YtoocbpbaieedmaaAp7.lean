import Derived.Test.YtoocbpbaieedmaaAp6
namespace Go.Proofs.Ytoocbpbaieedmaa
open Go.RowKit Go.QK Quota
set_option maxRecDepth 100000
theorem grp_cells {w : World} {a : Option Addr} {gs : List Grp} {g : Nat} (ha : a = some ⟨g, 0, none⟩) (h : Lies w a (rowsC grpC gs)) (i : Nat) (hi : i < gs.length) : w.cell? ⟨g, i * 2 + 1, none⟩ = some (.int .i64 gs[i].sum) := by
  obtain ⟨b, off, e, _, q⟩ := Lies.rowAt grpC 2 (fun _ => rfl) h i hi (by decide)
  rw [ha] at e
  cases e
  have := q 1 _ rfl
  rw [Nat.zero_add] at this
  exact this
theorem cs_fin {w x x3 : World} {B b g c : Nat} {v1 : Value} {num lsn M : Int} {cs : List Ctr} {gs : List Grp} {i : Nat} (h : PQ x B b v1 (.slice (some ⟨g, 0, none⟩) gs.length c) ⟨num, lsn, cs, gs⟩) (hb : Below B w x) (hB : B ≤ w.heap.size) (hi : i < gs.length) (h3 : I64 M → ∃ wm, Below x.heap.size x wm ∧ x3 = wm.setCell ⟨g, i * 2 + 1, none⟩ (.int .i64 M)) (h4 : ¬ I64 M → Below x.heap.size x x3) :
    Below B w x3 ∧ (I64 M → ∃ v1' v2', PQ x3 B b v1' v2' ⟨num, lsn, cs, putS gs (i : Int) M⟩) := by
  have hBx : B ≤ x.heap.size := Nat.le_trans hB hb.size
  by_cases hm : I64 M
  · obtain ⟨wm, b1, rfl⟩ := h3 hm
    obtain ⟨q1, q2⟩ := PQ.stS (p := ⟨num, lsn, cs, gs⟩) (i := i) (h.below b1) hi M
    exact ⟨hb.trans ((b1.mono hBx).trans q2), fun _ => ⟨_, _, q1⟩⟩
  · exact ⟨hb.trans ((h4 hm).mono hBx), fun q => absurd q hm⟩
/-- The turn of a sum, as the walk meets it. -/
theorem sum_turn (r : Rc) (B b cb g c i F : Nat) (v1 : Value) (num lsn : Int) (cs : List Ctr) (gs : List Grp) (w x : World) (h : PQ x B b v1 (.slice (some ⟨g, 0, none⟩) gs.length c) ⟨num, lsn, cs, gs⟩) (hi : i < gs.length) (hg : I64 gs[i].sum) (hr : r.Fit) (hF : F = fnOf r.k) (hcb : RBox x cb 38 (recA r)) (hb : Below B w x) (hB : B ≤ w.heap.size) :
    Calls Try.prog 38 #[.pointer (some ⟨g, i * 2 + 1, none⟩), fv F cb] x fun e x3 => e = .returned (.int .i64 (fitE (mv r gs[i].sum))) ∧ Below B w x3 ∧ (I64 (mv r gs[i].sum) → ∃ v1' v2', PQ x3 B b v1' v2' ⟨num, lsn, cs, putS gs (i : Int) (mv r gs[i].sum)⟩) := by
  obtain ⟨a, c', e, l, -⟩ := GRow.lies h.g2
  cases e
  subst hF
  refine (turn_any r cb g (i * 2 + 1) gs[i].sum x hcb hr hg (grp_cells rfl l i hi) (World.ownsRow.frozenAt h.g2 _) (World.ownsRow.lt h.g2 g rfl).2).mono ?_
  rintro e x3 ⟨rfl, h3, h4⟩
  exact ⟨rfl, cs_fin h hb hB hi h3 h4⟩
set_option maxHeartbeats 4000000 in
theorem cs_no (B b cb F : Nat) (v1 v2 : Value) (p : Pg) (r : Rc) (w : World) (h : PQ w B b v1 v2 p) (hf : p.Fit) (hi : ¬ isS p r) : Calls Try.prog 33 #[ptr b, recV r, fv F cb] w fun e w' => e = .returned (.int .i64 83) ∧ Below w.heap.size w w' := by
  obtain ⟨t, e1, e2, hin⟩ := h.in_
  subst e1 e2
  obtain ⟨RA, hRA⟩ : ∃ RA, RA = recA r := ⟨_, rfl⟩
  have hk1 := hide (show ∀ (x : World) (n : Nat), RBox x n 38 RA → x.cell? ⟨n, 7, none⟩ = some (.int .i64 r.si) ∧ x.cell? ⟨n, 10, none⟩ = some (.int .i64 r.c.grp) from fun x n q => by subst hRA; exact ⟨(q.cells.get 7 _ rfl).1, (q.cells.get 10 _ rfl).1⟩)
  have hsz : RA.size = 17 := by rw [hRA]; rfl
  have KC := fun w' hw => isS_any p t r w' hw (Nat.le_trans hf.lg (by decide))
  show Calls Try.prog 33 #[ptr b, .agg (recA r), fv F cb] w _
  simp only [recV] at KC
  rw [← hRA] at KC ⊢
  rw [decide_eq_false hi] at KC
  have HSZ := hide hsz
  have HPQ := hide h
  have HIN := hide hin
  clear h hin hsz hRA hi hf
  go_enter Try.func33, Try.ntmps33
  go_upto_region 1 with fail
  refine named (P := Code.wp _ _ _ _) ?_
  intro w1 hw1
  obtain ⟨nb, hnb⟩ : ∃ nb, nb = w.heap.size := ⟨_, rfl⟩
  have b1 : Below w.heap.size w w1 := by rw [hw1]; exact alloc_below _ _
  have PQ1 := hide (HPQ.out.below b1)
  have RB1 := hide (show RBox w1 nb 38 RA by rw [hw1, hnb]; exact RBox.new _ _ _)
  have IN1 := hide (HIN.out.below b1)
  have B1 := hide b1
  have HBW := hide (show B ≤ w.heap.size by have := HPQ.out.lt; have := HPQ.out.hB; omega)
  have NBB := hide (show ¬ nb = b by have := HPQ.out.lt; omega)
  have NBV := hide (show ¬ (Value.slice t.b p.gs.length t.d).ownBlock = some nb by intro q; have := (World.ownsRow.lt HPQ.out.g2 _ q).2; omega)
  skip
  rw [← hnb]
  clear hw1 b1 HPQ HIN hnb
  obtain ⟨num, lsn, cs, gs⟩ := p
  obtain ⟨ta, tc, tb, td⟩ := t
  simp only [pgV, pgA] at KC
  obtain ⟨c7, -⟩ := hk1.out _ _ RB1.out
  go_upto_region 2 with fail
  clear c7
  refine wp_region_held_drew (S := fun wq => Below w1.heap.size w1 wq) (by kernel_rfl) (Below.refl _ _).drew (fun hS => ?_)
  refine take_at 0 (some 11) (v := ?_) rfl rfl (by kernel_rfl) (by kernel_rfl) (by kernel_rfl) (fun _ _ _ h => h) ⟨by rfl, ?_⟩ hS ?_
  rotate_left
  · intro wq hSw; go_simp; try rfl
  simp only [Act.put, List.setIfInBounds_toArray, List.set_cons_zero, List.set_cons_succ]
  refine take_at 1 (some 12) (v := ?_) rfl rfl (by kernel_rfl) (by kernel_rfl) (by kernel_rfl) (fun _ _ _ h => h) ⟨by rfl, ?_⟩ hS ?_
  rotate_left
  · intro wq hSw; go_simp; try rfl
  simp only [Act.put, List.setIfInBounds_toArray, List.set_cons_zero, List.set_cons_succ]
  refine take_at 2 (some 13) (v := ?_) rfl rfl (by kernel_rfl) (by kernel_rfl) (by kernel_rfl) (fun _ _ _ h => h) ⟨by rfl, ?_⟩ hS ?_
  rotate_left
  · intro wq hSw; have qq := PQ1.out.cl.below hSw; obtain ⟨q0, _⟩ := qq.get 0 _ rfl; obtain ⟨q1, _⟩ := qq.get 1 _ rfl; obtain ⟨q2, _⟩ := qq.get 2 _ rfl; obtain ⟨q3, _⟩ := qq.get 3 _ rfl; clear qq; go_simp; try rfl
  simp only [Act.put, List.setIfInBounds_toArray, List.set_cons_zero, List.set_cons_succ]
  refine take_at 3 (some 14) (v := .agg RA) rfl rfl (by kernel_rfl) (by kernel_rfl) (by kernel_rfl) (fun _ _ _ h => h) ⟨by rfl, fun wq hSw => exec_load38 rfl rfl (rb_at (RB1.out.below hSw)) HSZ.out⟩ hS ?_
  simp only [Act.put, List.setIfInBounds_toArray, List.set_cons_zero, List.set_cons_succ]
  refine wpAnyH_ready (rs := [4]) (by kernel_rfl) (by simp) ?_
  refine AllReadyH.cons rfl (fun K hK => ?_) AllReadyH.nil
  go_simp
  go_wp2_with fail
  refine (KC _ (IN1.out.below hS)).mono ?_
  rintro e x2 ⟨rfl, h2⟩
  have s2 : Below w1.heap.size w1 x2 := hS.trans (h2.mono hS.size)
  clear h2 hS
  go_wp2_with fail
  refine hK.out _ _ s2 (fun hS => ?_)
  clear hK K s2
  (try simp only [Act.put, List.setIfInBounds_toArray, List.set_cons_zero, List.set_cons_succ])
  refine take_at 5 (some 16) (v := ?_) rfl rfl (by kernel_rfl) (by kernel_rfl) (by kernel_rfl) (fun _ _ _ h => h) ⟨by rfl, ?_⟩ hS ?_
  rotate_left
  · intro wq hSw; go_simp; try rfl
  simp only [Act.put, List.setIfInBounds_toArray, List.set_cons_zero, List.set_cons_succ]
  have S2 := hide hS
  clear hS
  refine wpAnyH_done (by kernel_rfl) ?_ _
  go_wp2_with fail
  exact bodyPost_ret (v := .int .i64 83) (by simp [results, Try.results33, go_sem]) rfl ⟨rfl, B1.out.trans (S2.out.mono B1.out.size)⟩
set_option maxHeartbeats 8000000 in
theorem cs_old (B b cb F : Nat) (v1 v2 : Value) (p : Pg) (r : Rc) (w : World) (h : PQ w B b v1 v2 p) (hf : p.Fit) (hr : r.Fit) (hi : isS p r) (hs0 : 0 ≤ r.si) (hs1 : r.si < p.gs.length) (hF : F = fnOf r.k) (hcb : RBox w cb 38 (recA r)) : Calls Try.prog 33 #[ptr b, recV r, fv F cb] w fun e w' => e = .returned (.int .i64 (fitE (mv r (grpAt p.gs r.si).sum))) ∧ Below B w w' ∧ (I64 (mv r (grpAt p.gs r.si).sum) → ∃ v1' v2', PQ w' B b v1' v2' ⟨p.num, p.lsn, p.cs, putS p.gs r.si (mv r (grpAt p.gs r.si).sum)⟩) := by
  obtain ⟨i, hwi⟩ : ∃ i : Nat, r.si = (i : Int) := ⟨r.si.toNat, by omega⟩
  have hil : i < p.gs.length := by omega
  rw [hwi, grpAt_nat p.gs i hil]
  have hv : I64 p.gs[i].sum := hf.g _ (List.getElem_mem hil)
  obtain ⟨g, c, e2⟩ : ∃ g c, v2 = .slice (some ⟨g, 0, none⟩) p.gs.length c := grow_form h.g2 (by omega)
  obtain ⟨a1, c1, e1, -⟩ := GRow.lies h.g1
  subst e1 e2
  have KT := fun x (q : PQ x B b (.slice a1 p.cs.length c1) (.slice (some ⟨g, 0, none⟩) p.gs.length c) p) hcb hb hB => sum_turn r B b cb g c i F (.slice a1 p.cs.length c1) p.num p.lsn p.cs p.gs w x q hil hv hr hF hcb hb hB
  obtain ⟨M, hM⟩ : ∃ M, M = mv r p.gs[i].sum := ⟨_, rfl⟩
  rw [← hM] at KT ⊢
  clear hM hv
  obtain ⟨t, e1, e2, hin⟩ := h.in_
  obtain ⟨ta, tc, tb, td⟩ := t
  simp only [Value.slice.injEq] at e1 e2
  obtain ⟨rfl, -, rfl⟩ := e1
  obtain ⟨rfl, -, rfl⟩ := e2
  obtain ⟨RA, hRA⟩ : ∃ RA, RA = recA r := ⟨_, rfl⟩
  have hk1 := hide (show ∀ (x : World) (n : Nat), RBox x n 38 RA → x.cell? ⟨n, 7, none⟩ = some (.int .i64 (i : Int)) ∧ x.cell? ⟨n, 10, none⟩ = some (.int .i64 r.c.grp) from fun x n q => by subst hRA; rw [← hwi]; exact ⟨(q.cells.get 7 _ rfl).1, (q.cells.get 10 _ rfl).1⟩)
  have hsz : RA.size = 17 := by rw [hRA]; rfl
  have KC := fun w' hw => isS_any p ⟨a1, c1, some ⟨g, 0, none⟩, c⟩ r w' hw (Nat.le_trans hf.lg (by decide))
  show Calls Try.prog 33 #[ptr b, .agg (recA r), fv F cb] w _
  simp only [recV] at KC
  rw [← hRA] at KC KT hcb ⊢
  rw [decide_eq_true hi] at KC
  have HSZ := hide hsz
  have HPQ := hide h
  have HIN := hide hin
  clear h hin hsz hRA hi hr hf hF
  go_enter Try.func33, Try.ntmps33
  go_upto_region 1 with fail
  refine named (P := Code.wp _ _ _ _) ?_
  intro w1 hw1
  obtain ⟨nb, hnb⟩ : ∃ nb, nb = w.heap.size := ⟨_, rfl⟩
  have b1 : Below w.heap.size w w1 := by rw [hw1]; exact alloc_below _ _
  have PQ1 := hide (HPQ.out.below b1)
  have RB1 := hide (show RBox w1 nb 38 RA by rw [hw1, hnb]; exact RBox.new _ _ _)
  have IN1 := hide (HIN.out.below b1)
  have B1 := hide b1
  have HBW := hide (show B ≤ w.heap.size by have := HPQ.out.lt; have := HPQ.out.hB; omega)
  have NBB := hide (show ¬ nb = b by have := HPQ.out.lt; omega)
  have NBV := hide (show ¬ (Value.slice (some ⟨g, 0, none⟩) p.gs.length c).ownBlock = some nb by intro q; have := (World.ownsRow.lt HPQ.out.g2 _ q).2; omega)
  have CB1 := hide (hcb.below b1)
  clear hcb
  rw [← hnb]
  clear hw1 b1 HPQ HIN hnb
  obtain ⟨num, lsn, cs, gs⟩ := p
  simp only [pgV, pgA] at KC
  obtain ⟨c7, -⟩ := hk1.out _ _ RB1.out
  go_upto_region 2 with fail
  clear c7
  refine wp_region_held_drew (S := fun wq => Below w1.heap.size w1 wq) (by kernel_rfl) (Below.refl _ _).drew (fun hS => ?_)
  refine take_at 0 (some 11) (v := ?_) rfl rfl (by kernel_rfl) (by kernel_rfl) (by kernel_rfl) (fun _ _ _ h => h) ⟨by rfl, ?_⟩ hS ?_
  rotate_left
  · intro wq hSw; go_simp; try rfl
  simp only [Act.put, List.setIfInBounds_toArray, List.set_cons_zero, List.set_cons_succ]
  refine take_at 1 (some 12) (v := ?_) rfl rfl (by kernel_rfl) (by kernel_rfl) (by kernel_rfl) (fun _ _ _ h => h) ⟨by rfl, ?_⟩ hS ?_
  rotate_left
  · intro wq hSw; go_simp; try rfl
  simp only [Act.put, List.setIfInBounds_toArray, List.set_cons_zero, List.set_cons_succ]
  refine take_at 2 (some 13) (v := ?_) rfl rfl (by kernel_rfl) (by kernel_rfl) (by kernel_rfl) (fun _ _ _ h => h) ⟨by rfl, ?_⟩ hS ?_
  rotate_left
  · intro wq hSw; have qq := PQ1.out.cl.below hSw; obtain ⟨q0, _⟩ := qq.get 0 _ rfl; obtain ⟨q1, _⟩ := qq.get 1 _ rfl; obtain ⟨q2, _⟩ := qq.get 2 _ rfl; obtain ⟨q3, _⟩ := qq.get 3 _ rfl; clear qq; go_simp; try rfl
  simp only [Act.put, List.setIfInBounds_toArray, List.set_cons_zero, List.set_cons_succ]
  refine take_at 3 (some 14) (v := .agg RA) rfl rfl (by kernel_rfl) (by kernel_rfl) (by kernel_rfl) (fun _ _ _ h => h) ⟨by rfl, fun wq hSw => exec_load38 rfl rfl (rb_at (RB1.out.below hSw)) HSZ.out⟩ hS ?_
  simp only [Act.put, List.setIfInBounds_toArray, List.set_cons_zero, List.set_cons_succ]
  refine wpAnyH_ready (rs := [4]) (by kernel_rfl) (by simp) ?_
  refine AllReadyH.cons rfl (fun K hK => ?_) AllReadyH.nil
  go_simp
  go_wp2_with fail
  refine (KC _ (IN1.out.below hS)).mono ?_
  rintro e x2 ⟨rfl, h2⟩
  have s2 : Below w1.heap.size w1 x2 := hS.trans (h2.mono hS.size)
  clear h2 hS
  go_wp2_with fail
  refine hK.out _ _ s2 (fun hS => ?_)
  clear hK K s2
  (try simp only [Act.put, List.setIfInBounds_toArray, List.set_cons_zero, List.set_cons_succ])
  refine take_at 5 (some 16) (v := ?_) rfl rfl (by kernel_rfl) (by kernel_rfl) (by kernel_rfl) (fun _ _ _ h => h) ⟨by rfl, ?_⟩ hS ?_
  rotate_left
  · intro wq hSw; go_simp; try rfl
  simp only [Act.put, List.setIfInBounds_toArray, List.set_cons_zero, List.set_cons_succ]
  have S2 := hide hS
  clear hS
  refine wpAnyH_done (by kernel_rfl) ?_ _
  obtain ⟨hkk, -⟩ := PQ1.out.cl.below S2.out |>.get 3 _ rfl
  have PQ2 := hide (PQ1.out.below S2.out)
  have RB2 := hide (RB1.out.below S2.out)
  have CB2 := hide (CB1.out.below S2.out)
  have B2 := hide (B1.out.trans (S2.out.mono B1.out.size))
  clear PQ1 RB1 IN1 B1 S2 KC CB1 w1
  clear hk1 hs0 hs1
  have hne : ((i : Int) == (gs.length : Int)) = false := by simp; omega
  have hlt : decide ((i : Int) < (gs.length : Int)) = true := by simp; exact hil
  clear hwi
  have HIL := hide hil
  clear hil
  go_wp2_with (go_at_call 38; refine (KT _ PQ2.out CB2.out (B2.out.mono HBW.out) HBW.out).mono ?_; rintro e x3 ⟨rfl, h3, h4⟩; have H3 := hide h3; have H4 := hide h4; clear h3 h4 hkk KT PQ2 CB2 B2 RB2)
  exact bodyPost_ret (v := .int .i64 (fitE M)) (by simp [results, Try.results33, go_sem]) rfl ⟨rfl, H3.out, H4.out⟩
set_option maxHeartbeats 8000000 in
theorem cs_new (B b cb F : Nat) (v1 v2 : Value) (p : Pg) (r : Rc) (w : World) (h : PQ w B b v1 v2 p) (hf : p.Fit) (hr : r.Fit) (hi : isS p r) (hs1 : r.si = p.gs.length) (hF : F = fnOf r.k) (hcb : RBox w cb 38 (recA r)) (hcv : ¬ v2.ownBlock = some cb) (hcb2 : ¬ cb = b) : Calls Try.prog 33 #[ptr b, recV r, fv F cb] w fun e w' => e = .returned (.int .i64 (fitE (mv r 0))) ∧ Below B w w' ∧ (I64 (mv r 0) → ∃ v1' v2', PQ w' B b v1' v2' ⟨p.num, p.lsn, p.cs, putS (p.gs ++ [⟨r.c.grp, 0⟩]) r.si (mv r 0)⟩) := by
  have hlg := hf.lg
  have hil : p.gs.length < (p.gs ++ [(⟨r.c.grp, 0⟩ : Grp)]).length := by simp
  have hel : (p.gs ++ [(⟨r.c.grp, 0⟩ : Grp)])[p.gs.length] = ⟨r.c.grp, 0⟩ := by simp
  have KT := fun x (v1 : Value) g c (q : PQ x B b v1 (.slice (some ⟨g, 0, none⟩) (p.gs ++ [(⟨r.c.grp, 0⟩ : Grp)]).length c) ⟨p.num, p.lsn, p.cs, p.gs ++ [⟨r.c.grp, 0⟩]⟩) hcb hb hB => sum_turn r B b cb g c p.gs.length F v1 p.num p.lsn p.cs (p.gs ++ [⟨r.c.grp, 0⟩]) w x q hil (by rw [hel]; unfold I64; simp) hr hF hcb hb hB
  rw [hel] at KT
  rw [hs1]
  obtain ⟨M, hM⟩ : ∃ M, M = mv r 0 := ⟨_, rfl⟩
  simp only at KT
  rw [← hM] at KT ⊢
  clear hM hel hil
  obtain ⟨t, e1, e2, hin⟩ := h.in_
  subst e1 e2
  obtain ⟨RA, hRA⟩ : ∃ RA, RA = recA r := ⟨_, rfl⟩
  have hk1 := hide (show ∀ (x : World) (n : Nat), RBox x n 38 RA → x.cell? ⟨n, 7, none⟩ = some (.int .i64 (p.gs.length : Int)) ∧ x.cell? ⟨n, 10, none⟩ = some (.int .i64 r.c.grp) from fun x n q => by subst hRA; rw [← hs1]; exact ⟨(q.cells.get 7 _ rfl).1, (q.cells.get 10 _ rfl).1⟩)
  have hsz : RA.size = 17 := by rw [hRA]; rfl
  have KC := fun w' hw => isS_any p t r w' hw (Nat.le_trans hf.lg (by decide))
  show Calls Try.prog 33 #[ptr b, .agg (recA r), fv F cb] w _
  simp only [recV] at KC
  rw [← hRA] at KC KT hcb ⊢
  rw [decide_eq_true hi] at KC
  have HSZ := hide hsz
  have HPQ := hide h
  have HIN := hide hin
  clear h hin hsz hRA hi hr hf hF
  go_enter Try.func33, Try.ntmps33
  go_upto_region 1 with fail
  refine named (P := Code.wp _ _ _ _) ?_
  intro w1 hw1
  obtain ⟨nb, hnb⟩ : ∃ nb, nb = w.heap.size := ⟨_, rfl⟩
  have b1 : Below w.heap.size w w1 := by rw [hw1]; exact alloc_below _ _
  have PQ1 := hide (HPQ.out.below b1)
  have RB1 := hide (show RBox w1 nb 38 RA by rw [hw1, hnb]; exact RBox.new _ _ _)
  have IN1 := hide (HIN.out.below b1)
  have B1 := hide b1
  have HBW := hide (show B ≤ w.heap.size by have := HPQ.out.lt; have := HPQ.out.hB; omega)
  have NBB := hide (show ¬ nb = b by have := HPQ.out.lt; omega)
  have NBV := hide (show ¬ (Value.slice t.b p.gs.length t.d).ownBlock = some nb by intro q; have := (World.ownsRow.lt HPQ.out.g2 _ q).2; omega)
  have CB1 := hide (hcb.below b1)
  have CBV := hide hcv
  have CBB := hide hcb2
  clear hcb hcv hcb2
  rw [← hnb]
  clear hw1 b1 HPQ HIN hnb
  obtain ⟨num, lsn, cs, gs⟩ := p
  obtain ⟨ta, tc, tb, td⟩ := t
  simp only [pgV, pgA] at KC
  obtain ⟨c7, -⟩ := hk1.out _ _ RB1.out
  go_upto_region 2 with fail
  clear c7
  refine wp_region_held_drew (S := fun wq => Below w1.heap.size w1 wq) (by kernel_rfl) (Below.refl _ _).drew (fun hS => ?_)
  refine take_at 0 (some 11) (v := ?_) rfl rfl (by kernel_rfl) (by kernel_rfl) (by kernel_rfl) (fun _ _ _ h => h) ⟨by rfl, ?_⟩ hS ?_
  rotate_left
  · intro wq hSw; go_simp; try rfl
  simp only [Act.put, List.setIfInBounds_toArray, List.set_cons_zero, List.set_cons_succ]
  refine take_at 1 (some 12) (v := ?_) rfl rfl (by kernel_rfl) (by kernel_rfl) (by kernel_rfl) (fun _ _ _ h => h) ⟨by rfl, ?_⟩ hS ?_
  rotate_left
  · intro wq hSw; go_simp; try rfl
  simp only [Act.put, List.setIfInBounds_toArray, List.set_cons_zero, List.set_cons_succ]
  refine take_at 2 (some 13) (v := ?_) rfl rfl (by kernel_rfl) (by kernel_rfl) (by kernel_rfl) (fun _ _ _ h => h) ⟨by rfl, ?_⟩ hS ?_
  rotate_left
  · intro wq hSw; have qq := PQ1.out.cl.below hSw; obtain ⟨q0, _⟩ := qq.get 0 _ rfl; obtain ⟨q1, _⟩ := qq.get 1 _ rfl; obtain ⟨q2, _⟩ := qq.get 2 _ rfl; obtain ⟨q3, _⟩ := qq.get 3 _ rfl; clear qq; go_simp; try rfl
  simp only [Act.put, List.setIfInBounds_toArray, List.set_cons_zero, List.set_cons_succ]
  refine take_at 3 (some 14) (v := .agg RA) rfl rfl (by kernel_rfl) (by kernel_rfl) (by kernel_rfl) (fun _ _ _ h => h) ⟨by rfl, fun wq hSw => exec_load38 rfl rfl (rb_at (RB1.out.below hSw)) HSZ.out⟩ hS ?_
  simp only [Act.put, List.setIfInBounds_toArray, List.set_cons_zero, List.set_cons_succ]
  refine wpAnyH_ready (rs := [4]) (by kernel_rfl) (by simp) ?_
  refine AllReadyH.cons rfl (fun K hK => ?_) AllReadyH.nil
  go_simp
  go_wp2_with fail
  refine (KC _ (IN1.out.below hS)).mono ?_
  rintro e x2 ⟨rfl, h2⟩
  have s2 : Below w1.heap.size w1 x2 := hS.trans (h2.mono hS.size)
  clear h2 hS
  go_wp2_with fail
  refine hK.out _ _ s2 (fun hS => ?_)
  clear hK K s2
  (try simp only [Act.put, List.setIfInBounds_toArray, List.set_cons_zero, List.set_cons_succ])
  refine take_at 5 (some 16) (v := ?_) rfl rfl (by kernel_rfl) (by kernel_rfl) (by kernel_rfl) (fun _ _ _ h => h) ⟨by rfl, ?_⟩ hS ?_
  rotate_left
  · intro wq hSw; go_simp; try rfl
  simp only [Act.put, List.setIfInBounds_toArray, List.set_cons_zero, List.set_cons_succ]
  have S2 := hide hS
  clear hS
  refine wpAnyH_done (by kernel_rfl) ?_ _
  obtain ⟨hkk, -⟩ := PQ1.out.cl.below S2.out |>.get 3 _ rfl
  have PQ2 := hide (PQ1.out.below S2.out)
  have RB2 := hide (RB1.out.below S2.out)
  have CB2 := hide (CB1.out.below S2.out)
  have B2 := hide (B1.out.trans (S2.out.mono B1.out.size))
  clear PQ1 RB1 IN1 B1 S2 KC CB1 w1
  clear hs1
  go_upto_region 5 with fail
  clear hkk
  obtain ⟨G, hG⟩ : ∃ G, G = r.c.grp := ⟨_, rfl⟩
  rw [← hG] at KT hk1
  have HG := hide hG
  clear hG
  refine wp_region_held_drew (S := fun wq => RBox wq nb 38 RA) (by kernel_rfl) (RB2.out.below ((Below.refl x2.heap.size x2).drew)) (fun hS => ?_)
  have D0 := hide ((Below.refl x2.heap.size x2).drew)
  have PD := hide (PQ2.out.below D0.out)
  have CD := hide (CB2.out.below D0.out)
  have RD := hide hS
  generalize x2.drew = x0 at *
  refine take_at 0 (some 24) (v := ?_) rfl rfl (by kernel_rfl) (by kernel_rfl) (by kernel_rfl) (fun _ _ _ h => h) ⟨by rfl, ?_⟩ hS ?_
  rotate_left
  · intro wq hSw; go_simp; try rfl
  simp only [Act.put, List.setIfInBounds_toArray, List.set_cons_zero, List.set_cons_succ]
  refine take_at 1 (some 25) (v := ?_) rfl rfl (by kernel_rfl) (by kernel_rfl) (by kernel_rfl) (fun _ _ _ h => h) ⟨by rfl, ?_⟩ hS ?_
  rotate_left
  · intro wq hSw; go_simp; try rfl
  simp only [Act.put, List.setIfInBounds_toArray, List.set_cons_zero, List.set_cons_succ]
  refine take_at 2 (some 26) (v := ?_) rfl rfl (by kernel_rfl) (by kernel_rfl) (by kernel_rfl) (fun _ _ _ h => h) ⟨by rfl, ?_⟩ hS ?_
  rotate_left
  · intro wq hSw; go_simp; try rfl
  simp only [Act.put, List.setIfInBounds_toArray, List.set_cons_zero, List.set_cons_succ]
  refine take_at 3 (some 27) (v := ?_) rfl rfl (by kernel_rfl) (by kernel_rfl) (by kernel_rfl) (fun _ _ _ h => h) ⟨by rfl, ?_⟩ hS ?_
  rotate_left
  · intro wq hSw; go_simp; try rfl
  simp only [Act.put, List.setIfInBounds_toArray, List.set_cons_zero, List.set_cons_succ]
  refine take_at 5 (some 29) (v := ?_) rfl rfl (by kernel_rfl) (by kernel_rfl) (by kernel_rfl) (fun _ _ _ h => h) ⟨by rfl, ?_⟩ hS ?_
  rotate_left
  · intro wq hSw; go_simp; try rfl
  simp only [Act.put, List.setIfInBounds_toArray, List.set_cons_zero, List.set_cons_succ]
  refine take_at 6 (some 30) (v := ?_) rfl rfl (by kernel_rfl) (by kernel_rfl) (by kernel_rfl) (fun _ _ _ h => h) ⟨by rfl, ?_⟩ hS ?_
  rotate_left
  · intro wq hSw; go_simp; try rfl
  simp only [Act.put, List.setIfInBounds_toArray, List.set_cons_zero, List.set_cons_succ]
  refine take_at 7 (some 31) (v := ?_) rfl rfl (by kernel_rfl) (by kernel_rfl) (by kernel_rfl) (fun _ _ _ h => h) ⟨by rfl, ?_⟩ hS ?_
  rotate_left
  · intro wq hSw; have q10 := (hk1.out _ _ hSw).2; go_simp; try rfl
  simp only [Act.put, List.setIfInBounds_toArray, List.set_cons_zero, List.set_cons_succ]
  refine take_at 8 (some 32) (v := ?_) rfl rfl (by kernel_rfl) (by kernel_rfl) (by kernel_rfl) (fun _ _ _ h => h) ⟨by rfl, ?_⟩ hS ?_
  rotate_left
  · intro wq hSw; go_simp; try rfl
  simp only [Act.put, List.setIfInBounds_toArray, List.set_cons_zero, List.set_cons_succ]
  have al := alloc_below x0 (.cells (grpC ⟨G, 0⟩).toArray 69)
  obtain ⟨v3, x3, hr3, hO, hg3, hn3⟩ := run_pushR Try.underlying23 info69 rfl (by decide) (by decide) 23 (x0.alloc (.cells (grpC ⟨G, 0⟩).toArray 69)) B (.slice tb gs.length td) gs.length (rowsC grpC gs) (GRow.below PD.out.g2 al) ⟨x0.heap.size, 0, none⟩ 1 1 (grpC ⟨G, 0⟩) rfl (lies_new x0 _ 69) (grpC_one _) (by omega) (by have := PD.out.hB; have := PD.out.lt; simp; omega)
  obtain ⟨fin, fbl⟩ := PQ.pushG (c := ⟨G, 0⟩) PD.out al hO hg3 hn3
  have kg : Keep (fun z => (Value.slice tb gs.length td).ownBlock = some z) _ _ := (Keep.refl (fun z => (Value.slice tb gs.length td).ownBlock = some z) (x0.alloc (.cells (grpC ⟨G, 0⟩).toArray 69))).grown hg3 (fun _ e _ => e)
  have ra1 := RD.out.below al
  have rn : ¬ (Value.slice tb gs.length td).ownBlock = some nb := NBV.out
  have ra3 := ra1.keep kg rn
  have ks : Keep (fun k => k = b) x3 (x3.setCell ⟨b, 3, none⟩ v3) := (Keep.refl (fun k => k = b) x3).setCell (g := b) (j := 3) (fun _ => rfl) _
  have ra4 := ra3.keep ks NBB.out
  have CF := hide (((CD.out.below al).keep kg CBV.out).keep ks CBB.out)
  have cz0 := (PD.out.cl.get 3 _ rfl).1
  have cz1 := ((PD.out.cl.below al).get 3 _ rfl).1
  obtain ⟨f2c, f2f⟩ := ((PD.out.cl.below al).keep kg PD.out.b2).get 3 _ rfl
  obtain ⟨a3, c3, e3⟩ := grow_form hO (Nat.succ_pos _)
  subst e3
  have FIN := hide fin
  have FBL := hide fbl
  have HR3 := hide hr3
  have s1 := hide ra1
  have s3 := hide ra3
  have s4 := hide ra4
  clear fin fbl hr3 ra1 ra3 ra4 kg ks rn hO hg3 hn3 hS al
  refine wpAnyH_ready (rs := [4, 9]) (by kernel_rfl) (by simp) ?_
  refine AllReadyH.cons rfl (fun K hK => ?_) (AllReadyH.cons rfl (fun K hK => ?_) AllReadyH.nil)
  · go_simp
    go_wp2_with fail
    refine hK.out _ _ RD.out (fun hS => ?_)
    clear hK K hS
    (try simp only [Act.put, List.setIfInBounds_toArray, List.set_cons_zero, List.set_cons_succ])
    refine wpAnyH_ready (rs := [9]) (by kernel_rfl) (by simp) ?_
    refine AllReadyH.cons rfl (fun K hK => ?_) AllReadyH.nil
    go_simp
    go_wp2_with fail
    refine hK.out _ _ s1.out (fun hS => ?_)
    clear hK K hS
    (try simp only [Act.put, List.setIfInBounds_toArray, List.set_cons_zero, List.set_cons_succ])
    refine wpAnyH_ready (rs := [10]) (by kernel_rfl) (by simp) ?_
    refine AllReadyH.cons rfl (fun K hK => ?_) AllReadyH.nil
    refine wp_run 34 (.tmp 28) (.tmp 33) rfl rfl rfl rfl rfl HR3.out ?_
    refine hK.out _ _ s3.out (fun hS => ?_)
    clear hK K
    (try simp only [Act.put, List.setIfInBounds_toArray, List.set_cons_zero, List.set_cons_succ])
    refine take_at 11 (some 35) (v := ?_) rfl rfl (by kernel_rfl) (by kernel_rfl) (by kernel_rfl) (fun _ _ _ h => h) ⟨by rfl, ?_⟩ hS ?_
    rotate_left
    · intro wq hSw; go_simp; try rfl
    simp only [Act.put, List.setIfInBounds_toArray, List.set_cons_zero, List.set_cons_succ]
    refine take_at 12 (some 36) (v := ?_) rfl rfl (by kernel_rfl) (by kernel_rfl) (by kernel_rfl) (fun _ _ _ h => h) ⟨by rfl, ?_⟩ hS ?_
    rotate_left
    · intro wq hSw; go_simp; try rfl
    simp only [Act.put, List.setIfInBounds_toArray, List.set_cons_zero, List.set_cons_succ]
    clear hS
    refine wpAnyH_ready (rs := [13]) (by kernel_rfl) (by simp) ?_
    refine AllReadyH.cons rfl (fun K hK => ?_) AllReadyH.nil
    go_simp
    go_wp2_with fail
    refine hK.out _ _ s4.out (fun hS => ?_)
    clear hK K hS
    (try simp only [Act.put])
    refine wpAnyH_done (by kernel_rfl) ?_ _
    clear cz0 cz1 f2c f2f s1 s3 s4 RD HR3
    go_upto_region 6 with fail
    refine named (P := Code.wp _ _ _ _) ?_
    intro x5 hx5
    rw [← hx5] at FIN FBL CF
    obtain ⟨k3, -⟩ := FIN.out.cl.get 3 _ rfl
    clear hx5
    have BB := hide ((B2.out.mono HBW.out).trans (((D0.out).mono (Nat.le_trans HBW.out B2.out.size)).trans FBL.out))
    have FQ := hide (show PQ x5 B b (.slice ta cs.length tc) (.slice (some ⟨a3, 0, none⟩) (gs ++ [(⟨G, 0⟩ : Grp)]).length c3) ⟨num, lsn, cs, gs ++ [⟨G, 0⟩]⟩ from by rw [List.length_append]; exact FIN.out)
    have hlt : decide ((gs.length : Int) < ((gs.length + 1 : Nat) : Int)) = true := by simp; omega
    clear FIN FBL PD CD PQ2 CB2 RB2 B2 D0
    go_wp2_with (go_at_call 38; refine (KT _ _ _ _ FQ.out CF.out BB.out HBW.out).mono ?_; rintro e x6 ⟨rfl, h3, h4⟩; have H3 := hide h3; have H4 := hide h4; clear h3 h4 KT k3)
    exact bodyPost_ret (v := .int .i64 (fitE M)) (by simp [results, Try.results33, go_sem]) rfl ⟨rfl, H3.out, by rw [← HG.out]; exact H4.out⟩
  · go_simp
    go_wp2_with fail
    refine hK.out _ _ s1.out (fun hS => ?_)
    clear hK K hS
    (try simp only [Act.put, List.setIfInBounds_toArray, List.set_cons_zero, List.set_cons_succ])
    refine wpAnyH_ready (rs := [4]) (by kernel_rfl) (by simp) ?_
    refine AllReadyH.cons rfl (fun K hK => ?_) AllReadyH.nil
    go_simp
    go_wp2_with fail
    refine hK.out _ _ s1.out (fun hS => ?_)
    clear hK K hS
    (try simp only [Act.put, List.setIfInBounds_toArray, List.set_cons_zero, List.set_cons_succ])
    refine wpAnyH_ready (rs := [10]) (by kernel_rfl) (by simp) ?_
    refine AllReadyH.cons rfl (fun K hK => ?_) AllReadyH.nil
    refine wp_run 34 (.tmp 28) (.tmp 33) rfl rfl rfl rfl rfl HR3.out ?_
    refine hK.out _ _ s3.out (fun hS => ?_)
    clear hK K
    (try simp only [Act.put, List.setIfInBounds_toArray, List.set_cons_zero, List.set_cons_succ])
    refine take_at 11 (some 35) (v := ?_) rfl rfl (by kernel_rfl) (by kernel_rfl) (by kernel_rfl) (fun _ _ _ h => h) ⟨by rfl, ?_⟩ hS ?_
    rotate_left
    · intro wq hSw; go_simp; try rfl
    simp only [Act.put, List.setIfInBounds_toArray, List.set_cons_zero, List.set_cons_succ]
    refine take_at 12 (some 36) (v := ?_) rfl rfl (by kernel_rfl) (by kernel_rfl) (by kernel_rfl) (fun _ _ _ h => h) ⟨by rfl, ?_⟩ hS ?_
    rotate_left
    · intro wq hSw; go_simp; try rfl
    simp only [Act.put, List.setIfInBounds_toArray, List.set_cons_zero, List.set_cons_succ]
    clear hS
    refine wpAnyH_ready (rs := [13]) (by kernel_rfl) (by simp) ?_
    refine AllReadyH.cons rfl (fun K hK => ?_) AllReadyH.nil
    go_simp
    go_wp2_with fail
    refine hK.out _ _ s4.out (fun hS => ?_)
    clear hK K hS
    (try simp only [Act.put])
    refine wpAnyH_done (by kernel_rfl) ?_ _
    clear cz0 cz1 f2c f2f s1 s3 s4 RD HR3
    go_upto_region 6 with fail
    refine named (P := Code.wp _ _ _ _) ?_
    intro x5 hx5
    rw [← hx5] at FIN FBL CF
    obtain ⟨k3, -⟩ := FIN.out.cl.get 3 _ rfl
    clear hx5
    have BB := hide ((B2.out.mono HBW.out).trans (((D0.out).mono (Nat.le_trans HBW.out B2.out.size)).trans FBL.out))
    have FQ := hide (show PQ x5 B b (.slice ta cs.length tc) (.slice (some ⟨a3, 0, none⟩) (gs ++ [(⟨G, 0⟩ : Grp)]).length c3) ⟨num, lsn, cs, gs ++ [⟨G, 0⟩]⟩ from by rw [List.length_append]; exact FIN.out)
    have hlt : decide ((gs.length : Int) < ((gs.length + 1 : Nat) : Int)) = true := by simp; omega
    clear FIN FBL PD CD PQ2 CB2 RB2 B2 D0
    go_wp2_with (go_at_call 38; refine (KT _ _ _ _ FQ.out CF.out BB.out HBW.out).mono ?_; rintro e x6 ⟨rfl, h3, h4⟩; have H3 := hide h3; have H4 := hide h4; clear h3 h4 KT k3)
    exact bodyPost_ret (v := .int .i64 (fitE M)) (by simp [results, Try.results33, go_sem]) rfl ⟨rfl, H3.out, by rw [← HG.out]; exact H4.out⟩
end Go.Proofs.Ytoocbpbaieedmaa
