import Derived.Test.YtoocbpbaieedmaaAp24
namespace Go.Proofs.Ytoocbpbaieedmaa
open Go.RowKit Go.QK Quota
set_option maxRecDepth 100000
set_option maxHeartbeats 8000000 in
theorem cn_old (B : Nat) (v1 v2 : Value) (p : Pg) (r : Rc) (w : World) (g1 : GRow w B 32 5 v1 p.cs.length (rowsC ctrC p.cs)) (g2 : GRow w B 69 2 v2 p.gs.length (rowsC grpC p.gs)) (ap : ∀ g, v1.ownBlock = some g → v2.ownBlock ≠ some g) (hB : B ≤ w.heap.size) (hf : p.Fit) (h0 : p.gs.length = 0) (hk : ¬ r.k = 2) (hc : chg r.k = true) (hr : r.Fit) (hw : ¬ r.wi < 0) (hx : r.wi < p.cs.length) (hid : (ctrAt p.cs r.wi).id = r.c.id) : Calls Try.prog 35 #[.agg (pgA p.num p.lsn v1 v2), recV r] w (CntPost w B v1 v2 (fitE (mv r (ctrAt p.cs r.wi).val)) (⟨p.num, p.lsn, putV p.cs r.wi (mv r (ctrAt p.cs r.wi).val), p.gs⟩)) := by
  obtain ⟨E, hE⟩ : ∃ E : Int, E = fitE (mv r (ctrAt p.cs r.wi).val) := ⟨_, rfl⟩
  rw [← hE]
  unfold CntPost
  have HE := hide hE
  clear hE
  obtain ⟨num, lsn, cs, gs⟩ := p
  obtain ⟨i, hwi⟩ : ∃ i : Nat, r.wi = (i : Int) := ⟨r.wi.toNat, by omega⟩
  have hil : i < cs.length := by simp only at hx; omega
  have hwb : decide ((i : Int) < 0) = false := decide_eq_false (by omega)
  have hxb : decide ((cs.length : Int) ≤ (i : Int)) = false := decide_eq_false (by omega)
  have hlb : decide ((i : Int) < (cs.length : Int)) = true := decide_eq_true (by omega)
  have h0b : decide (0 < gs.length) = false := decide_eq_false (by simp only at h0; omega)
  have hkb : (r.k == 2) = false := by simpa using hk
  have hid2 : (cs[i].id != r.c.id) = false := by rw [hwi, ctrAt_nat cs i hil] at hid; simpa using hid
  obtain ⟨RA, hRA⟩ : ∃ RA, RA = recA r := ⟨_, rfl⟩
  have SR := hide (show RA.size = 17 by rw [hRA]; rfl)
  have CL := hide (show ∀ (x : World) (n : Nat), RBox x n 38 RA → x.cell? ⟨n, 5, none⟩ = some (.int .i64 (i : Int)) ∧ x.cell? ⟨n, 1, none⟩ = some (.int .i64 r.k) ∧ x.cell? ⟨n, 9, none⟩ = some (.int .i64 r.c.id) from fun x n q => by subst hRA; rw [← hwi]; exact ⟨(q.cells.get 5 _ rfl).1, (q.cells.get 1 _ rfl).1, (q.cells.get 9 _ rfl).1⟩)
  have hv : I64 cs[i].val := hf.c _ (List.getElem_mem hil)
  have KM := fun w' => moved_any r cs[i].val w' hr hv
  rw [mv_ref hc] at KM
  simp only [recV] at KM
  rw [← hRA] at KM
  obtain ⟨M, hM⟩ : ∃ M, M = mv r cs[i].val := ⟨_, rfl⟩
  rw [← hM] at KM
  have HE2 := hide (show E = fitE M by rw [HE.out, hwi, hM]; simp only [ctrAt_nat cs i hil])
  have HPE := hide (show (⟨num, lsn, putV cs r.wi (mv r (ctrAt cs r.wi).val), gs⟩ : Pg) = ⟨num, lsn, putV cs (i : Int) M, gs⟩ by rw [hwi, hM, ctrAt_nat cs i hil])
  clear hk hw h0 hx hid hc hr hM hv HE
  show Calls Try.prog 35 #[.agg (pgA num lsn v1 v2), .agg (recA r)] w _
  obtain ⟨ta, tc, e1, -⟩ := GRow.lies g1
  obtain ⟨tb, td, e2, -⟩ := GRow.lies g2
  subst e1 e2
  obtain ⟨g, cx, ex⟩ := grow_form g1 (show 0 < cs.length by omega)
  simp only [Value.slice.injEq] at ex
  obtain ⟨rfl, -, rfl⟩ := ex
  rw [← hRA]
  have G1 := hide g1
  have G2 := hide g2
  have AP := hide ap
  have HB := hide hB
  clear g1 g2 ap hB hRA
  try dsimp only at hf
  go_enter Try.func35, Try.ntmps35
  go_upto_region 1 with fail
  refine named (P := Code.wp _ _ _ _) ?_
  intro w1 hw1
  obtain ⟨N, hN⟩ : ∃ N, N = w.heap.size := ⟨_, rfl⟩
  have b1 : Below w.heap.size w w1 := by rw [hw1]; exact bnext (bnext (alloc_below _ _) (alloc_below _ _) (Nat.le_refl _)) (alloc_below _ _) (Nat.le_refl _)
  have PQ1 := hide (show PQ w1 B N (.slice (some ⟨g, 0, none⟩) cs.length tc) (.slice tb gs.length td) ⟨num, lsn, cs, gs⟩ from ⟨by rw [hw1, hN]; exact ((Cells.new w (pgA num lsn (.slice (some ⟨g, 0, none⟩) cs.length tc) (.slice tb gs.length td)) 25).below (alloc_below _ _)).below (alloc_below _ _), GRow.below G1.out b1, GRow.below G2.out b1, AP.out, fun q => by have := (World.ownsRow.lt G1.out _ q).2; omega, fun q => by have := (World.ownsRow.lt G2.out _ q).2; omega, by have := HB.out; omega⟩)
  have RB1 := hide (show RBox w1 (N + 1) 38 RA by
    rw [hw1, hN]
    have q := RBox.new (w.alloc (.cells (pgA num lsn (.slice (some ⟨g, 0, none⟩) cs.length tc) (.slice tb gs.length td)) 25)) RA 38
    rw [World.size_alloc] at q
    exact q.below (alloc_below _ _))
  have D1 := hide (show Cells w1 (N + 2) [.int .i64 0, .int .i64 0, .slice none 0 0, .slice none 0 0] by
    rw [hw1, hN]
    have q := Cells.new ((w.alloc (.cells (pgA num lsn (.slice (some ⟨g, 0, none⟩) cs.length tc) (.slice tb gs.length td)) 25)).alloc (.cells RA 38)) #[.int .i64 0, .int .i64 0, .slice none 0 0, .slice none 0 0] 25
    rw [World.size_alloc, World.size_alloc] at q
    exact q)
  have LT := hide (show ∀ gz, ((Value.slice (some ⟨g, 0, none⟩) cs.length tc).ownBlock = some gz ∨ (Value.slice tb gs.length td).ownBlock = some gz) → gz < N from fun gz q => by rcases q with q | q; exact hN ▸ (World.ownsRow.lt G1.out gz q).2; exact hN ▸ (World.ownsRow.lt G2.out gz q).2)
  have B1 := hide b1
  have HN := hide hN
  have IN1 := hide (show PIn w1 ⟨num, lsn, cs, gs⟩ ⟨some ⟨g, 0, none⟩, tc, tb, td⟩ from by obtain ⟨t, h1, h2, h3⟩ := PQ1.out.in_; obtain ⟨xa, xc, xb, xd⟩ := t; simp only [Value.slice.injEq] at h1 h2; obtain ⟨rfl, -, rfl⟩ := h1; obtain ⟨rfl, -, rfl⟩ := h2; exact h3)
  rw [← hN]
  clear hN hw1 b1 G1 G2
  obtain ⟨c5, c1, c9⟩ := CL.out _ _ RB1.out
  obtain ⟨f2, -⟩ := PQ1.out.cl.get 2 _ rfl
  obtain ⟨f3, -⟩ := PQ1.out.cl.get 3 _ rfl
  have CV := hide (show ∀ x, PQ x B N (.slice (some ⟨g, 0, none⟩) cs.length tc) (.slice tb gs.length td) ⟨num, lsn, cs, gs⟩ → x.cell? ⟨g, i * 5 + 4, none⟩ = some (.int .i64 cs[i].val) ∧ x.frozen? ⟨g, i * 5 + 4, none⟩ = false ∧ g < x.heap.size from fun x q => by
    obtain ⟨a, c', e, l, -⟩ := GRow.lies q.g1
    cases e
    exact ⟨ctr_cells rfl l i hil, World.ownsRow.frozenAt q.g1 _, (World.ownsRow.lt q.g1 g rfl).2⟩)
  obtain ⟨lb, lo_, el, q0, -⟩ := crow_at IN1.out.lc (Below.refl _ _) hil
  dsimp only at el
  cases el
  rw [Nat.zero_add] at q0
  obtain ⟨val, hval⟩ : ∃ v, v = cs[i].val := ⟨_, rfl⟩
  rw [← hval] at CV KM
  obtain ⟨idv, hidv⟩ : ∃ v, v = cs[i].id := ⟨_, rfl⟩
  rw [← hidv] at q0 hid2
  clear hval hidv hwi
  go_upto_region 12 with (go_quiet (fail))
  refine named (P := Code.wp _ _ _ _) ?_
  intro w2 hw2
  have b2 : Below w1.heap.size w1 w2 := by first | (rw [hw2]; exact bel (Below.refl _ _)) | (rw [hw2]; exact Below.refl _ _)
  have PQ2 := hide (PQ1.out.below b2)
  have RB2 := hide (RB1.out.below b2)
  have D2 := hide (D1.out.below b2)
  have B2 := hide (B1.out.trans (b2.mono B1.out.size))
  have IN2 := hide (IN1.out.below b2)
  clear hw2 b2 f2 f3 c5 c1 c9 q0 PQ1 RB1 D1 B1 IN1
  refine wp_region_held_drew (S := fun wq => Below w2.heap.size w2 wq) (by kernel_rfl) (Below.refl _ _).drew (fun hS => ?_)
  refine take_at 0 (some 61) (v := ?_) rfl rfl (by kernel_rfl) (by kernel_rfl) (by kernel_rfl) (fun _ _ _ h => h) ⟨by rfl, ?_⟩ hS ?_
  rotate_left
  · intro wq hSw; go_simp; try rfl
  simp only [Act.put, List.setIfInBounds_toArray, List.set_cons_zero, List.set_cons_succ]
  refine take_at 1 (some 62) (v := ?_) rfl rfl (by kernel_rfl) (by kernel_rfl) (by kernel_rfl) (fun _ _ _ h => h) ⟨by rfl, ?_⟩ hS ?_
  rotate_left
  · intro wq hSw; obtain ⟨q2, _⟩ := (PQ2.out.cl.below hSw).get 2 _ rfl; go_simp; try rfl
  simp only [Act.put, List.setIfInBounds_toArray, List.set_cons_zero, List.set_cons_succ]
  refine take_at 2 (some 63) (v := ?_) rfl rfl (by kernel_rfl) (by kernel_rfl) (by kernel_rfl) (fun _ _ _ h => h) ⟨by rfl, ?_⟩ hS ?_
  rotate_left
  · intro wq hSw; go_simp; try rfl
  simp only [Act.put, List.setIfInBounds_toArray, List.set_cons_zero, List.set_cons_succ]
  refine take_at 3 (some 64) (v := ?_) rfl rfl (by kernel_rfl) (by kernel_rfl) (by kernel_rfl) (fun _ _ _ h => h) ⟨by rfl, ?_⟩ hS ?_
  rotate_left
  · intro wq hSw; go_simp; try rfl
  simp only [Act.put, List.setIfInBounds_toArray, List.set_cons_zero, List.set_cons_succ]
  refine take_at 4 (some 65) (v := ?_) rfl rfl (by kernel_rfl) (by kernel_rfl) (by kernel_rfl) (fun _ _ _ h => h) ⟨by rfl, ?_⟩ hS ?_
  rotate_left
  · intro wq hSw; go_simp; try rfl
  simp only [Act.put, List.setIfInBounds_toArray, List.set_cons_zero, List.set_cons_succ]
  refine take_at 5 (some 66) (v := ?_) rfl rfl (by kernel_rfl) (by kernel_rfl) (by kernel_rfl) (fun _ _ _ h => h) ⟨by rfl, ?_⟩ hS ?_
  rotate_left
  · intro wq hSw; have qv := (CV.out _ (PQ2.out.below hSw)).1; go_simp; try rfl
  simp only [Act.put, List.setIfInBounds_toArray, List.set_cons_zero, List.set_cons_succ]
  refine take_at 6 (some 67) (v := .agg RA) rfl rfl (by kernel_rfl) (by kernel_rfl) (by kernel_rfl) (fun _ _ _ h => h) ⟨by rfl, fun wq hSw => exec_load38 rfl rfl (rb_at (RB2.out.below hSw)) SR.out⟩ hS ?_
  simp only [Act.put, List.setIfInBounds_toArray, List.set_cons_zero, List.set_cons_succ]
  refine wpAnyH_ready (rs := [7]) (by kernel_rfl) (by simp) ?_
  refine AllReadyH.cons rfl (fun K hK => ?_) AllReadyH.nil
  go_simp
  go_wp2_with fail
  refine (KM _).mono ?_
  rintro e x1 ⟨rfl, hh⟩
  have s_x1 : Below w2.heap.size w2 x1 := hS.trans (hh.mono hS.size)
  clear hh hS
  go_wp2_with fail
  refine hK.out _ _ s_x1 (fun hS => ?_)
  clear hK K s_x1
  (try simp only [Act.put, List.setIfInBounds_toArray, List.set_cons_zero, List.set_cons_succ])
  refine take_at 8 (some 60) (v := ?_) rfl rfl (by kernel_rfl) (by kernel_rfl) (by kernel_rfl) (fun _ _ _ h => h) ⟨by rfl, ?_⟩ hS ?_
  rotate_left
  · intro wq hSw; go_simp; try rfl
  simp only [Act.put, List.setIfInBounds_toArray, List.set_cons_zero, List.set_cons_succ]
  refine take_at 9 (some 69) (v := ?_) rfl rfl (by kernel_rfl) (by kernel_rfl) (by kernel_rfl) (fun _ _ _ h => h) ⟨by rfl, ?_⟩ hS ?_
  rotate_left
  · intro wq hSw; go_simp; try rfl
  simp only [Act.put, List.setIfInBounds_toArray, List.set_cons_zero, List.set_cons_succ]
  refine take_at 10 (some 70) (v := ?_) rfl rfl (by kernel_rfl) (by kernel_rfl) (by kernel_rfl) (fun _ _ _ h => h) ⟨by rfl, ?_⟩ hS ?_
  rotate_left
  · intro wq hSw; go_simp; try rfl
  simp only [Act.put, List.setIfInBounds_toArray, List.set_cons_zero, List.set_cons_succ]
  refine take_at 11 (some 8) (v := ?_) rfl rfl (by kernel_rfl) (by kernel_rfl) (by kernel_rfl) (fun _ _ _ h => h) ⟨by rfl, ?_⟩ hS ?_
  rotate_left
  · intro wq hSw; go_simp; try rfl
  simp only [Act.put, List.setIfInBounds_toArray, List.set_cons_zero, List.set_cons_succ]
  refine take_at 12 (some 9) (v := ?_) rfl rfl (by kernel_rfl) (by kernel_rfl) (by kernel_rfl) (fun _ _ _ h => h) ⟨by rfl, ?_⟩ hS ?_
  rotate_left
  · intro wq hSw; go_simp; try rfl
  simp only [Act.put, List.setIfInBounds_toArray, List.set_cons_zero, List.set_cons_succ]
  have S3 := hide hS
  clear hS
  refine wpAnyH_done (by kernel_rfl) ?_ _
  have PQ3 := hide (PQ2.out.below S3.out)
  have D3 := hide (D2.out.below S3.out)
  have B3 := hide (B2.out.trans (S3.out.mono B2.out.size))
  obtain ⟨f2, -⟩ := PQ3.out.cl.get 2 _ rfl
  obtain ⟨z1, z2, z3⟩ := CV.out _ PQ3.out
  clear PQ2 RB2 D2 B2 IN2 S3 KM
  go_upto_region 14 with fail
  refine named (P := Code.wp _ _ _ _) ?_
  intro w4 hw4
  obtain ⟨q1, q2⟩ := PQ.stV (p := ⟨num, lsn, cs, gs⟩) (i := i) PQ3.out hil (fitV M)
  have PQ4 := hide (show PQ w4 B N _ _ ⟨num, lsn, putV cs (i : Int) (fitV M), gs⟩ by rw [hw4]; exact q1)
  have F4 := hide (show Below B x1 w4 by rw [hw4]; exact q2)
  have KX := hide (show Keep (fun z => z = g) x1 w4 by rw [hw4]; exact (Keep.refl (fun z => z = g) x1).setCell (fun _ => rfl) _)
  have D4 := hide (show Cells w4 (N + 2) [.int .i64 0, .int .i64 0, .slice none 0 0, .slice none 0 0] by rw [hw4]; exact D3.out.keep ((Keep.refl (fun k => k = g) x1).setCell (g := g) (j := i * 5 + 4) (fun _ => rfl) _) (by have := LT.out g (.inl rfl); omega))
  clear hw4 q1 q2 f2 z1 z2 z3 D3 PQ3
  obtain ⟨m0, -⟩ := PQ4.out.cl.get 0 _ rfl
  obtain ⟨m1, -⟩ := PQ4.out.cl.get 1 _ rfl
  obtain ⟨m2, -⟩ := PQ4.out.cl.get 2 _ rfl
  obtain ⟨m3, -⟩ := PQ4.out.cl.get 3 _ rfl
  have K8 := ((((Keep.refl (fun i => i = N + 2) w4).setCell (g := N + 2) (j := 0) (fun _ => rfl) (.int .i64 num)).setCell (g := N + 2) (j := 1) (fun _ => rfl) (.int .i64 lsn)).setCell (g := N + 2) (j := 2) (fun _ => rfl) (.slice (some ⟨g, 0, none⟩) cs.length tc)).setCell (g := N + 2) (j := 3) (fun _ => rfl) (.slice tb gs.length td)
  have C8 := (((D4.out.stored (j := 0) (by simp) (.int .i64 num)).stored (j := 1) (by simp) (.int .i64 lsn)).stored (j := 2) (by simp) (.slice (some ⟨g, 0, none⟩) cs.length tc)).stored (j := 3) (by simp) (.slice tb gs.length td)
  obtain ⟨y0, z0⟩ := D4.out.get 0 _ rfl
  obtain ⟨y1, z1⟩ := D4.out.get 1 _ rfl
  obtain ⟨y2, z2⟩ := D4.out.get 2 _ rfl
  obtain ⟨y3, z3⟩ := D4.out.get 3 _ rfl
  have HK8 := hide K8
  have HC8 := hide C8
  clear K8 C8
  obtain ⟨k0, _⟩ := HC8.out.get 0 _ rfl
  obtain ⟨k1, _⟩ := HC8.out.get 1 _ rfl
  obtain ⟨k2, _⟩ := HC8.out.get 2 _ rfl
  obtain ⟨k3, _⟩ := HC8.out.get 3 _ rfl
  go_wp2_with fail
  refine bodyPost_ret (v := .tuple #[.agg #[.int .i64 num, .int .i64 lsn, .slice (some ⟨g, 0, none⟩) cs.length tc, .slice tb gs.length td], .int .i64 (fitE M)]) (by simp only [results, Try.results35]; simp [go_sem, k0, k1, k2, k3]) rfl ?_
  have bf := ((B3.out.mono HB.out).trans F4.out).trans (HK8.out.below (Nat.le_trans HB.out (Nat.le_trans B3.out.size F4.out.size)) (fun i hi q => by have := HN.out; have := HB.out; omega))
  have qf := PQ4.out.keep HK8.out (by omega) (fun k hk q => by have := LT.out k (.inl hk); omega) (fun k hk q => by have := LT.out k (.inr hk); omega)
  have kf : Keep (fun z => (Value.slice (some ⟨g, 0, none⟩) cs.length tc).ownBlock = some z ∨ (Value.slice tb gs.length td).ownBlock = some z) w _ := ((Keep.of_below B3.out).trans KX.out (fun j hj q => .inl (by rw [q]; rfl))).trans HK8.out (fun j hj q => by have := HN.out; omega)
  exact ⟨_, _, _, _, _, _, _, _, by rw [HE2.out], ⟨bf, kf⟩, fun q => by have e := fitE_zero.1 (HE2.out ▸ q); have o := qf.out; rw [(fit_yes e).1] at o; rw [HPE.out]; simpa [putV] using o⟩
theorem counted_any (B : Nat) (v1 v2 : Value) (p : Pg) (r : Rc) (w : World) (g1 : GRow w B 32 5 v1 p.cs.length (rowsC ctrC p.cs)) (g2 : GRow w B 69 2 v2 p.gs.length (rowsC grpC p.gs)) (ap : ∀ g, v1.ownBlock = some g → v2.ownBlock ≠ some g) (hB : B ≤ w.heap.size) (hf : p.Fit) (hc : chg r.k = true) (hr : r.Fit) : Calls Try.prog 35 #[.agg (pgA p.num p.lsn v1 v2), recV r] w (CntPost w B v1 v2 (ctrE p r) (ctrP p r)) := by
  have no : ∀ {e w'}, ¬ isC p r → CntPost w B v1 v2 83 p e w' → CntPost w B v1 v2 (ctrE p r) (ctrP p r) e w' := by
    intro e w' hi h
    have e1 : ctrE p r = 83 := by unfold ctrE; rw [if_neg hi]
    obtain ⟨n, l, a1, k1, c1, a2, k2, c2, h1, h2, -⟩ := h
    exact ⟨n, l, a1, k1, c1, a2, k2, c2, by rw [e1]; exact h1, h2, fun q => by rw [e1] at q; cases q⟩
  by_cases h0 : p.gs.length = 0
  · by_cases hk : r.k = 2
    · by_cases hw : r.wi = p.cs.length
      · by_cases hx : p.cs.length < 31
        · have hi : isC p r := ⟨h0, by rw [if_pos hk]; exact ⟨hw, hx⟩⟩
          have e1 : ctrE p r = 0 := by unfold ctrE; rw [if_pos hi, if_pos hk]
          have e2 : ctrP p r = ⟨p.num, p.lsn, p.cs ++ [r.c], p.gs⟩ := by unfold ctrP; rw [if_pos hk]
          rw [e1, e2]
          exact cn_push B v1 v2 p r w g1 g2 ap hB hf h0 hk hw hx
        · exact (cn_new2 B v1 v2 p r w g1 g2 ap hB hf h0 hk hw hx).mono (fun e w' h => no (fun q => by have := q.2; rw [if_pos hk] at this; exact hx this.2) h)
      · exact (cn_new1 B v1 v2 p r w g1 g2 ap hB hf h0 hk hw).mono (fun e w' h => no (fun q => by have := q.2; rw [if_pos hk] at this; exact hw this.1) h)
    · by_cases hw : r.wi < 0
      · exact (cn_d1 B v1 v2 p r w g1 g2 ap hB hf h0 hk hw).mono (fun e w' h => no (fun q => by have := q.2; rw [if_neg hk] at this; omega) h)
      · by_cases hx : r.wi < p.cs.length
        · by_cases hid : (ctrAt p.cs r.wi).id = r.c.id
          · have hi : isC p r := ⟨h0, by rw [if_neg hk]; exact ⟨by omega, hx, hid⟩⟩
            have e1 : ctrE p r = fitE (mv r (ctrAt p.cs r.wi).val) := by unfold ctrE; rw [if_pos hi, if_neg hk]
            have e2 : ctrP p r = ⟨p.num, p.lsn, putV p.cs r.wi (mv r (ctrAt p.cs r.wi).val), p.gs⟩ := by unfold ctrP; rw [if_neg hk]
            rw [e1, e2]
            exact cn_old B v1 v2 p r w g1 g2 ap hB hf h0 hk hc hr hw hx hid
          · exact (cn_d3 B v1 v2 p r w g1 g2 ap hB hf h0 hk hw hx hid).mono (fun e w' h => no (fun q => by have := q.2; rw [if_neg hk] at this; exact hid this.2.2) h)
        · exact (cn_d2 B v1 v2 p r w g1 g2 ap hB hf h0 hk hw (by omega)).mono (fun e w' h => no (fun q => by have := q.2; rw [if_neg hk] at this; exact hx this.2.1) h)
  · exact (cn_gs B v1 v2 p r w g1 g2 ap hB hf (by omega)).mono (fun e w' h => no (fun q => h0 q.1) h)
end Go.Proofs.Ytoocbpbaieedmaa
