import Derived.Test.YtoocbpbaieedmaaAp26
namespace Go.Proofs.Ytoocbpbaieedmaa
open Go.RowKit Go.QK Quota
set_option maxRecDepth 100000
set_option maxHeartbeats 8000000 in
theorem sm_new (B : Nat) (v1 v2 : Value) (p : Pg) (r : Rc) (w : World) (g1 : GRow w B 32 5 v1 p.cs.length (rowsC ctrC p.cs)) (g2 : GRow w B 69 2 v2 p.gs.length (rowsC grpC p.gs)) (ap : ∀ g, v1.ownBlock = some g → v2.ownBlock ≠ some g) (hB : B ≤ w.heap.size) (hf : p.Fit) (h0 : p.cs.length = 0) (he : r.si = p.gs.length) (hk : r.k = 2) (hx : p.gs.length < 84) (hc : chg r.k = true) (hr : r.Fit) : Calls Try.prog 36 #[.agg (pgA p.num p.lsn v1 v2), recV r] w (CntPost w B v1 v2 (fitE (mv r 0)) (⟨p.num, p.lsn, p.cs, putS (p.gs ++ [⟨r.c.grp, 0⟩]) r.si (mv r 0)⟩)) := by
  obtain ⟨E, hE⟩ : ∃ E : Int, E = fitE (mv r 0) := ⟨_, rfl⟩
  rw [← hE]
  unfold CntPost
  have HE := hide hE
  clear hE
  obtain ⟨num, lsn, cs, gs⟩ := p
  have h0b : decide (0 < cs.length) = false := decide_eq_false (by simp only at h0; omega)
  have hee : r.si = (gs.length : Int) := he
  have hnb : decide ((gs.length : Int) < 0) = false := decide_eq_false (by omega)
  have hgb : decide ((gs.length : Int) < (gs.length : Int)) = false := decide_eq_false (by omega)
  have heb : ((gs.length : Int) == (gs.length : Int)) = true := by simp
  have hkb : (r.k != 2) = false := by simpa using hk
  have hkb2 : (r.k == 2) = true := by simpa using hk
  have hxb : decide ((84 : Int) ≤ (gs.length : Int)) = false := decide_eq_false (by simp only at hx; omega)
  obtain ⟨RA, hRA⟩ : ∃ RA, RA = recA r := ⟨_, rfl⟩
  have SR := hide (show RA.size = 17 by rw [hRA]; rfl)
  have CL := hide (show ∀ (x : World) (n : Nat), RBox x n 38 RA → x.cell? ⟨n, 7, none⟩ = some (.int .i64 (gs.length : Int)) ∧ x.cell? ⟨n, 1, none⟩ = some (.int .i64 r.k) ∧ x.cell? ⟨n, 10, none⟩ = some (.int .i64 r.c.grp) from fun x n q => by subst hRA; rw [← hee]; exact ⟨(q.cells.get 7 _ rfl).1, (q.cells.get 1 _ rfl).1, (q.cells.get 10 _ rfl).1⟩)
  have KM := fun w' => moved_any r 0 w' hr (by unfold I64; omega)
  rw [mv_ref hc] at KM
  simp only [recV] at KM
  rw [← hRA] at KM
  obtain ⟨M, hM⟩ : ∃ M, M = mv r 0 := ⟨_, rfl⟩
  rw [← hM] at KM
  have HE2 := hide (show E = fitE M by rw [HE.out, hM])
  have HPE := hide (show (⟨num, lsn, cs, putS (gs ++ [⟨r.c.grp, 0⟩]) r.si (mv r 0)⟩ : Pg) = ⟨num, lsn, cs, putS (gs ++ [⟨r.c.grp, 0⟩]) ((gs.length : Nat) : Int) M⟩ by rw [hee, hM])
  have HX := hide hx
  clear hk h0 hc hr hM HE he hx
  show Calls Try.prog 36 #[.agg (pgA num lsn v1 v2), .agg (recA r)] w _
  obtain ⟨ta, tc, e1, -⟩ := GRow.lies g1
  obtain ⟨tb, td, e2, -⟩ := GRow.lies g2
  subst e1 e2
  rw [← hRA]
  have G1 := hide g1
  have G2 := hide g2
  have AP := hide ap
  have HB := hide hB
  clear g1 g2 ap hB hRA
  try dsimp only at hf
  go_enter Try.func36, Try.ntmps36
  go_upto_region 1 with fail
  refine named (P := Code.wp _ _ _ _) ?_
  intro w1 hw1
  obtain ⟨N, hN⟩ : ∃ N, N = w.heap.size := ⟨_, rfl⟩
  have b1 : Below w.heap.size w w1 := by rw [hw1]; exact bnext (bnext (alloc_below _ _) (alloc_below _ _) (Nat.le_refl _)) (alloc_below _ _) (Nat.le_refl _)
  have PQ1 := hide (show PQ w1 B N (.slice ta cs.length tc) (.slice tb gs.length td) ⟨num, lsn, cs, gs⟩ from ⟨by rw [hw1, hN]; exact ((Cells.new w (pgA num lsn (.slice ta cs.length tc) (.slice tb gs.length td)) 25).below (alloc_below _ _)).below (alloc_below _ _), GRow.below G1.out b1, GRow.below G2.out b1, AP.out, fun q => by have := (World.ownsRow.lt G1.out _ q).2; omega, fun q => by have := (World.ownsRow.lt G2.out _ q).2; omega, by have := HB.out; omega⟩)
  have RB1 := hide (show RBox w1 (N + 1) 38 RA by
    rw [hw1, hN]
    have q := RBox.new (w.alloc (.cells (pgA num lsn (.slice ta cs.length tc) (.slice tb gs.length td)) 25)) RA 38
    rw [World.size_alloc] at q
    exact q.below (alloc_below _ _))
  have D1 := hide (show Cells w1 (N + 2) [.int .i64 0, .int .i64 0, .slice none 0 0, .slice none 0 0] by
    rw [hw1, hN]
    have q := Cells.new ((w.alloc (.cells (pgA num lsn (.slice ta cs.length tc) (.slice tb gs.length td)) 25)).alloc (.cells RA 38)) #[.int .i64 0, .int .i64 0, .slice none 0 0, .slice none 0 0] 25
    rw [World.size_alloc, World.size_alloc] at q
    exact q)
  have LT := hide (show ∀ gz, ((Value.slice ta cs.length tc).ownBlock = some gz ∨ (Value.slice tb gs.length td).ownBlock = some gz) → gz < N from fun gz q => by rcases q with q | q; exact hN ▸ (World.ownsRow.lt G1.out gz q).2; exact hN ▸ (World.ownsRow.lt G2.out gz q).2)
  have B1 := hide b1
  have HN := hide hN
  have IN1 := hide (show PIn w1 ⟨num, lsn, cs, gs⟩ ⟨ta, tc, tb, td⟩ from by obtain ⟨t, h1, h2, h3⟩ := PQ1.out.in_; obtain ⟨xa, xc, xb, xd⟩ := t; simp only [Value.slice.injEq] at h1 h2; obtain ⟨rfl, -, rfl⟩ := h1; obtain ⟨rfl, -, rfl⟩ := h2; exact h3)
  rw [← hN]
  clear hN hw1 b1 G1 G2
  obtain ⟨c7, c1, c10⟩ := CL.out _ _ RB1.out
  obtain ⟨f2, -⟩ := PQ1.out.cl.get 2 _ rfl
  obtain ⟨f3, -⟩ := PQ1.out.cl.get 3 _ rfl
  go_upto_region 6 with fail
  refine named (P := Code.wp _ _ _ _) ?_
  intro w2 hw2
  have b2 : Below w1.heap.size w1 w2 := by first | (rw [hw2]; exact bel (Below.refl _ _)) | (rw [hw2]; exact Below.refl _ _)
  have PQ2 := hide (PQ1.out.below b2)
  have RB2 := hide (RB1.out.below b2)
  have D2 := hide (D1.out.below b2)
  have B2 := hide (B1.out.trans (b2.mono B1.out.size))
  have IN2 := hide (IN1.out.below b2)
  clear hw2 b2 f2 f3 c7 c1 c10 PQ1 RB1 D1 B1 IN1
  obtain ⟨gi, hgi⟩ : ∃ gi, gi = r.c.grp := ⟨_, rfl⟩
  rw [← hgi] at CL
  have HGI := hide hgi
  clear hgi hee
  have al := alloc_below w2 (.cells (grpC ⟨gi, 0⟩).toArray 69)
  obtain ⟨v3, x3, hr3, hO, hg3, hn3⟩ := run_pushR Try.underlying23 info69 rfl (by decide) (by decide) 23 (w2.alloc (.cells (grpC ⟨gi, 0⟩).toArray 69)) B (.slice tb gs.length td) gs.length (rowsC grpC gs) (GRow.below PQ2.out.g2 al) ⟨w2.heap.size, 0, none⟩ 1 1 (grpC ⟨gi, 0⟩) rfl (lies_new w2 _ 69) (by intro u hu; simp [grpC] at hu; rcases hu with rfl | rfl <;> rfl) (by have := HX.out; simp only at this; omega) (by have := PQ2.out.hB; have := PQ2.out.lt; simp; omega)
  obtain ⟨fin, fbl⟩ := PQ.pushG (c := ⟨gi, 0⟩) PQ2.out al hO hg3 hn3
  have kg : Keep (fun z => (Value.slice tb gs.length td).ownBlock = some z) _ _ := (Keep.refl (fun z => (Value.slice tb gs.length td).ownBlock = some z) (w2.alloc (.cells (grpC ⟨gi, 0⟩).toArray 69))).grown hg3 (fun _ e _ => e)
  have d3 := (D2.out.below al).keep kg (fun q => by have := LT.out _ (.inr q); omega)
  have KX0 := hide ((Keep.of_below (S := fun z => (Value.slice tb gs.length td).ownBlock = some z ∨ z = N) al).trans kg (fun _ _ q => .inl q))
  have rb3 := (RB2.out.below al).keep kg (fun q => by have := LT.out _ (.inr q); omega)
  obtain ⟨f3, -⟩ := PQ2.out.cl.get 3 _ rfl
  obtain ⟨f3b, -⟩ := (PQ2.out.cl.below al).get 3 _ rfl
  obtain ⟨f3c, f3f⟩ := ((PQ2.out.cl.below al).keep kg PQ2.out.b2).get 3 _ rfl
  obtain ⟨g3, c3, e3⟩ := grow_form hO (by omega)
  subst e3
  have NG := hide (show ¬ g3 = N + 2 from fun q => by rcases hn3 with e | e; have := LT.out g3 (.inr (by rw [← e]; rfl)); omega; cases e; have := D2.out.1; simp at q; omega)
  have NG3 := hide (show g3 < w.heap.size → (Value.slice tb gs.length td).ownBlock = some g3 from fun q => by rcases hn3 with e | e; rw [← e]; rfl; cases e; have := B2.out.size; simp at q; omega)
  have FIN := hide fin
  have FBL := hide fbl
  have HR3 := hide hr3
  have D3 := hide d3
  have RB3 := hide rb3
  obtain ⟨c7, c1, c10⟩ := CL.out _ _ RB2.out
  clear fin fbl hr3 d3 rb3 kg hO hg3 hn3 al
  go_upto_region 7 with (at_builtin; refine wpList_run rfl (.tmp _) (.tmp _) rfl rfl rfl HR3.out ?_)
  refine named (P := Code.wp _ _ _ _) ?_
  intro w4 hw4
  rw [← hw4] at FIN FBL
  have D4 := hide (show Cells w4 (N + 2) [.int .i64 0, .int .i64 0, .slice none 0 0, .slice none 0 0] by rw [hw4]; exact D3.out.keep ((Keep.refl (fun k => k = N) x3).setCell (g := N) (j := 3) (fun _ => rfl) _) (by omega))
  have RB4 := hide (show RBox w4 (N + 1) 38 RA by rw [hw4]; exact RB3.out.keep ((Keep.refl (fun k => k = N) x3).setCell (g := N) (j := 3) (fun _ => rfl) _) (by omega))
  have KX := hide (show Keep (fun z => (Value.slice tb gs.length td).ownBlock = some z ∨ z = N) w2 w4 by rw [hw4]; exact KX0.out.setCell (fun _ => .inr rfl) _)
  clear KX0
  clear hw4 f3 f3b f3c f3f c7 c1 c10 D2 D3 RB2 RB3 HR3 PQ2 IN2
  have PQ4 := FIN
  obtain ⟨G, hG⟩ : ∃ G, G = gs ++ [(⟨gi, 0⟩ : Grp)] := ⟨_, rfl⟩
  have hGl : G.length = gs.length + 1 := by rw [hG]; simp
  rw [← hG] at PQ4
  have HG := hide hG
  have hil : gs.length < G.length := by omega
  have e0 : G[gs.length] = ⟨gi, 0⟩ := by simp [hG]
  have CV := hide (show ∀ x, PQ x B N (.slice ta cs.length tc) (.slice (some ⟨g3, 0, none⟩) (gs.length + 1) c3) ⟨num, lsn, cs, G⟩ → x.cell? ⟨g3, gs.length * 2, none⟩ = some (.int .i64 gi) ∧ x.cell? ⟨g3, gs.length * 2 + 1, none⟩ = some (.int .i64 0) ∧ x.frozen? ⟨g3, gs.length * 2 + 1, none⟩ = false ∧ g3 < x.heap.size from fun x q => by
    have q2 := q.g2
    rw [← hGl] at q2
    dsimp only at q2
    obtain ⟨a, c', e, l, -⟩ := GRow.lies q2
    cases e
    have z1 := grp_cells rfl l gs.length hil
    obtain ⟨lb, lo_, el, z0, -⟩ := grow_at l (Below.refl _ _) hil
    cases el
    rw [e0] at z1 z0
    rw [Nat.zero_add] at z0
    exact ⟨z0, z1, World.ownsRow.frozenAt q2 _, (World.ownsRow.lt q2 g3 rfl).2⟩)
  clear hG FIN
  obtain ⟨m, hm⟩ : ∃ m, m = gs.length + 1 := ⟨_, rfl⟩
  rw [← hm] at PQ4 CV hGl ⊢
  have him : gs.length < m := by omega
  clear hm
  obtain ⟨c7, c1, c10⟩ := CL.out _ _ RB4.out
  obtain ⟨f3, -⟩ := PQ4.out.cl.get 3 _ rfl
  obtain ⟨q0, -, -, -⟩ := CV.out _ PQ4.out
  have hlt2 : decide ((gs.length : Int) < (m : Int)) = true := decide_eq_true (by omega)
  have HGL := hide hGl
  clear hGl e0
  go_upto_region 9 with (go_quiet (fail))
  refine named (P := Code.wp _ _ _ _) ?_
  intro w5 hw5
  have b5 : Below w4.heap.size w4 w5 := by first | (rw [hw5]; exact bel (Below.refl _ _)) | (rw [hw5]; exact Below.refl _ _)
  have PQ2 := hide (PQ4.out.below b5)
  have RB2 := hide (RB4.out.below b5)
  have D2 := hide (D4.out.below b5)
  have KX5 := hide (KX.out.then_below b5)
  clear KX
  have FB5 := hide (FBL.out.trans (b5.mono (Nat.le_trans HB.out (Nat.le_trans B2.out.size FBL.out.size))))
  clear hw5 b5 f3 c7 c1 c10 q0 PQ4 RB4 D4 FBL
  refine wp_region_held_drew (S := fun wq => Below w5.heap.size w5 wq) (by kernel_rfl) (Below.refl _ _).drew (fun hS => ?_)
  refine take_at 0 (some 73) (v := ?_) rfl rfl (by kernel_rfl) (by kernel_rfl) (by kernel_rfl) (fun _ _ _ h => h) ⟨by rfl, ?_⟩ hS ?_
  rotate_left
  · intro wq hSw; go_simp; try rfl
  simp only [Act.put, List.setIfInBounds_toArray, List.set_cons_zero, List.set_cons_succ]
  refine take_at 1 (some 74) (v := ?_) rfl rfl (by kernel_rfl) (by kernel_rfl) (by kernel_rfl) (fun _ _ _ h => h) ⟨by rfl, ?_⟩ hS ?_
  rotate_left
  · intro wq hSw; obtain ⟨q2, _⟩ := (PQ2.out.cl.below hSw).get 3 _ rfl; go_simp; try rfl
  simp only [Act.put, List.setIfInBounds_toArray, List.set_cons_zero, List.set_cons_succ]
  refine take_at 2 (some 75) (v := ?_) rfl rfl (by kernel_rfl) (by kernel_rfl) (by kernel_rfl) (fun _ _ _ h => h) ⟨by rfl, ?_⟩ hS ?_
  rotate_left
  · intro wq hSw; go_simp; try rfl
  simp only [Act.put, List.setIfInBounds_toArray, List.set_cons_zero, List.set_cons_succ]
  refine take_at 3 (some 76) (v := ?_) rfl rfl (by kernel_rfl) (by kernel_rfl) (by kernel_rfl) (fun _ _ _ h => h) ⟨by rfl, ?_⟩ hS ?_
  rotate_left
  · intro wq hSw; go_simp; try rfl
  simp only [Act.put, List.setIfInBounds_toArray, List.set_cons_zero, List.set_cons_succ]
  refine take_at 4 (some 77) (v := ?_) rfl rfl (by kernel_rfl) (by kernel_rfl) (by kernel_rfl) (fun _ _ _ h => h) ⟨by rfl, ?_⟩ hS ?_
  rotate_left
  · intro wq hSw; go_simp; try rfl
  simp only [Act.put, List.setIfInBounds_toArray, List.set_cons_zero, List.set_cons_succ]
  refine take_at 5 (some 78) (v := ?_) rfl rfl (by kernel_rfl) (by kernel_rfl) (by kernel_rfl) (fun _ _ _ h => h) ⟨by rfl, ?_⟩ hS ?_
  rotate_left
  · intro wq hSw; have qv := (CV.out _ (PQ2.out.below hSw)).2.1; go_simp; try rfl
  simp only [Act.put, List.setIfInBounds_toArray, List.set_cons_zero, List.set_cons_succ]
  refine take_at 6 (some 79) (v := .agg RA) rfl rfl (by kernel_rfl) (by kernel_rfl) (by kernel_rfl) (fun _ _ _ h => h) ⟨by rfl, fun wq hSw => exec_load38 rfl rfl (rb_at (RB2.out.below hSw)) SR.out⟩ hS ?_
  simp only [Act.put, List.setIfInBounds_toArray, List.set_cons_zero, List.set_cons_succ]
  refine wpAnyH_ready (rs := [7]) (by kernel_rfl) (by simp) ?_
  refine AllReadyH.cons rfl (fun K hK => ?_) AllReadyH.nil
  go_simp
  go_wp2_with fail
  refine (KM _).mono ?_
  rintro e x1 ⟨rfl, hh⟩
  have s_x1 : Below w5.heap.size w5 x1 := hS.trans (hh.mono hS.size)
  clear hh hS
  go_wp2_with fail
  refine hK.out _ _ s_x1 (fun hS => ?_)
  clear hK K s_x1
  (try simp only [Act.put, List.setIfInBounds_toArray, List.set_cons_zero, List.set_cons_succ])
  refine take_at 8 (some 72) (v := ?_) rfl rfl (by kernel_rfl) (by kernel_rfl) (by kernel_rfl) (fun _ _ _ h => h) ⟨by rfl, ?_⟩ hS ?_
  rotate_left
  · intro wq hSw; go_simp; try rfl
  simp only [Act.put, List.setIfInBounds_toArray, List.set_cons_zero, List.set_cons_succ]
  refine take_at 9 (some 81) (v := ?_) rfl rfl (by kernel_rfl) (by kernel_rfl) (by kernel_rfl) (fun _ _ _ h => h) ⟨by rfl, ?_⟩ hS ?_
  rotate_left
  · intro wq hSw; go_simp; try rfl
  simp only [Act.put, List.setIfInBounds_toArray, List.set_cons_zero, List.set_cons_succ]
  refine take_at 10 (some 82) (v := ?_) rfl rfl (by kernel_rfl) (by kernel_rfl) (by kernel_rfl) (fun _ _ _ h => h) ⟨by rfl, ?_⟩ hS ?_
  rotate_left
  · intro wq hSw; go_simp; try rfl
  simp only [Act.put, List.setIfInBounds_toArray, List.set_cons_zero, List.set_cons_succ]
  refine take_at 11 (some 8) (v := ?_) rfl rfl (by kernel_rfl) (by kernel_rfl) (by kernel_rfl) (fun _ _ _ h => h) ⟨by rfl, ?_⟩ hS ?_
  rotate_left
  · intro wq hSw; go_simp; try rfl
  simp only [Act.put, List.setIfInBounds_toArray, List.set_cons_zero, List.set_cons_succ]
  refine take_at 12 (some 9) (v := ?_) rfl rfl (by kernel_rfl) (by kernel_rfl) (by kernel_rfl) (fun _ _ _ h => h) ⟨by rfl, ?_⟩ hS ?_
  rotate_left
  · intro wq hSw; go_simp; try rfl
  simp only [Act.put, List.setIfInBounds_toArray, List.set_cons_zero, List.set_cons_succ]
  have S3 := hide hS
  clear hS
  refine wpAnyH_done (by kernel_rfl) ?_ _
  have PQ3 := hide (PQ2.out.below S3.out)
  have D3 := hide (D2.out.below S3.out)
  have KX6 := hide (KX5.out.then_below S3.out)
  clear KX5
  have B3 := hide (FB5.out.trans (S3.out.mono (Nat.le_trans HB.out (Nat.le_trans B2.out.size FB5.out.size))))
  obtain ⟨f2, -⟩ := PQ3.out.cl.get 3 _ rfl
  obtain ⟨z0, z1, z2, z3⟩ := CV.out _ PQ3.out
  clear PQ2 RB2 D2 S3 KM FB5
  go_upto_region 11 with fail
  refine named (P := Code.wp _ _ _ _) ?_
  intro w6 hw6
  have PQ3x : PQ x1 B N (.slice ta cs.length tc) (.slice (some ⟨g3, 0, none⟩) G.length c3) ⟨num, lsn, cs, G⟩ := by rw [HGL.out]; exact PQ3.out
  obtain ⟨q1, q2⟩ := PQ.stS (p := ⟨num, lsn, cs, G⟩) (i := gs.length) PQ3x hil (fitV M)
  have PQ4 := hide (show PQ w6 B N _ (.slice (some ⟨g3, 0, none⟩) m c3) ⟨num, lsn, cs, putS G (gs.length : Int) (fitV M)⟩ by rw [hw6, ← HGL.out]; exact q1)
  have F4 := hide (show Below B x1 w6 by rw [hw6]; exact q2)
  have KX7 := hide (show Keep (fun z => z = g3) x1 w6 by rw [hw6]; exact (Keep.refl (fun z => z = g3) x1).setCell (fun _ => rfl) _)
  have D4 := hide (show Cells w6 (N + 2) [.int .i64 0, .int .i64 0, .slice none 0 0, .slice none 0 0] by rw [hw6]; exact D3.out.keep ((Keep.refl (fun k => k = g3) x1).setCell (g := g3) (j := gs.length * 2 + 1) (fun _ => rfl) _) (fun q => NG.out q.symm))
  clear hw6 q1 q2 f2 z0 z1 z2 z3 D3 PQ3 PQ3x
  obtain ⟨m0, -⟩ := PQ4.out.cl.get 0 _ rfl
  obtain ⟨m1, -⟩ := PQ4.out.cl.get 1 _ rfl
  obtain ⟨m2, -⟩ := PQ4.out.cl.get 2 _ rfl
  obtain ⟨m3, -⟩ := PQ4.out.cl.get 3 _ rfl
  have K8 := ((((Keep.refl (fun i => i = N + 2) w6).setCell (g := N + 2) (j := 0) (fun _ => rfl) (.int .i64 num)).setCell (g := N + 2) (j := 1) (fun _ => rfl) (.int .i64 lsn)).setCell (g := N + 2) (j := 2) (fun _ => rfl) (.slice ta cs.length tc)).setCell (g := N + 2) (j := 3) (fun _ => rfl) (.slice (some ⟨g3, 0, none⟩) m c3)
  have C8 := (((D4.out.stored (j := 0) (by simp) (.int .i64 num)).stored (j := 1) (by simp) (.int .i64 lsn)).stored (j := 2) (by simp) (.slice ta cs.length tc)).stored (j := 3) (by simp) (.slice (some ⟨g3, 0, none⟩) m c3)
  obtain ⟨y0, z0⟩ := D4.out.get 0 _ rfl
  obtain ⟨y1, z1⟩ := D4.out.get 1 _ rfl
  obtain ⟨y2, z2⟩ := D4.out.get 2 _ rfl
  obtain ⟨y3, z3⟩ := D4.out.get 3 _ rfl
  have HK8 := hide K8
  have HC8 := hide C8
  clear K8 C8
  obtain ⟨k0, _⟩ := HC8.out.get 0 _ rfl
  obtain ⟨k1, _⟩ := HC8.out.get 1 _ rfl
  obtain ⟨k2, _⟩ := HC8.out.get 2 _ rfl
  obtain ⟨k3, _⟩ := HC8.out.get 3 _ rfl
  go_wp2_with fail
  refine bodyPost_ret (v := .tuple #[.agg #[.int .i64 num, .int .i64 lsn, .slice ta cs.length tc, .slice (some ⟨g3, 0, none⟩) m c3], .int .i64 (fitE M)]) (by simp only [results, Try.results36]; simp [go_sem, k0, k1, k2, k3]) rfl ?_
  have bf := (((B2.out.mono HB.out).trans B3.out).trans F4.out).trans (HK8.out.below (Nat.le_trans HB.out (Nat.le_trans B2.out.size (Nat.le_trans B3.out.size F4.out.size))) (fun i hi q => by have := HN.out; have := HB.out; omega))
  have qf := PQ4.out.keep HK8.out (by omega) (fun k hk q => by have := LT.out k (.inl hk); omega) (fun k hk q => by cases hk; exact NG.out q)
  have kf : Keep (fun z => (Value.slice ta cs.length tc).ownBlock = some z ∨ (Value.slice tb gs.length td).ownBlock = some z) w _ := (((Keep.of_below B2.out).trans KX6.out (fun j hj q => q.elim .inr (fun q => by have := HN.out; omega))).trans KX7.out (fun j hj q => .inr (by rw [q] at hj ⊢; exact NG3.out hj))).trans HK8.out (fun j hj q => by have := HN.out; omega)
  exact ⟨_, _, _, _, _, _, _, _, by rw [HE2.out], ⟨bf, kf⟩, fun q => by have e := fitE_zero.1 (HE2.out ▸ q); have o := qf.out; rw [(fit_yes e).1] at o; rw [HPE.out, ← HGI.out, ← HG.out]; exact o⟩
theorem summed_any (B : Nat) (v1 v2 : Value) (p : Pg) (r : Rc) (w : World) (g1 : GRow w B 32 5 v1 p.cs.length (rowsC ctrC p.cs)) (g2 : GRow w B 69 2 v2 p.gs.length (rowsC grpC p.gs)) (ap : ∀ g, v1.ownBlock = some g → v2.ownBlock ≠ some g) (hB : B ≤ w.heap.size) (hf : p.Fit) (hc : chg r.k = true) (hr : r.Fit) : Calls Try.prog 36 #[.agg (pgA p.num p.lsn v1 v2), recV r] w (CntPost w B v1 v2 (sumE p r) (sumP p r)) := by
  have no : ∀ {e w'}, ¬ isS p r → CntPost w B v1 v2 83 p e w' → CntPost w B v1 v2 (sumE p r) (sumP p r) e w' := by
    intro e w' hi h
    have e1 : sumE p r = 83 := by unfold sumE; rw [if_neg hi]
    obtain ⟨n, l, a1, k1, c1, a2, k2, c2, h1, h2, -⟩ := h
    exact ⟨n, l, a1, k1, c1, a2, k2, c2, by rw [e1]; exact h1, h2, fun q => by rw [e1] at q; cases q⟩
  by_cases h0 : p.cs.length = 0
  · by_cases hn : r.si < 0
    · exact (sm_neg B v1 v2 p r w g1 g2 ap hB hf h0 hn).mono (fun e w' h => no (fun q => by have := q.2; rw [if_neg (by omega)] at this; omega) h)
    · by_cases hx : r.si < p.gs.length
      · have hg : grown p.gs r = p.gs := by unfold grown; rw [if_neg (by omega)]
        by_cases hk : r.k = 2
        · by_cases hid : (grpAt p.gs r.si).id = r.c.grp
          · have hi : isS p r := ⟨h0, by rw [if_pos ⟨by omega, hx⟩]; exact fun _ => hid⟩
            have e1 : sumE p r = fitE (mv r (grpAt p.gs r.si).sum) := by unfold sumE; rw [if_pos hi, hg]
            have e2 : sumP p r = ⟨p.num, p.lsn, p.cs, putS p.gs r.si (mv r (grpAt p.gs r.si).sum)⟩ := by unfold sumP; rw [hg]
            rw [e1, e2]
            exact sm_old2 B v1 v2 p r w g1 g2 ap hB hf h0 hn hx hk hid hc hr
          · exact (sm_id B v1 v2 p r w g1 g2 ap hB hf h0 hn hx hk hid).mono (fun e w' h => no (fun q => by have := q.2; rw [if_pos ⟨by omega, hx⟩] at this; exact hid (this hk)) h)
        · have hi : isS p r := ⟨h0, by rw [if_pos ⟨by omega, hx⟩]; exact fun q => absurd q hk⟩
          have e1 : sumE p r = fitE (mv r (grpAt p.gs r.si).sum) := by unfold sumE; rw [if_pos hi, hg]
          have e2 : sumP p r = ⟨p.num, p.lsn, p.cs, putS p.gs r.si (mv r (grpAt p.gs r.si).sum)⟩ := by unfold sumP; rw [hg]
          rw [e1, e2]
          exact sm_oldn B v1 v2 p r w g1 g2 ap hB hf h0 hn hx hk hc hr
      · by_cases he : r.si = p.gs.length
        · by_cases hk : r.k = 2
          · by_cases h84 : p.gs.length < 84
            · have hi : isS p r := ⟨h0, by rw [if_neg (by omega)]; exact ⟨hk, he, h84⟩⟩
              have hg : grown p.gs r = p.gs ++ [⟨r.c.grp, 0⟩] := by unfold grown; rw [if_pos he]
              have ha : (grpAt (p.gs ++ [⟨r.c.grp, 0⟩]) r.si).sum = 0 := by unfold grpAt; rw [he]; simp
              have e1 : sumE p r = fitE (mv r 0) := by unfold sumE; rw [if_pos hi, hg, ha]
              have e2 : sumP p r = ⟨p.num, p.lsn, p.cs, putS (p.gs ++ [⟨r.c.grp, 0⟩]) r.si (mv r 0)⟩ := by unfold sumP; rw [hg, ha]
              rw [e1, e2]
              exact sm_new B v1 v2 p r w g1 g2 ap hB hf h0 he hk h84 hc hr
            · exact (sm_full B v1 v2 p r w g1 g2 ap hB hf h0 hn he hk h84).mono (fun e w' h => no (fun q => by have := q.2; rw [if_neg (by omega)] at this; exact h84 this.2.2) h)
          · exact (sm_k B v1 v2 p r w g1 g2 ap hB hf h0 hn he hk).mono (fun e w' h => no (fun q => by have := q.2; rw [if_neg (by omega)] at this; exact hk this.1) h)
        · exact (sm_far B v1 v2 p r w g1 g2 ap hB hf h0 hn (by omega)).mono (fun e w' h => no (fun q => by have := q.2; rw [if_neg (by omega)] at this; exact he this.2.1) h)
  · exact (sm_cs B v1 v2 p r w g1 g2 ap hB hf (by omega)).mono (fun e w' h => no (fun q => h0 q.1) h)
end Go.Proofs.Ytoocbpbaieedmaa
