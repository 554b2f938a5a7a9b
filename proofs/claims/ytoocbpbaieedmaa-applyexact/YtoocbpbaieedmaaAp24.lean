import Derived.Test.YtoocbpbaieedmaaAp23
namespace Go.Proofs.Ytoocbpbaieedmaa
open Go.RowKit Go.QK Quota
set_option maxRecDepth 100000
set_option maxHeartbeats 8000000 in
theorem cn_push (B : Nat) (v1 v2 : Value) (p : Pg) (r : Rc) (w : World) (g1 : GRow w B 32 5 v1 p.cs.length (rowsC ctrC p.cs)) (g2 : GRow w B 69 2 v2 p.gs.length (rowsC grpC p.gs)) (ap : ∀ g, v1.ownBlock = some g → v2.ownBlock ≠ some g) (hB : B ≤ w.heap.size) (hf : p.Fit) (h0 : p.gs.length = 0) (hk : r.k = 2) (hw : r.wi = p.cs.length) (hx : p.cs.length < 31) : Calls Try.prog 35 #[.agg (pgA p.num p.lsn v1 v2), recV r] w (CntPost w B v1 v2 (0) (⟨p.num, p.lsn, p.cs ++ [r.c], p.gs⟩)) := by
  obtain ⟨E, hE⟩ : ∃ E : Int, E = 0 := ⟨_, rfl⟩
  rw [← hE]
  unfold CntPost
  have HE := hide hE
  clear hE
  obtain ⟨num, lsn, cs, gs⟩ := p
  obtain ⟨RA, hRA⟩ : ∃ RA, RA = recA r := ⟨_, rfl⟩
  have SR := hide (show RA.size = 17 by rw [hRA]; rfl)
  have CL := hide (show ∀ (x : World) (n : Nat), RBox x n 38 RA → x.cell? ⟨n, 5, none⟩ = some (.int .i64 r.wi) ∧ x.cell? ⟨n, 1, none⟩ = some (.int .i64 r.k) ∧ x.cell? ⟨n, 9, none⟩ = some (.int .i64 r.c.id) ∧ x.cell? ⟨n, 10, none⟩ = some (.int .i64 r.c.grp) ∧ x.cell? ⟨n, 11, none⟩ = some (.int .i64 r.c.lo) ∧ x.cell? ⟨n, 12, none⟩ = some (.int .i64 r.c.hi) ∧ x.cell? ⟨n, 13, none⟩ = some (.int .i64 r.c.val) from fun x n q => by subst hRA; exact ⟨(q.cells.get 5 _ rfl).1, (q.cells.get 1 _ rfl).1, (q.cells.get 9 _ rfl).1, (q.cells.get 10 _ rfl).1, (q.cells.get 11 _ rfl).1, (q.cells.get 12 _ rfl).1, (q.cells.get 13 _ rfl).1⟩)
  have h0b : decide (0 < gs.length) = false := decide_eq_false (by simp only at h0; omega)
  have hkb : (r.k == 2) = true := by simpa using hk
  have hwb : (r.wi != (cs.length : Int)) = false := by simpa using hw
  have hxb : decide ((31 : Int) ≤ (cs.length : Int)) = false := decide_eq_false (by simp only at hx; omega)
  clear hk hw h0
  obtain ⟨rc, hrc⟩ : ∃ c, c = r.c := ⟨_, rfl⟩
  rw [← hrc] at CL ⊢
  clear hrc
  obtain ⟨ci, cg, cl, ch, cv⟩ := rc
  simp only at CL
  generalize r.wi = wi at *
  show Calls Try.prog 35 #[.agg (pgA num lsn v1 v2), .agg (recA r)] w _
  obtain ⟨ta, tc, e1, -⟩ := GRow.lies g1
  obtain ⟨tb, td, e2, -⟩ := GRow.lies g2
  subst e1 e2
  rw [← hRA]
  have G1 := hide g1
  have G2 := hide g2
  have AP := hide ap
  have HB := hide hB
  clear g1 g2 ap hB hRA
  try dsimp only at hf
  go_enter Try.func35, Try.ntmps35
  go_upto_region 1 with fail
  refine named (P := Code.wp _ _ _ _) ?_
  intro w1 hw1
  obtain ⟨N, hN⟩ : ∃ N, N = w.heap.size := ⟨_, rfl⟩
  have b1 : Below w.heap.size w w1 := by rw [hw1]; exact bnext (bnext (alloc_below _ _) (alloc_below _ _) (Nat.le_refl _)) (alloc_below _ _) (Nat.le_refl _)
  have PQ1 := hide (show PQ w1 B N (.slice ta cs.length tc) (.slice tb gs.length td) ⟨num, lsn, cs, gs⟩ from ⟨by rw [hw1, hN]; exact ((Cells.new w (pgA num lsn (.slice ta cs.length tc) (.slice tb gs.length td)) 25).below (alloc_below _ _)).below (alloc_below _ _), GRow.below G1.out b1, GRow.below G2.out b1, AP.out, fun q => by have := (World.ownsRow.lt G1.out _ q).2; omega, fun q => by have := (World.ownsRow.lt G2.out _ q).2; omega, by have := HB.out; omega⟩)
  have RB1 := hide (show RBox w1 (N + 1) 38 RA by
    rw [hw1, hN]
    have q := RBox.new (w.alloc (.cells (pgA num lsn (.slice ta cs.length tc) (.slice tb gs.length td)) 25)) RA 38
    rw [World.size_alloc] at q
    exact q.below (alloc_below _ _))
  have D1 := hide (show Cells w1 (N + 2) [.int .i64 0, .int .i64 0, .slice none 0 0, .slice none 0 0] by
    rw [hw1, hN]
    have q := Cells.new ((w.alloc (.cells (pgA num lsn (.slice ta cs.length tc) (.slice tb gs.length td)) 25)).alloc (.cells RA 38)) #[.int .i64 0, .int .i64 0, .slice none 0 0, .slice none 0 0] 25
    rw [World.size_alloc, World.size_alloc] at q
    exact q)
  have LT := hide (show ∀ gz, ((Value.slice ta cs.length tc).ownBlock = some gz ∨ (Value.slice tb gs.length td).ownBlock = some gz) → gz < N from fun gz q => by rcases q with q | q; exact hN ▸ (World.ownsRow.lt G1.out gz q).2; exact hN ▸ (World.ownsRow.lt G2.out gz q).2)
  have B1 := hide b1
  have HN := hide hN
  have IN1 := hide (show PIn w1 ⟨num, lsn, cs, gs⟩ ⟨ta, tc, tb, td⟩ from by obtain ⟨t, h1, h2, h3⟩ := PQ1.out.in_; obtain ⟨xa, xc, xb, xd⟩ := t; simp only [Value.slice.injEq] at h1 h2; obtain ⟨rfl, -, rfl⟩ := h1; obtain ⟨rfl, -, rfl⟩ := h2; exact h3)
  rw [← hN]
  clear hN hw1 b1 G1 G2
  obtain ⟨c5, c1, c9, c10, c11, c12, c13⟩ := CL.out _ _ RB1.out
  obtain ⟨f2, -⟩ := PQ1.out.cl.get 2 _ rfl
  obtain ⟨f3, -⟩ := PQ1.out.cl.get 3 _ rfl
  go_upto_region 8 with (go_quiet (fail))
  refine named (P := Code.wp _ _ _ _) ?_
  intro w2 hw2
  have b2 : Below w1.heap.size w1 w2 := by first | (rw [hw2]; exact bel (Below.refl _ _)) | (rw [hw2]; exact Below.refl _ _)
  have PQ2 := hide (PQ1.out.below b2)
  have RB2 := hide (RB1.out.below b2)
  have D2 := hide (D1.out.below b2)
  have B2 := hide (B1.out.trans (b2.mono B1.out.size))
  have IN2 := hide (IN1.out.below b2)
  clear hw2 b2 f2 f3 c5 c1 c9 c10 c11 c12 c13 PQ1 RB1 D1 B1 IN1
  have al := alloc_below w2 (.cells (ctrC ⟨ci, cg, cl, ch, cv⟩).toArray 32)
  obtain ⟨v3, x3, hr3, hO, hg3, hn3⟩ := run_pushR Try.underlying22 info32 rfl (by decide) (by decide) 22 (w2.alloc (.cells (ctrC ⟨ci, cg, cl, ch, cv⟩).toArray 32)) B (.slice ta cs.length tc) cs.length (rowsC ctrC cs) (GRow.below PQ2.out.g1 al) ⟨w2.heap.size, 0, none⟩ 1 1 (ctrC ⟨ci, cg, cl, ch, cv⟩) rfl (lies_new w2 _ 32) (ctrC_one _) (by simp only at hx; omega) (by have := PQ2.out.hB; have := PQ2.out.lt; simp; omega)
  obtain ⟨fin, fbl⟩ := PQ.pushC (c := ⟨ci, cg, cl, ch, cv⟩) PQ2.out al hO hg3 hn3
  have kg : Keep (fun z => (Value.slice ta cs.length tc).ownBlock = some z) _ _ := (Keep.refl (fun z => (Value.slice ta cs.length tc).ownBlock = some z) (w2.alloc (.cells (ctrC ⟨ci, cg, cl, ch, cv⟩).toArray 32))).grown hg3 (fun _ e _ => e)
  have d3 := (D2.out.below al).keep kg (fun q => by have := LT.out _ (.inl q); omega)
  have KX0 := hide ((Keep.of_below (S := fun z => (Value.slice ta cs.length tc).ownBlock = some z ∨ z = N) al).trans kg (fun _ _ q => .inl q))
  obtain ⟨f2, -⟩ := PQ2.out.cl.get 2 _ rfl
  obtain ⟨f2b, -⟩ := (PQ2.out.cl.below al).get 2 _ rfl
  obtain ⟨f2c, f2f⟩ := ((PQ2.out.cl.below al).keep kg PQ2.out.b1).get 2 _ rfl
  obtain ⟨a3, c3, e3, -⟩ := GRow.lies hO
  subst e3
  have NG := hide (show ∀ g, ((Value.slice a3 (cs.length + 1) c3).ownBlock = some g ∨ False) → ¬ g = N + 2 from fun g q => by rcases q with q | q; exact (by rcases hn3 with e | e; rw [e] at q; have := LT.out g (.inl q); omega; rw [e] at q; cases q; have := D2.out.1; simp; omega); exact q.elim)
  have FIN := hide fin
  have FBL := hide fbl
  have HR3 := hide hr3
  have D3 := hide d3
  obtain ⟨c5, c1, c9, c10, c11, c12, c13⟩ := CL.out _ _ RB2.out
  clear fin fbl hr3 d3 kg hO hg3 hn3 al
  go_upto_region 9 with (at_builtin; refine wpList_run rfl (.tmp _) (.tmp _) rfl rfl rfl HR3.out ?_)
  refine named (P := Code.wp _ _ _ _) ?_
  intro w4 hw4
  rw [← hw4] at FIN FBL
  have D4 := hide (show Cells w4 (N + 2) [.int .i64 0, .int .i64 0, .slice none 0 0, .slice none 0 0] by rw [hw4]; exact D3.out.keep ((Keep.refl (fun k => k = N) x3).setCell (g := N) (j := 2) (fun _ => rfl) _) (by omega))
  have KX := hide (show Keep (fun z => (Value.slice ta cs.length tc).ownBlock = some z ∨ z = N) w2 w4 by rw [hw4]; exact KX0.out.setCell (fun _ => .inr rfl) _)
  clear KX0
  clear hw4 f2 f2b f2c f2f c5 c1 c9 c10 c11 c12 c13 D2 D3
  have PQ4 := FIN
  obtain ⟨m0, -⟩ := PQ4.out.cl.get 0 _ rfl
  obtain ⟨m1, -⟩ := PQ4.out.cl.get 1 _ rfl
  obtain ⟨m2, -⟩ := PQ4.out.cl.get 2 _ rfl
  obtain ⟨m3, -⟩ := PQ4.out.cl.get 3 _ rfl
  have K8 := ((((Keep.refl (fun i => i = N + 2) w4).setCell (g := N + 2) (j := 0) (fun _ => rfl) (.int .i64 num)).setCell (g := N + 2) (j := 1) (fun _ => rfl) (.int .i64 lsn)).setCell (g := N + 2) (j := 2) (fun _ => rfl) (.slice a3 (cs.length + 1) c3)).setCell (g := N + 2) (j := 3) (fun _ => rfl) (.slice tb gs.length td)
  have C8 := (((D4.out.stored (j := 0) (by simp) (.int .i64 num)).stored (j := 1) (by simp) (.int .i64 lsn)).stored (j := 2) (by simp) (.slice a3 (cs.length + 1) c3)).stored (j := 3) (by simp) (.slice tb gs.length td)
  obtain ⟨y0, z0⟩ := D4.out.get 0 _ rfl
  obtain ⟨y1, z1⟩ := D4.out.get 1 _ rfl
  obtain ⟨y2, z2⟩ := D4.out.get 2 _ rfl
  obtain ⟨y3, z3⟩ := D4.out.get 3 _ rfl
  have HK8 := hide K8
  have HC8 := hide C8
  clear K8 C8
  obtain ⟨k0, _⟩ := HC8.out.get 0 _ rfl
  obtain ⟨k1, _⟩ := HC8.out.get 1 _ rfl
  obtain ⟨k2, _⟩ := HC8.out.get 2 _ rfl
  obtain ⟨k3, _⟩ := HC8.out.get 3 _ rfl
  go_wp2_with fail
  refine bodyPost_ret (v := .tuple #[.agg #[.int .i64 num, .int .i64 lsn, .slice a3 (cs.length + 1) c3, .slice tb gs.length td], .int .i64 0]) (by simp only [results, Try.results35]; simp [go_sem, k0, k1, k2, k3]) rfl ?_
  have bf := ((B2.out.mono HB.out).trans FBL.out).trans (HK8.out.below (Nat.le_trans HB.out (Nat.le_trans B2.out.size FBL.out.size)) (fun i hi q => by have := HN.out; have := HB.out; omega))
  have qf := PQ4.out.keep HK8.out (by omega) (fun g hg q => by have := NG.out g (.inl hg); omega) (fun g hg q => by have := LT.out g (.inr hg); omega)
  have kf : Keep (fun z => (Value.slice ta cs.length tc).ownBlock = some z ∨ (Value.slice tb gs.length td).ownBlock = some z) w _ := ((Keep.of_below B2.out).trans KX.out (fun j hj q => q.elim .inl (fun q => by have := HN.out; omega))).trans HK8.out (fun j hj q => by have := HN.out; omega)
  exact ⟨_, _, _, _, _, _, _, _, by rw [HE.out], ⟨bf, kf⟩, fun _ => qf.out⟩
end Go.Proofs.Ytoocbpbaieedmaa
