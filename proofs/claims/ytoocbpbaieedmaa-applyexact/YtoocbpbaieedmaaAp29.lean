import Derived.Test.YtoocbpbaieedmaaAp28
namespace Go.Proofs.Ytoocbpbaieedmaa
open Go.RowKit Go.QK Quota
set_option maxRecDepth 100000
theorem offM {w : World} {M : Nat} {t e : TypeId} {cs : Array Value} {B sz n : Nat} {v : Value} {xs : List Value} (hb : RBox w M t cs) (h : GRow w B e sz v n xs) (hne : t ≠ e) : v.ownBlock ≠ some M := by
  intro q
  rcases h.2 with ⟨rfl, _⟩ | ⟨g, cap, cur, rfl, _, hg, _⟩
  · cases q
  · cases q
    have h1 : w.heap[g]? = some (.cells cs t (0, 0)) := hb
    rw [h1] at hg
    cases hg
    exact hne rfl
set_option maxHeartbeats 8000000 in
theorem rdo_70 (p : Pg) (t : At) (r : Rc) (w : World) (h : PIn w p t) (hf : p.Fit) (h1 : chg r.k = false) : Calls Try.prog 25 #[pgV p t, recV r] w (DoPost w p r) := by
  have e1 : ckE p.num r = 70 := by unfold ckE; rw [if_pos h1]
  have e2 : doE p r = 70 := by unfold doE; rw [e1, if_pos (by decide)]
  have e3 : didB p r = false := by unfold didB; rw [e1]; simp
  have e4 : doP p r = none_ := by unfold doP; rw [e2, if_pos (by decide)]
  unfold DoPost
  rw [e2, e3, e4]
  clear e1 e2 e3 e4
  obtain ⟨num, lsn, cs, gs⟩ := p
  obtain ⟨ta, tc, tb, td⟩ := t
  obtain ⟨RA, hRA⟩ : ∃ RA, RA = recA r := ⟨_, rfl⟩
  have SR := hide (show RA.size = 17 by rw [hRA]; rfl)
  have CL := hide (show ∀ (x : World) (n : Nat), RBox x n 38 RA → x.cell? ⟨n, 0, none⟩ = some (.int .i64 r.lsn) ∧ x.cell? ⟨n, 4, none⟩ = some (.int .i64 r.wp) ∧ x.cell? ⟨n, 6, none⟩ = some (.int .i64 r.sp) from fun x n q => by subst hRA; exact ⟨(q.cells.get 0 _ rfl).1, (q.cells.get 4 _ rfl).1, (q.cells.get 6 _ rfl).1⟩)
  have K34 := fun w' => rchanges_any r w'
  rw [h1] at K34
  have K17 := fun w' h => own_any ⟨num, lsn, cs, gs⟩ ⟨ta, tc, tb, td⟩ w' h (Nat.le_trans hf.lc (by decide)) (Nat.le_trans hf.lg (by decide))
  show Calls Try.prog 25 #[.agg (pgA num lsn (.slice ta cs.length tc) (.slice tb gs.length td)), .agg (recA r)] w _
  simp only [recV] at K34 
  simp only [pgV] at K17
  rw [← hRA] at K34  ⊢
  have HIN := hide h
  clear h hRA
  go_enter Try.func25, Try.ntmps25
  go_upto_region 2 with fail
  refine named (P := Code.wp _ _ _ _) ?_
  intro w1 hw1
  obtain ⟨N, hN⟩ : ∃ N, N = w.heap.size := ⟨_, rfl⟩
  have b1 : Below w.heap.size w w1 := by rw [hw1]; exact bnext (bnext (bnext (alloc_below _ _) (alloc_below _ _) (Nat.le_refl _)) (alloc_below _ _) (Nat.le_refl _)) (alloc_below _ _) (Nat.le_refl _)
  have C1 := hide (show Cells w1 N [.int .i64 num, .int .i64 lsn, .slice ta cs.length tc, .slice tb gs.length td] by rw [hw1, hN]; exact (((Cells.new w (pgA num lsn (.slice ta cs.length tc) (.slice tb gs.length td)) 25).below (alloc_below _ _)).below (alloc_below _ _)).below (alloc_below _ _))
  have RB1 := hide (show RBox w1 (N + 1) 38 RA by
    rw [hw1, hN]
    have q := RBox.new (w.alloc (.cells (pgA num lsn (.slice ta cs.length tc) (.slice tb gs.length td)) 25)) RA 38
    rw [World.size_alloc] at q
    exact (q.below (alloc_below _ _)).below (alloc_below _ _))
  have D1 := hide (show Cells w1 (N + 2) [.int .i64 0, .int .i64 0, .slice none 0 0, .slice none 0 0] by
    rw [hw1, hN]
    have q := Cells.new ((w.alloc (.cells (pgA num lsn (.slice ta cs.length tc) (.slice tb gs.length td)) 25)).alloc (.cells RA 38)) #[.int .i64 0, .int .i64 0, .slice none 0 0, .slice none 0 0] 25
    rw [World.size_alloc, World.size_alloc] at q
    exact q.below (alloc_below _ _))
  have E1 := hide (show Cells w1 (N + 3) [.int .i64 0, .int .i64 0, .slice none 0 0, .slice none 0 0] by
    rw [hw1, hN]
    have q := Cells.new (((w.alloc (.cells (pgA num lsn (.slice ta cs.length tc) (.slice tb gs.length td)) 25)).alloc (.cells RA 38)).alloc (.cells #[.int .i64 0, .int .i64 0, .slice none 0 0, .slice none 0 0] 25)) #[.int .i64 0, .int .i64 0, .slice none 0 0, .slice none 0 0] 25
    rw [World.size_alloc, World.size_alloc, World.size_alloc] at q
    exact q)
  have B1 := hide b1
  have HN := hide hN
  rw [← hN]
  clear hN hw1 b1
  go_upto_region 2 with fail
  go_wp2_with (refine wpList_load38 RB1.out SR.out rfl ?_)
  refine (K34 _).mono ?_
  rintro e w2 ⟨rfl, h2⟩
  have C2 := hide (C1.out.below h2)
  have RB2 := hide (RB1.out.below h2)
  have D2 := hide (D1.out.below h2)
  have E2 := hide (E1.out.below h2)
  have B2 := hide (B1.out.trans (h2.mono B1.out.size))
  have Z2 := hide (show N + 4 ≤ w2.heap.size by have := E2.out.1; omega)
  clear h2 C1 RB1 D1 E1 B1 K34
  obtain ⟨c0, c4, c6⟩ := CL.out _ _ RB2.out
  obtain ⟨f0, -⟩ := C2.out.get 0 _ rfl
  obtain ⟨f1, -⟩ := C2.out.get 1 _ rfl
  obtain ⟨f2, -⟩ := C2.out.get 2 _ rfl
  obtain ⟨f3, -⟩ := C2.out.get 3 _ rfl
  clear K17 hf h1
  obtain ⟨x0, -⟩ := E2.out.get 0 _ rfl
  obtain ⟨x1, -⟩ := E2.out.get 1 _ rfl
  obtain ⟨x2, -⟩ := E2.out.get 2 _ rfl
  obtain ⟨x3, -⟩ := E2.out.get 3 _ rfl
  have K8 := ((((Keep.refl (fun i => i = N + 2) w2).setCell (g := N + 2) (j := 0) (fun _ => rfl) (.int .i64 0)).setCell (g := N + 2) (j := 1) (fun _ => rfl) (.int .i64 0)).setCell (g := N + 2) (j := 2) (fun _ => rfl) (.slice none 0 0)).setCell (g := N + 2) (j := 3) (fun _ => rfl) (.slice none 0 0)
  have C8 := (((D2.out.stored (j := 0) (by simp) (.int .i64 0)).stored (j := 1) (by simp) (.int .i64 0)).stored (j := 2) (by simp) (.slice none 0 0)).stored (j := 3) (by simp) (.slice none 0 0)
  obtain ⟨y0, z0⟩ := D2.out.get 0 _ rfl
  obtain ⟨y1, z1⟩ := D2.out.get 1 _ rfl
  obtain ⟨y2, z2⟩ := D2.out.get 2 _ rfl
  obtain ⟨y3, z3⟩ := D2.out.get 3 _ rfl
  have HK8 := hide K8
  have HC8 := hide C8
  clear K8 C8
  obtain ⟨k0, _⟩ := HC8.out.get 0 _ rfl
  obtain ⟨k1, _⟩ := HC8.out.get 1 _ rfl
  obtain ⟨k2, _⟩ := HC8.out.get 2 _ rfl
  obtain ⟨k3, _⟩ := HC8.out.get 3 _ rfl
  go_wp2_with fail
  refine bodyPost_ret (v := .tuple #[.agg #[.int .i64 0, .int .i64 0, .slice none 0 0, .slice none 0 0], .bool false, .int .i64 70]) (by simp only [results, Try.results25]; simp [go_sem, k0, k1, k2, k3]) rfl ?_
  exact ⟨_, rfl, PgOut.none _ _, B2.out.trans (HK8.out.below B2.out.size (fun i hi q => by have := HN.out; omega))⟩
set_option maxHeartbeats 8000000 in
theorem rdo_23a (p : Pg) (t : At) (r : Rc) (w : World) (h : PIn w p t) (hf : p.Fit) (h1 : chg r.k = true) (h2 : r.lsn < 1) : Calls Try.prog 25 #[pgV p t, recV r] w (DoPost w p r) := by
  have e1 : ckE p.num r = 23 := by unfold ckE; rw [if_neg (by rw [h1]; decide), if_pos (.inl h2)]
  have e2 : doE p r = 23 := by unfold doE; rw [e1, if_pos (by decide)]
  have e3 : didB p r = false := by unfold didB; rw [e1]; simp
  have e4 : doP p r = none_ := by unfold doP; rw [e2, if_pos (by decide)]
  unfold DoPost
  rw [e2, e3, e4]
  clear e1 e2 e3 e4
  obtain ⟨num, lsn, cs, gs⟩ := p
  obtain ⟨ta, tc, tb, td⟩ := t
  obtain ⟨RA, hRA⟩ : ∃ RA, RA = recA r := ⟨_, rfl⟩
  have SR := hide (show RA.size = 17 by rw [hRA]; rfl)
  have CL := hide (show ∀ (x : World) (n : Nat), RBox x n 38 RA → x.cell? ⟨n, 0, none⟩ = some (.int .i64 r.lsn) ∧ x.cell? ⟨n, 4, none⟩ = some (.int .i64 r.wp) ∧ x.cell? ⟨n, 6, none⟩ = some (.int .i64 r.sp) from fun x n q => by subst hRA; exact ⟨(q.cells.get 0 _ rfl).1, (q.cells.get 4 _ rfl).1, (q.cells.get 6 _ rfl).1⟩)
  have K34 := fun w' => rchanges_any r w'
  rw [h1] at K34
  have K17 := fun w' h => own_any ⟨num, lsn, cs, gs⟩ ⟨ta, tc, tb, td⟩ w' h (Nat.le_trans hf.lc (by decide)) (Nat.le_trans hf.lg (by decide))
  show Calls Try.prog 25 #[.agg (pgA num lsn (.slice ta cs.length tc) (.slice tb gs.length td)), .agg (recA r)] w _
  simp only [recV] at K34 
  simp only [pgV] at K17
  rw [← hRA] at K34  ⊢
  have b1' : decide (r.lsn < 1) = true := decide_eq_true h2
  have HIN := hide h
  clear h hRA
  go_enter Try.func25, Try.ntmps25
  go_upto_region 2 with fail
  refine named (P := Code.wp _ _ _ _) ?_
  intro w1 hw1
  obtain ⟨N, hN⟩ : ∃ N, N = w.heap.size := ⟨_, rfl⟩
  have b1 : Below w.heap.size w w1 := by rw [hw1]; exact bnext (bnext (bnext (alloc_below _ _) (alloc_below _ _) (Nat.le_refl _)) (alloc_below _ _) (Nat.le_refl _)) (alloc_below _ _) (Nat.le_refl _)
  have C1 := hide (show Cells w1 N [.int .i64 num, .int .i64 lsn, .slice ta cs.length tc, .slice tb gs.length td] by rw [hw1, hN]; exact (((Cells.new w (pgA num lsn (.slice ta cs.length tc) (.slice tb gs.length td)) 25).below (alloc_below _ _)).below (alloc_below _ _)).below (alloc_below _ _))
  have RB1 := hide (show RBox w1 (N + 1) 38 RA by
    rw [hw1, hN]
    have q := RBox.new (w.alloc (.cells (pgA num lsn (.slice ta cs.length tc) (.slice tb gs.length td)) 25)) RA 38
    rw [World.size_alloc] at q
    exact (q.below (alloc_below _ _)).below (alloc_below _ _))
  have D1 := hide (show Cells w1 (N + 2) [.int .i64 0, .int .i64 0, .slice none 0 0, .slice none 0 0] by
    rw [hw1, hN]
    have q := Cells.new ((w.alloc (.cells (pgA num lsn (.slice ta cs.length tc) (.slice tb gs.length td)) 25)).alloc (.cells RA 38)) #[.int .i64 0, .int .i64 0, .slice none 0 0, .slice none 0 0] 25
    rw [World.size_alloc, World.size_alloc] at q
    exact q.below (alloc_below _ _))
  have E1 := hide (show Cells w1 (N + 3) [.int .i64 0, .int .i64 0, .slice none 0 0, .slice none 0 0] by
    rw [hw1, hN]
    have q := Cells.new (((w.alloc (.cells (pgA num lsn (.slice ta cs.length tc) (.slice tb gs.length td)) 25)).alloc (.cells RA 38)).alloc (.cells #[.int .i64 0, .int .i64 0, .slice none 0 0, .slice none 0 0] 25)) #[.int .i64 0, .int .i64 0, .slice none 0 0, .slice none 0 0] 25
    rw [World.size_alloc, World.size_alloc, World.size_alloc] at q
    exact q)
  have B1 := hide b1
  have HN := hide hN
  rw [← hN]
  clear hN hw1 b1
  go_upto_region 2 with fail
  go_wp2_with (refine wpList_load38 RB1.out SR.out rfl ?_)
  refine (K34 _).mono ?_
  rintro e w2 ⟨rfl, h2⟩
  have C2 := hide (C1.out.below h2)
  have RB2 := hide (RB1.out.below h2)
  have D2 := hide (D1.out.below h2)
  have E2 := hide (E1.out.below h2)
  have B2 := hide (B1.out.trans (h2.mono B1.out.size))
  have Z2 := hide (show N + 4 ≤ w2.heap.size by have := E2.out.1; omega)
  clear h2 C1 RB1 D1 E1 B1 K34
  obtain ⟨c0, c4, c6⟩ := CL.out _ _ RB2.out
  obtain ⟨f0, -⟩ := C2.out.get 0 _ rfl
  obtain ⟨f1, -⟩ := C2.out.get 1 _ rfl
  obtain ⟨f2, -⟩ := C2.out.get 2 _ rfl
  obtain ⟨f3, -⟩ := C2.out.get 3 _ rfl
  clear K17 hf h1 h2
  obtain ⟨x0, -⟩ := E2.out.get 0 _ rfl
  obtain ⟨x1, -⟩ := E2.out.get 1 _ rfl
  obtain ⟨x2, -⟩ := E2.out.get 2 _ rfl
  obtain ⟨x3, -⟩ := E2.out.get 3 _ rfl
  have K8 := ((((Keep.refl (fun i => i = N + 2) w2).setCell (g := N + 2) (j := 0) (fun _ => rfl) (.int .i64 0)).setCell (g := N + 2) (j := 1) (fun _ => rfl) (.int .i64 0)).setCell (g := N + 2) (j := 2) (fun _ => rfl) (.slice none 0 0)).setCell (g := N + 2) (j := 3) (fun _ => rfl) (.slice none 0 0)
  have C8 := (((D2.out.stored (j := 0) (by simp) (.int .i64 0)).stored (j := 1) (by simp) (.int .i64 0)).stored (j := 2) (by simp) (.slice none 0 0)).stored (j := 3) (by simp) (.slice none 0 0)
  obtain ⟨y0, z0⟩ := D2.out.get 0 _ rfl
  obtain ⟨y1, z1⟩ := D2.out.get 1 _ rfl
  obtain ⟨y2, z2⟩ := D2.out.get 2 _ rfl
  obtain ⟨y3, z3⟩ := D2.out.get 3 _ rfl
  have HK8 := hide K8
  have HC8 := hide C8
  clear K8 C8
  obtain ⟨k0, _⟩ := HC8.out.get 0 _ rfl
  obtain ⟨k1, _⟩ := HC8.out.get 1 _ rfl
  obtain ⟨k2, _⟩ := HC8.out.get 2 _ rfl
  obtain ⟨k3, _⟩ := HC8.out.get 3 _ rfl
  go_wp2_with fail
  refine bodyPost_ret (v := .tuple #[.agg #[.int .i64 0, .int .i64 0, .slice none 0 0, .slice none 0 0], .bool false, .int .i64 23]) (by simp only [results, Try.results25]; simp [go_sem, k0, k1, k2, k3]) rfl ?_
  exact ⟨_, rfl, PgOut.none _ _, B2.out.trans (HK8.out.below B2.out.size (fun i hi q => by have := HN.out; omega))⟩
set_option maxHeartbeats 8000000 in
theorem rdo_23b (p : Pg) (t : At) (r : Rc) (w : World) (h : PIn w p t) (hf : p.Fit) (h1 : chg r.k = true) (h2 : ¬ r.lsn < 1) (h3 : 2147483647 < r.lsn) : Calls Try.prog 25 #[pgV p t, recV r] w (DoPost w p r) := by
  have e1 : ckE p.num r = 23 := by unfold ckE; rw [if_neg (by rw [h1]; decide), if_pos (.inr (.inl h3))]
  have e2 : doE p r = 23 := by unfold doE; rw [e1, if_pos (by decide)]
  have e3 : didB p r = false := by unfold didB; rw [e1]; simp
  have e4 : doP p r = none_ := by unfold doP; rw [e2, if_pos (by decide)]
  unfold DoPost
  rw [e2, e3, e4]
  clear e1 e2 e3 e4
  obtain ⟨num, lsn, cs, gs⟩ := p
  obtain ⟨ta, tc, tb, td⟩ := t
  obtain ⟨RA, hRA⟩ : ∃ RA, RA = recA r := ⟨_, rfl⟩
  have SR := hide (show RA.size = 17 by rw [hRA]; rfl)
  have CL := hide (show ∀ (x : World) (n : Nat), RBox x n 38 RA → x.cell? ⟨n, 0, none⟩ = some (.int .i64 r.lsn) ∧ x.cell? ⟨n, 4, none⟩ = some (.int .i64 r.wp) ∧ x.cell? ⟨n, 6, none⟩ = some (.int .i64 r.sp) from fun x n q => by subst hRA; exact ⟨(q.cells.get 0 _ rfl).1, (q.cells.get 4 _ rfl).1, (q.cells.get 6 _ rfl).1⟩)
  have K34 := fun w' => rchanges_any r w'
  rw [h1] at K34
  have K17 := fun w' h => own_any ⟨num, lsn, cs, gs⟩ ⟨ta, tc, tb, td⟩ w' h (Nat.le_trans hf.lc (by decide)) (Nat.le_trans hf.lg (by decide))
  show Calls Try.prog 25 #[.agg (pgA num lsn (.slice ta cs.length tc) (.slice tb gs.length td)), .agg (recA r)] w _
  simp only [recV] at K34 
  simp only [pgV] at K17
  rw [← hRA] at K34  ⊢
  have b1' : decide (r.lsn < 1) = false := decide_eq_false h2
  have b2' : decide (2147483647 < r.lsn) = true := decide_eq_true h3
  have HIN := hide h
  clear h hRA
  go_enter Try.func25, Try.ntmps25
  go_upto_region 2 with fail
  refine named (P := Code.wp _ _ _ _) ?_
  intro w1 hw1
  obtain ⟨N, hN⟩ : ∃ N, N = w.heap.size := ⟨_, rfl⟩
  have b1 : Below w.heap.size w w1 := by rw [hw1]; exact bnext (bnext (bnext (alloc_below _ _) (alloc_below _ _) (Nat.le_refl _)) (alloc_below _ _) (Nat.le_refl _)) (alloc_below _ _) (Nat.le_refl _)
  have C1 := hide (show Cells w1 N [.int .i64 num, .int .i64 lsn, .slice ta cs.length tc, .slice tb gs.length td] by rw [hw1, hN]; exact (((Cells.new w (pgA num lsn (.slice ta cs.length tc) (.slice tb gs.length td)) 25).below (alloc_below _ _)).below (alloc_below _ _)).below (alloc_below _ _))
  have RB1 := hide (show RBox w1 (N + 1) 38 RA by
    rw [hw1, hN]
    have q := RBox.new (w.alloc (.cells (pgA num lsn (.slice ta cs.length tc) (.slice tb gs.length td)) 25)) RA 38
    rw [World.size_alloc] at q
    exact (q.below (alloc_below _ _)).below (alloc_below _ _))
  have D1 := hide (show Cells w1 (N + 2) [.int .i64 0, .int .i64 0, .slice none 0 0, .slice none 0 0] by
    rw [hw1, hN]
    have q := Cells.new ((w.alloc (.cells (pgA num lsn (.slice ta cs.length tc) (.slice tb gs.length td)) 25)).alloc (.cells RA 38)) #[.int .i64 0, .int .i64 0, .slice none 0 0, .slice none 0 0] 25
    rw [World.size_alloc, World.size_alloc] at q
    exact q.below (alloc_below _ _))
  have E1 := hide (show Cells w1 (N + 3) [.int .i64 0, .int .i64 0, .slice none 0 0, .slice none 0 0] by
    rw [hw1, hN]
    have q := Cells.new (((w.alloc (.cells (pgA num lsn (.slice ta cs.length tc) (.slice tb gs.length td)) 25)).alloc (.cells RA 38)).alloc (.cells #[.int .i64 0, .int .i64 0, .slice none 0 0, .slice none 0 0] 25)) #[.int .i64 0, .int .i64 0, .slice none 0 0, .slice none 0 0] 25
    rw [World.size_alloc, World.size_alloc, World.size_alloc] at q
    exact q)
  have B1 := hide b1
  have HN := hide hN
  rw [← hN]
  clear hN hw1 b1
  go_upto_region 2 with fail
  go_wp2_with (refine wpList_load38 RB1.out SR.out rfl ?_)
  refine (K34 _).mono ?_
  rintro e w2 ⟨rfl, h2⟩
  have C2 := hide (C1.out.below h2)
  have RB2 := hide (RB1.out.below h2)
  have D2 := hide (D1.out.below h2)
  have E2 := hide (E1.out.below h2)
  have B2 := hide (B1.out.trans (h2.mono B1.out.size))
  have Z2 := hide (show N + 4 ≤ w2.heap.size by have := E2.out.1; omega)
  clear h2 C1 RB1 D1 E1 B1 K34
  obtain ⟨c0, c4, c6⟩ := CL.out _ _ RB2.out
  obtain ⟨f0, -⟩ := C2.out.get 0 _ rfl
  obtain ⟨f1, -⟩ := C2.out.get 1 _ rfl
  obtain ⟨f2, -⟩ := C2.out.get 2 _ rfl
  obtain ⟨f3, -⟩ := C2.out.get 3 _ rfl
  clear K17 hf h1 h2 h3
  obtain ⟨x0, -⟩ := E2.out.get 0 _ rfl
  obtain ⟨x1, -⟩ := E2.out.get 1 _ rfl
  obtain ⟨x2, -⟩ := E2.out.get 2 _ rfl
  obtain ⟨x3, -⟩ := E2.out.get 3 _ rfl
  have K8 := ((((Keep.refl (fun i => i = N + 2) w2).setCell (g := N + 2) (j := 0) (fun _ => rfl) (.int .i64 0)).setCell (g := N + 2) (j := 1) (fun _ => rfl) (.int .i64 0)).setCell (g := N + 2) (j := 2) (fun _ => rfl) (.slice none 0 0)).setCell (g := N + 2) (j := 3) (fun _ => rfl) (.slice none 0 0)
  have C8 := (((D2.out.stored (j := 0) (by simp) (.int .i64 0)).stored (j := 1) (by simp) (.int .i64 0)).stored (j := 2) (by simp) (.slice none 0 0)).stored (j := 3) (by simp) (.slice none 0 0)
  obtain ⟨y0, z0⟩ := D2.out.get 0 _ rfl
  obtain ⟨y1, z1⟩ := D2.out.get 1 _ rfl
  obtain ⟨y2, z2⟩ := D2.out.get 2 _ rfl
  obtain ⟨y3, z3⟩ := D2.out.get 3 _ rfl
  have HK8 := hide K8
  have HC8 := hide C8
  clear K8 C8
  obtain ⟨k0, _⟩ := HC8.out.get 0 _ rfl
  obtain ⟨k1, _⟩ := HC8.out.get 1 _ rfl
  obtain ⟨k2, _⟩ := HC8.out.get 2 _ rfl
  obtain ⟨k3, _⟩ := HC8.out.get 3 _ rfl
  go_wp2_with fail
  refine bodyPost_ret (v := .tuple #[.agg #[.int .i64 0, .int .i64 0, .slice none 0 0, .slice none 0 0], .bool false, .int .i64 23]) (by simp only [results, Try.results25]; simp [go_sem, k0, k1, k2, k3]) rfl ?_
  exact ⟨_, rfl, PgOut.none _ _, B2.out.trans (HK8.out.below B2.out.size (fun i hi q => by have := HN.out; omega))⟩
set_option maxHeartbeats 8000000 in
theorem rdo_23c (p : Pg) (t : At) (r : Rc) (w : World) (h : PIn w p t) (hf : p.Fit) (h1 : chg r.k = true) (h2 : ¬ r.lsn < 1) (h3 : ¬ 2147483647 < r.lsn) (h4 : r.wp = r.sp) : Calls Try.prog 25 #[pgV p t, recV r] w (DoPost w p r) := by
  have e1 : ckE p.num r = 23 := by unfold ckE; rw [if_neg (by rw [h1]; decide), if_pos (.inr (.inr h4))]
  have e2 : doE p r = 23 := by unfold doE; rw [e1, if_pos (by decide)]
  have e3 : didB p r = false := by unfold didB; rw [e1]; simp
  have e4 : doP p r = none_ := by unfold doP; rw [e2, if_pos (by decide)]
  unfold DoPost
  rw [e2, e3, e4]
  clear e1 e2 e3 e4
  obtain ⟨num, lsn, cs, gs⟩ := p
  obtain ⟨ta, tc, tb, td⟩ := t
  obtain ⟨RA, hRA⟩ : ∃ RA, RA = recA r := ⟨_, rfl⟩
  have SR := hide (show RA.size = 17 by rw [hRA]; rfl)
  have CL := hide (show ∀ (x : World) (n : Nat), RBox x n 38 RA → x.cell? ⟨n, 0, none⟩ = some (.int .i64 r.lsn) ∧ x.cell? ⟨n, 4, none⟩ = some (.int .i64 r.wp) ∧ x.cell? ⟨n, 6, none⟩ = some (.int .i64 r.sp) from fun x n q => by subst hRA; exact ⟨(q.cells.get 0 _ rfl).1, (q.cells.get 4 _ rfl).1, (q.cells.get 6 _ rfl).1⟩)
  have K34 := fun w' => rchanges_any r w'
  rw [h1] at K34
  have K17 := fun w' h => own_any ⟨num, lsn, cs, gs⟩ ⟨ta, tc, tb, td⟩ w' h (Nat.le_trans hf.lc (by decide)) (Nat.le_trans hf.lg (by decide))
  show Calls Try.prog 25 #[.agg (pgA num lsn (.slice ta cs.length tc) (.slice tb gs.length td)), .agg (recA r)] w _
  simp only [recV] at K34 
  simp only [pgV] at K17
  rw [← hRA] at K34  ⊢
  have b1' : decide (r.lsn < 1) = false := decide_eq_false h2
  have b2' : decide (2147483647 < r.lsn) = false := decide_eq_false h3
  have b3' : (r.wp == r.sp) = true := by simpa using h4
  have HIN := hide h
  clear h hRA
  go_enter Try.func25, Try.ntmps25
  go_upto_region 2 with fail
  refine named (P := Code.wp _ _ _ _) ?_
  intro w1 hw1
  obtain ⟨N, hN⟩ : ∃ N, N = w.heap.size := ⟨_, rfl⟩
  have b1 : Below w.heap.size w w1 := by rw [hw1]; exact bnext (bnext (bnext (alloc_below _ _) (alloc_below _ _) (Nat.le_refl _)) (alloc_below _ _) (Nat.le_refl _)) (alloc_below _ _) (Nat.le_refl _)
  have C1 := hide (show Cells w1 N [.int .i64 num, .int .i64 lsn, .slice ta cs.length tc, .slice tb gs.length td] by rw [hw1, hN]; exact (((Cells.new w (pgA num lsn (.slice ta cs.length tc) (.slice tb gs.length td)) 25).below (alloc_below _ _)).below (alloc_below _ _)).below (alloc_below _ _))
  have RB1 := hide (show RBox w1 (N + 1) 38 RA by
    rw [hw1, hN]
    have q := RBox.new (w.alloc (.cells (pgA num lsn (.slice ta cs.length tc) (.slice tb gs.length td)) 25)) RA 38
    rw [World.size_alloc] at q
    exact (q.below (alloc_below _ _)).below (alloc_below _ _))
  have D1 := hide (show Cells w1 (N + 2) [.int .i64 0, .int .i64 0, .slice none 0 0, .slice none 0 0] by
    rw [hw1, hN]
    have q := Cells.new ((w.alloc (.cells (pgA num lsn (.slice ta cs.length tc) (.slice tb gs.length td)) 25)).alloc (.cells RA 38)) #[.int .i64 0, .int .i64 0, .slice none 0 0, .slice none 0 0] 25
    rw [World.size_alloc, World.size_alloc] at q
    exact q.below (alloc_below _ _))
  have E1 := hide (show Cells w1 (N + 3) [.int .i64 0, .int .i64 0, .slice none 0 0, .slice none 0 0] by
    rw [hw1, hN]
    have q := Cells.new (((w.alloc (.cells (pgA num lsn (.slice ta cs.length tc) (.slice tb gs.length td)) 25)).alloc (.cells RA 38)).alloc (.cells #[.int .i64 0, .int .i64 0, .slice none 0 0, .slice none 0 0] 25)) #[.int .i64 0, .int .i64 0, .slice none 0 0, .slice none 0 0] 25
    rw [World.size_alloc, World.size_alloc, World.size_alloc] at q
    exact q)
  have B1 := hide b1
  have HN := hide hN
  rw [← hN]
  clear hN hw1 b1
  go_upto_region 2 with fail
  go_wp2_with (refine wpList_load38 RB1.out SR.out rfl ?_)
  refine (K34 _).mono ?_
  rintro e w2 ⟨rfl, h2⟩
  have C2 := hide (C1.out.below h2)
  have RB2 := hide (RB1.out.below h2)
  have D2 := hide (D1.out.below h2)
  have E2 := hide (E1.out.below h2)
  have B2 := hide (B1.out.trans (h2.mono B1.out.size))
  have Z2 := hide (show N + 4 ≤ w2.heap.size by have := E2.out.1; omega)
  clear h2 C1 RB1 D1 E1 B1 K34
  obtain ⟨c0, c4, c6⟩ := CL.out _ _ RB2.out
  obtain ⟨f0, -⟩ := C2.out.get 0 _ rfl
  obtain ⟨f1, -⟩ := C2.out.get 1 _ rfl
  obtain ⟨f2, -⟩ := C2.out.get 2 _ rfl
  obtain ⟨f3, -⟩ := C2.out.get 3 _ rfl
  clear K17 hf h1 h2 h3 h4
  obtain ⟨x0, -⟩ := E2.out.get 0 _ rfl
  obtain ⟨x1, -⟩ := E2.out.get 1 _ rfl
  obtain ⟨x2, -⟩ := E2.out.get 2 _ rfl
  obtain ⟨x3, -⟩ := E2.out.get 3 _ rfl
  have K8 := ((((Keep.refl (fun i => i = N + 2) w2).setCell (g := N + 2) (j := 0) (fun _ => rfl) (.int .i64 0)).setCell (g := N + 2) (j := 1) (fun _ => rfl) (.int .i64 0)).setCell (g := N + 2) (j := 2) (fun _ => rfl) (.slice none 0 0)).setCell (g := N + 2) (j := 3) (fun _ => rfl) (.slice none 0 0)
  have C8 := (((D2.out.stored (j := 0) (by simp) (.int .i64 0)).stored (j := 1) (by simp) (.int .i64 0)).stored (j := 2) (by simp) (.slice none 0 0)).stored (j := 3) (by simp) (.slice none 0 0)
  obtain ⟨y0, z0⟩ := D2.out.get 0 _ rfl
  obtain ⟨y1, z1⟩ := D2.out.get 1 _ rfl
  obtain ⟨y2, z2⟩ := D2.out.get 2 _ rfl
  obtain ⟨y3, z3⟩ := D2.out.get 3 _ rfl
  have HK8 := hide K8
  have HC8 := hide C8
  clear K8 C8
  obtain ⟨k0, _⟩ := HC8.out.get 0 _ rfl
  obtain ⟨k1, _⟩ := HC8.out.get 1 _ rfl
  obtain ⟨k2, _⟩ := HC8.out.get 2 _ rfl
  obtain ⟨k3, _⟩ := HC8.out.get 3 _ rfl
  go_wp2_with fail
  refine bodyPost_ret (v := .tuple #[.agg #[.int .i64 0, .int .i64 0, .slice none 0 0, .slice none 0 0], .bool false, .int .i64 23]) (by simp only [results, Try.results25]; simp [go_sem, k0, k1, k2, k3]) rfl ?_
  exact ⟨_, rfl, PgOut.none _ _, B2.out.trans (HK8.out.below B2.out.size (fun i hi q => by have := HN.out; omega))⟩
set_option maxHeartbeats 8000000 in
theorem rdo_82 (p : Pg) (t : At) (r : Rc) (w : World) (h : PIn w p t) (hf : p.Fit) (h1 : chg r.k = true) (h2 : ¬ r.lsn < 1) (h3 : ¬ 2147483647 < r.lsn) (h4 : ¬ r.wp = r.sp) (h5 : ¬ p.num = r.wp) (h6 : ¬ p.num = r.sp) : Calls Try.prog 25 #[pgV p t, recV r] w (DoPost w p r) := by
  have e1 : ckE p.num r = 82 := by unfold ckE; rw [if_neg (by rw [h1]; decide), if_neg (fun q => q.elim h2 (fun q => q.elim h3 h4)), if_pos ⟨h5, h6⟩]
  have e2 : doE p r = 82 := by unfold doE; rw [e1, if_pos (by decide)]
  have e3 : didB p r = false := by unfold didB; rw [e1]; simp
  have e4 : doP p r = none_ := by unfold doP; rw [e2, if_pos (by decide)]
  unfold DoPost
  rw [e2, e3, e4]
  clear e1 e2 e3 e4
  obtain ⟨num, lsn, cs, gs⟩ := p
  obtain ⟨ta, tc, tb, td⟩ := t
  obtain ⟨RA, hRA⟩ : ∃ RA, RA = recA r := ⟨_, rfl⟩
  have SR := hide (show RA.size = 17 by rw [hRA]; rfl)
  have CL := hide (show ∀ (x : World) (n : Nat), RBox x n 38 RA → x.cell? ⟨n, 0, none⟩ = some (.int .i64 r.lsn) ∧ x.cell? ⟨n, 4, none⟩ = some (.int .i64 r.wp) ∧ x.cell? ⟨n, 6, none⟩ = some (.int .i64 r.sp) from fun x n q => by subst hRA; exact ⟨(q.cells.get 0 _ rfl).1, (q.cells.get 4 _ rfl).1, (q.cells.get 6 _ rfl).1⟩)
  have K34 := fun w' => rchanges_any r w'
  rw [h1] at K34
  have K17 := fun w' h => own_any ⟨num, lsn, cs, gs⟩ ⟨ta, tc, tb, td⟩ w' h (Nat.le_trans hf.lc (by decide)) (Nat.le_trans hf.lg (by decide))
  show Calls Try.prog 25 #[.agg (pgA num lsn (.slice ta cs.length tc) (.slice tb gs.length td)), .agg (recA r)] w _
  simp only [recV] at K34 
  simp only [pgV] at K17
  rw [← hRA] at K34  ⊢
  have b1' : decide (r.lsn < 1) = false := decide_eq_false h2
  have b2' : decide (2147483647 < r.lsn) = false := decide_eq_false h3
  have b3' : (r.wp == r.sp) = false := by simpa using h4
  have b4' : (num != r.wp) = true := by simpa using h5
  have b5' : (num != r.sp) = true := by simpa using h6
  have HIN := hide h
  clear h hRA
  go_enter Try.func25, Try.ntmps25
  go_upto_region 2 with fail
  refine named (P := Code.wp _ _ _ _) ?_
  intro w1 hw1
  obtain ⟨N, hN⟩ : ∃ N, N = w.heap.size := ⟨_, rfl⟩
  have b1 : Below w.heap.size w w1 := by rw [hw1]; exact bnext (bnext (bnext (alloc_below _ _) (alloc_below _ _) (Nat.le_refl _)) (alloc_below _ _) (Nat.le_refl _)) (alloc_below _ _) (Nat.le_refl _)
  have C1 := hide (show Cells w1 N [.int .i64 num, .int .i64 lsn, .slice ta cs.length tc, .slice tb gs.length td] by rw [hw1, hN]; exact (((Cells.new w (pgA num lsn (.slice ta cs.length tc) (.slice tb gs.length td)) 25).below (alloc_below _ _)).below (alloc_below _ _)).below (alloc_below _ _))
  have RB1 := hide (show RBox w1 (N + 1) 38 RA by
    rw [hw1, hN]
    have q := RBox.new (w.alloc (.cells (pgA num lsn (.slice ta cs.length tc) (.slice tb gs.length td)) 25)) RA 38
    rw [World.size_alloc] at q
    exact (q.below (alloc_below _ _)).below (alloc_below _ _))
  have D1 := hide (show Cells w1 (N + 2) [.int .i64 0, .int .i64 0, .slice none 0 0, .slice none 0 0] by
    rw [hw1, hN]
    have q := Cells.new ((w.alloc (.cells (pgA num lsn (.slice ta cs.length tc) (.slice tb gs.length td)) 25)).alloc (.cells RA 38)) #[.int .i64 0, .int .i64 0, .slice none 0 0, .slice none 0 0] 25
    rw [World.size_alloc, World.size_alloc] at q
    exact q.below (alloc_below _ _))
  have E1 := hide (show Cells w1 (N + 3) [.int .i64 0, .int .i64 0, .slice none 0 0, .slice none 0 0] by
    rw [hw1, hN]
    have q := Cells.new (((w.alloc (.cells (pgA num lsn (.slice ta cs.length tc) (.slice tb gs.length td)) 25)).alloc (.cells RA 38)).alloc (.cells #[.int .i64 0, .int .i64 0, .slice none 0 0, .slice none 0 0] 25)) #[.int .i64 0, .int .i64 0, .slice none 0 0, .slice none 0 0] 25
    rw [World.size_alloc, World.size_alloc, World.size_alloc] at q
    exact q)
  have B1 := hide b1
  have HN := hide hN
  rw [← hN]
  clear hN hw1 b1
  go_upto_region 2 with fail
  go_wp2_with (refine wpList_load38 RB1.out SR.out rfl ?_)
  refine (K34 _).mono ?_
  rintro e w2 ⟨rfl, h2⟩
  have C2 := hide (C1.out.below h2)
  have RB2 := hide (RB1.out.below h2)
  have D2 := hide (D1.out.below h2)
  have E2 := hide (E1.out.below h2)
  have B2 := hide (B1.out.trans (h2.mono B1.out.size))
  have Z2 := hide (show N + 4 ≤ w2.heap.size by have := E2.out.1; omega)
  clear h2 C1 RB1 D1 E1 B1 K34
  obtain ⟨c0, c4, c6⟩ := CL.out _ _ RB2.out
  obtain ⟨f0, -⟩ := C2.out.get 0 _ rfl
  obtain ⟨f1, -⟩ := C2.out.get 1 _ rfl
  obtain ⟨f2, -⟩ := C2.out.get 2 _ rfl
  obtain ⟨f3, -⟩ := C2.out.get 3 _ rfl
  clear K17 hf h1 h2 h3 h4 h5 h6
  obtain ⟨x0, -⟩ := E2.out.get 0 _ rfl
  obtain ⟨x1, -⟩ := E2.out.get 1 _ rfl
  obtain ⟨x2, -⟩ := E2.out.get 2 _ rfl
  obtain ⟨x3, -⟩ := E2.out.get 3 _ rfl
  have K8 := ((((Keep.refl (fun i => i = N + 2) w2).setCell (g := N + 2) (j := 0) (fun _ => rfl) (.int .i64 0)).setCell (g := N + 2) (j := 1) (fun _ => rfl) (.int .i64 0)).setCell (g := N + 2) (j := 2) (fun _ => rfl) (.slice none 0 0)).setCell (g := N + 2) (j := 3) (fun _ => rfl) (.slice none 0 0)
  have C8 := (((D2.out.stored (j := 0) (by simp) (.int .i64 0)).stored (j := 1) (by simp) (.int .i64 0)).stored (j := 2) (by simp) (.slice none 0 0)).stored (j := 3) (by simp) (.slice none 0 0)
  obtain ⟨y0, z0⟩ := D2.out.get 0 _ rfl
  obtain ⟨y1, z1⟩ := D2.out.get 1 _ rfl
  obtain ⟨y2, z2⟩ := D2.out.get 2 _ rfl
  obtain ⟨y3, z3⟩ := D2.out.get 3 _ rfl
  have HK8 := hide K8
  have HC8 := hide C8
  clear K8 C8
  obtain ⟨k0, _⟩ := HC8.out.get 0 _ rfl
  obtain ⟨k1, _⟩ := HC8.out.get 1 _ rfl
  obtain ⟨k2, _⟩ := HC8.out.get 2 _ rfl
  obtain ⟨k3, _⟩ := HC8.out.get 3 _ rfl
  go_wp2_with fail
  refine bodyPost_ret (v := .tuple #[.agg #[.int .i64 0, .int .i64 0, .slice none 0 0, .slice none 0 0], .bool false, .int .i64 82]) (by simp only [results, Try.results25]; simp [go_sem, k0, k1, k2, k3]) rfl ?_
  exact ⟨_, rfl, PgOut.none _ _, B2.out.trans (HK8.out.below B2.out.size (fun i hi q => by have := HN.out; omega))⟩
set_option maxHeartbeats 8000000 in
theorem rdo_oldW (p : Pg) (t : At) (r : Rc) (w : World) (h : PIn w p t) (hf : p.Fit) (h1 : chg r.k = true) (h2 : ¬ r.lsn < 1) (h3 : ¬ 2147483647 < r.lsn) (h4 : ¬ r.wp = r.sp) (h5 : p.num = r.wp) (hl : r.lsn ≤ p.lsn) : Calls Try.prog 25 #[pgV p t, recV r] w (DoPost w p r) := by
  obtain ⟨g2, g1, g3⟩ := do_old (p := p) (r := r) hl
  rw [show ckE p.num r = 0 from by unfold ckE; rw [if_neg (by rw [h1]; decide), if_neg (fun q => q.elim h2 (fun q => q.elim h3 h4)), if_neg (fun q => q.1 h5)]] at g2
  have g3 := g3 g2
  unfold DoPost
  rw [g1, g2, g3]
  clear g1 g2 g3
  obtain ⟨num, lsn, cs, gs⟩ := p
  obtain ⟨ta, tc, tb, td⟩ := t
  obtain ⟨RA, hRA⟩ : ∃ RA, RA = recA r := ⟨_, rfl⟩
  have SR := hide (show RA.size = 17 by rw [hRA]; rfl)
  have CL := hide (show ∀ (x : World) (n : Nat), RBox x n 38 RA → x.cell? ⟨n, 0, none⟩ = some (.int .i64 r.lsn) ∧ x.cell? ⟨n, 4, none⟩ = some (.int .i64 r.wp) ∧ x.cell? ⟨n, 6, none⟩ = some (.int .i64 r.sp) from fun x n q => by subst hRA; exact ⟨(q.cells.get 0 _ rfl).1, (q.cells.get 4 _ rfl).1, (q.cells.get 6 _ rfl).1⟩)
  have K34 := fun w' => rchanges_any r w'
  rw [h1] at K34
  have K17 := fun w' h => own_any ⟨num, lsn, cs, gs⟩ ⟨ta, tc, tb, td⟩ w' h (Nat.le_trans hf.lc (by decide)) (Nat.le_trans hf.lg (by decide))
  show Calls Try.prog 25 #[.agg (pgA num lsn (.slice ta cs.length tc) (.slice tb gs.length td)), .agg (recA r)] w _
  simp only [recV] at K34 
  simp only [pgV] at K17
  rw [← hRA] at K34  ⊢
  have b1' : decide (r.lsn < 1) = false := decide_eq_false h2
  have b2' : decide (2147483647 < r.lsn) = false := decide_eq_false h3
  have b3' : (r.wp == r.sp) = false := by simpa using h4
  have b4' : (num != r.wp) = false := by simpa using h5
  have b6' : (num == r.wp) = true := by simpa using h5
  have b7' : decide (r.lsn ≤ lsn) = true := decide_eq_true hl
  have HIN := hide h
  clear h hRA
  go_enter Try.func25, Try.ntmps25
  go_upto_region 2 with fail
  refine named (P := Code.wp _ _ _ _) ?_
  intro w1 hw1
  obtain ⟨N, hN⟩ : ∃ N, N = w.heap.size := ⟨_, rfl⟩
  have b1 : Below w.heap.size w w1 := by rw [hw1]; exact bnext (bnext (bnext (alloc_below _ _) (alloc_below _ _) (Nat.le_refl _)) (alloc_below _ _) (Nat.le_refl _)) (alloc_below _ _) (Nat.le_refl _)
  have C1 := hide (show Cells w1 N [.int .i64 num, .int .i64 lsn, .slice ta cs.length tc, .slice tb gs.length td] by rw [hw1, hN]; exact (((Cells.new w (pgA num lsn (.slice ta cs.length tc) (.slice tb gs.length td)) 25).below (alloc_below _ _)).below (alloc_below _ _)).below (alloc_below _ _))
  have RB1 := hide (show RBox w1 (N + 1) 38 RA by
    rw [hw1, hN]
    have q := RBox.new (w.alloc (.cells (pgA num lsn (.slice ta cs.length tc) (.slice tb gs.length td)) 25)) RA 38
    rw [World.size_alloc] at q
    exact (q.below (alloc_below _ _)).below (alloc_below _ _))
  have D1 := hide (show Cells w1 (N + 2) [.int .i64 0, .int .i64 0, .slice none 0 0, .slice none 0 0] by
    rw [hw1, hN]
    have q := Cells.new ((w.alloc (.cells (pgA num lsn (.slice ta cs.length tc) (.slice tb gs.length td)) 25)).alloc (.cells RA 38)) #[.int .i64 0, .int .i64 0, .slice none 0 0, .slice none 0 0] 25
    rw [World.size_alloc, World.size_alloc] at q
    exact q.below (alloc_below _ _))
  have E1 := hide (show Cells w1 (N + 3) [.int .i64 0, .int .i64 0, .slice none 0 0, .slice none 0 0] by
    rw [hw1, hN]
    have q := Cells.new (((w.alloc (.cells (pgA num lsn (.slice ta cs.length tc) (.slice tb gs.length td)) 25)).alloc (.cells RA 38)).alloc (.cells #[.int .i64 0, .int .i64 0, .slice none 0 0, .slice none 0 0] 25)) #[.int .i64 0, .int .i64 0, .slice none 0 0, .slice none 0 0] 25
    rw [World.size_alloc, World.size_alloc, World.size_alloc] at q
    exact q)
  have B1 := hide b1
  have HN := hide hN
  rw [← hN]
  clear hN hw1 b1
  go_upto_region 2 with fail
  go_wp2_with (refine wpList_load38 RB1.out SR.out rfl ?_)
  refine (K34 _).mono ?_
  rintro e w2 ⟨rfl, h2⟩
  have C2 := hide (C1.out.below h2)
  have RB2 := hide (RB1.out.below h2)
  have D2 := hide (D1.out.below h2)
  have E2 := hide (E1.out.below h2)
  have B2 := hide (B1.out.trans (h2.mono B1.out.size))
  have Z2 := hide (show N + 4 ≤ w2.heap.size by have := E2.out.1; omega)
  clear h2 C1 RB1 D1 E1 B1 K34
  obtain ⟨c0, c4, c6⟩ := CL.out _ _ RB2.out
  obtain ⟨f0, -⟩ := C2.out.get 0 _ rfl
  obtain ⟨f1, -⟩ := C2.out.get 1 _ rfl
  obtain ⟨f2, -⟩ := C2.out.get 2 _ rfl
  obtain ⟨f3, -⟩ := C2.out.get 3 _ rfl
  clear hf h1 h2 h3 h4 h5 hl
  go_upto_region 9 with (go_at_call 17; refine (K17 _ (HIN.out.below B2.out)).mono ?_; rintro e w3 ⟨v, rfl, h3, b3⟩; obtain ⟨v1, v2, rfl, g1, g2, ap⟩ := h3; obtain ⟨a1, c1, rfl, -⟩ := GRow.lies g1; obtain ⟨a2, c2, rfl, -⟩ := GRow.lies g2; simp only [pgA])
  refine named (P := Code.wp _ _ _ _) ?_
  intro w4 hw4
  obtain ⟨M, hM⟩ : ∃ M, M = w3.heap.size := ⟨_, rfl⟩
  have al : Below w3.heap.size w3 w4 := by rw [hw4]; exact alloc_below _ _
  have q4 : PQ w4 w2.heap.size M (.slice a1 cs.length c1) (.slice a2 gs.length c2) ⟨num, lsn, cs, gs⟩ := by
    refine ⟨by rw [hw4, hM]; exact Cells.new w3 (pgA num lsn (.slice a1 cs.length c1) (.slice a2 gs.length c2)) 25, GRow.below g1 al, GRow.below g2 al, ap, fun q => ?_, fun q => ?_, by rw [hM]; exact b3.size⟩
    · have := (World.ownsRow.lt g1 _ q).2; omega
    · have := (World.ownsRow.lt g2 _ q).2; omega
  have b24 : Below w2.heap.size w2 w4 := b3.trans (al.mono b3.size)
  have Q4 := hide q4
  have MB := hide (show RBox w4 M 25 (pgA num lsn (.slice a1 cs.length c1) (.slice a2 gs.length c2)) by rw [hw4, hM]; exact RBox.new _ _ _)
  have C4 := hide (C2.out.below b24)
  have RB4 := hide (RB2.out.below b24)
  have D4 := hide (D2.out.below b24)
  have E4 := hide (E2.out.below b24)
  have B24 := hide b24
  have HM2 := hide (show w2.heap.size ≤ M by rw [hM]; exact b3.size)
  rw [← hM]
  have LB := hide (show ∀ z, ((Value.slice a1 cs.length c1).ownBlock = some z ∨ (Value.slice a2 gs.length c2).ownBlock = some z) → w2.heap.size ≤ z ∧ z < M from fun z q => by rw [hM]; rcases q with q | q; exact World.ownsRow.lt g1 z q; exact World.ownsRow.lt g2 z q)
  clear hw4 hM al q4 b24 b3 g1 g2 ap c0 c4 c6 f0 f1 f2 f3 C2 RB2 D2 E2 K17 HIN
  obtain ⟨c0, c4, c6⟩ := CL.out _ _ RB4.out
  obtain ⟨f0, -⟩ := C4.out.get 0 _ rfl
  obtain ⟨f1, -⟩ := C4.out.get 1 _ rfl
  obtain ⟨m0, n0⟩ := Q4.out.cl.get 0 _ rfl
  obtain ⟨m1, n1⟩ := Q4.out.cl.get 1 _ rfl
  obtain ⟨m2, n2⟩ := Q4.out.cl.get 2 _ rfl
  obtain ⟨m3, n3⟩ := Q4.out.cl.get 3 _ rfl
  have K8 := ((((Keep.refl (fun i => i = N + 2) w4).setCell (g := N + 2) (j := 0) (fun _ => rfl) (.int .i64 num)).setCell (g := N + 2) (j := 1) (fun _ => rfl) (.int .i64 lsn)).setCell (g := N + 2) (j := 2) (fun _ => rfl) (.slice a1 cs.length c1)).setCell (g := N + 2) (j := 3) (fun _ => rfl) (.slice a2 gs.length c2)
  have C8 := (((D4.out.stored (j := 0) (by simp) (.int .i64 num)).stored (j := 1) (by simp) (.int .i64 lsn)).stored (j := 2) (by simp) (.slice a1 cs.length c1)).stored (j := 3) (by simp) (.slice a2 gs.length c2)
  obtain ⟨y0, z0⟩ := D4.out.get 0 _ rfl
  obtain ⟨y1, z1⟩ := D4.out.get 1 _ rfl
  obtain ⟨y2, z2⟩ := D4.out.get 2 _ rfl
  obtain ⟨y3, z3⟩ := D4.out.get 3 _ rfl
  have HK8 := hide K8
  have HC8 := hide C8
  clear K8 C8
  obtain ⟨k0, _⟩ := HC8.out.get 0 _ rfl
  obtain ⟨k1, _⟩ := HC8.out.get 1 _ rfl
  obtain ⟨k2, _⟩ := HC8.out.get 2 _ rfl
  obtain ⟨k3, _⟩ := HC8.out.get 3 _ rfl
  go_wp2_with fail
  refine bodyPost_ret (v := .tuple #[.agg #[.int .i64 num, .int .i64 lsn, .slice a1 cs.length c1, .slice a2 gs.length c2], .bool false, .int .i64 0]) (by simp only [results, Try.results25]; simp [go_sem, k0, k1, k2, k3]) rfl ?_
  exact ⟨_, rfl, (Q4.out.keep HK8.out (by have := Z2.out; have := HM2.out; omega) (fun g hg q => by have := (LB.out g (.inl hg)).1; have := Z2.out; omega) (fun g hg q => by have := (LB.out g (.inr hg)).1; have := Z2.out; omega)).out.mono B2.out.size, (B2.out.trans (B24.out.mono B2.out.size)).trans (HK8.out.below (Nat.le_trans B2.out.size B24.out.size) (fun i hi q => by have := HN.out; omega))⟩
set_option maxHeartbeats 8000000 in
theorem rdo_oldS (p : Pg) (t : At) (r : Rc) (w : World) (h : PIn w p t) (hf : p.Fit) (h1 : chg r.k = true) (h2 : ¬ r.lsn < 1) (h3 : ¬ 2147483647 < r.lsn) (h4 : ¬ r.wp = r.sp) (h5 : ¬ p.num = r.wp) (h6 : p.num = r.sp) (hl : r.lsn ≤ p.lsn) : Calls Try.prog 25 #[pgV p t, recV r] w (DoPost w p r) := by
  obtain ⟨g2, g1, g3⟩ := do_old (p := p) (r := r) hl
  rw [show ckE p.num r = 0 from by unfold ckE; rw [if_neg (by rw [h1]; decide), if_neg (fun q => q.elim h2 (fun q => q.elim h3 h4)), if_neg (fun q => q.2 h6)]] at g2
  have g3 := g3 g2
  unfold DoPost
  rw [g1, g2, g3]
  clear g1 g2 g3
  obtain ⟨num, lsn, cs, gs⟩ := p
  obtain ⟨ta, tc, tb, td⟩ := t
  obtain ⟨RA, hRA⟩ : ∃ RA, RA = recA r := ⟨_, rfl⟩
  have SR := hide (show RA.size = 17 by rw [hRA]; rfl)
  have CL := hide (show ∀ (x : World) (n : Nat), RBox x n 38 RA → x.cell? ⟨n, 0, none⟩ = some (.int .i64 r.lsn) ∧ x.cell? ⟨n, 4, none⟩ = some (.int .i64 r.wp) ∧ x.cell? ⟨n, 6, none⟩ = some (.int .i64 r.sp) from fun x n q => by subst hRA; exact ⟨(q.cells.get 0 _ rfl).1, (q.cells.get 4 _ rfl).1, (q.cells.get 6 _ rfl).1⟩)
  have K34 := fun w' => rchanges_any r w'
  rw [h1] at K34
  have K17 := fun w' h => own_any ⟨num, lsn, cs, gs⟩ ⟨ta, tc, tb, td⟩ w' h (Nat.le_trans hf.lc (by decide)) (Nat.le_trans hf.lg (by decide))
  show Calls Try.prog 25 #[.agg (pgA num lsn (.slice ta cs.length tc) (.slice tb gs.length td)), .agg (recA r)] w _
  simp only [recV] at K34 
  simp only [pgV] at K17
  rw [← hRA] at K34  ⊢
  have b1' : decide (r.lsn < 1) = false := decide_eq_false h2
  have b2' : decide (2147483647 < r.lsn) = false := decide_eq_false h3
  have b3' : (r.wp == r.sp) = false := by simpa using h4
  have b4' : (num != r.wp) = true := by simpa using h5
  have b5' : (num != r.sp) = false := by simpa using h6
  have b6' : (num == r.wp) = false := by simpa using h5
  have b7' : decide (r.lsn ≤ lsn) = true := decide_eq_true hl
  have HIN := hide h
  clear h hRA
  go_enter Try.func25, Try.ntmps25
  go_upto_region 2 with fail
  refine named (P := Code.wp _ _ _ _) ?_
  intro w1 hw1
  obtain ⟨N, hN⟩ : ∃ N, N = w.heap.size := ⟨_, rfl⟩
  have b1 : Below w.heap.size w w1 := by rw [hw1]; exact bnext (bnext (bnext (alloc_below _ _) (alloc_below _ _) (Nat.le_refl _)) (alloc_below _ _) (Nat.le_refl _)) (alloc_below _ _) (Nat.le_refl _)
  have C1 := hide (show Cells w1 N [.int .i64 num, .int .i64 lsn, .slice ta cs.length tc, .slice tb gs.length td] by rw [hw1, hN]; exact (((Cells.new w (pgA num lsn (.slice ta cs.length tc) (.slice tb gs.length td)) 25).below (alloc_below _ _)).below (alloc_below _ _)).below (alloc_below _ _))
  have RB1 := hide (show RBox w1 (N + 1) 38 RA by
    rw [hw1, hN]
    have q := RBox.new (w.alloc (.cells (pgA num lsn (.slice ta cs.length tc) (.slice tb gs.length td)) 25)) RA 38
    rw [World.size_alloc] at q
    exact (q.below (alloc_below _ _)).below (alloc_below _ _))
  have D1 := hide (show Cells w1 (N + 2) [.int .i64 0, .int .i64 0, .slice none 0 0, .slice none 0 0] by
    rw [hw1, hN]
    have q := Cells.new ((w.alloc (.cells (pgA num lsn (.slice ta cs.length tc) (.slice tb gs.length td)) 25)).alloc (.cells RA 38)) #[.int .i64 0, .int .i64 0, .slice none 0 0, .slice none 0 0] 25
    rw [World.size_alloc, World.size_alloc] at q
    exact q.below (alloc_below _ _))
  have E1 := hide (show Cells w1 (N + 3) [.int .i64 0, .int .i64 0, .slice none 0 0, .slice none 0 0] by
    rw [hw1, hN]
    have q := Cells.new (((w.alloc (.cells (pgA num lsn (.slice ta cs.length tc) (.slice tb gs.length td)) 25)).alloc (.cells RA 38)).alloc (.cells #[.int .i64 0, .int .i64 0, .slice none 0 0, .slice none 0 0] 25)) #[.int .i64 0, .int .i64 0, .slice none 0 0, .slice none 0 0] 25
    rw [World.size_alloc, World.size_alloc, World.size_alloc] at q
    exact q)
  have B1 := hide b1
  have HN := hide hN
  rw [← hN]
  clear hN hw1 b1
  go_upto_region 2 with fail
  go_wp2_with (refine wpList_load38 RB1.out SR.out rfl ?_)
  refine (K34 _).mono ?_
  rintro e w2 ⟨rfl, h2⟩
  have C2 := hide (C1.out.below h2)
  have RB2 := hide (RB1.out.below h2)
  have D2 := hide (D1.out.below h2)
  have E2 := hide (E1.out.below h2)
  have B2 := hide (B1.out.trans (h2.mono B1.out.size))
  have Z2 := hide (show N + 4 ≤ w2.heap.size by have := E2.out.1; omega)
  clear h2 C1 RB1 D1 E1 B1 K34
  obtain ⟨c0, c4, c6⟩ := CL.out _ _ RB2.out
  obtain ⟨f0, -⟩ := C2.out.get 0 _ rfl
  obtain ⟨f1, -⟩ := C2.out.get 1 _ rfl
  obtain ⟨f2, -⟩ := C2.out.get 2 _ rfl
  obtain ⟨f3, -⟩ := C2.out.get 3 _ rfl
  clear hf h1 h2 h3 h4 h5 hl h6
  go_upto_region 9 with (go_at_call 17; refine (K17 _ (HIN.out.below B2.out)).mono ?_; rintro e w3 ⟨v, rfl, h3, b3⟩; obtain ⟨v1, v2, rfl, g1, g2, ap⟩ := h3; obtain ⟨a1, c1, rfl, -⟩ := GRow.lies g1; obtain ⟨a2, c2, rfl, -⟩ := GRow.lies g2; simp only [pgA])
  refine named (P := Code.wp _ _ _ _) ?_
  intro w4 hw4
  obtain ⟨M, hM⟩ : ∃ M, M = w3.heap.size := ⟨_, rfl⟩
  have al : Below w3.heap.size w3 w4 := by rw [hw4]; exact alloc_below _ _
  have q4 : PQ w4 w2.heap.size M (.slice a1 cs.length c1) (.slice a2 gs.length c2) ⟨num, lsn, cs, gs⟩ := by
    refine ⟨by rw [hw4, hM]; exact Cells.new w3 (pgA num lsn (.slice a1 cs.length c1) (.slice a2 gs.length c2)) 25, GRow.below g1 al, GRow.below g2 al, ap, fun q => ?_, fun q => ?_, by rw [hM]; exact b3.size⟩
    · have := (World.ownsRow.lt g1 _ q).2; omega
    · have := (World.ownsRow.lt g2 _ q).2; omega
  have b24 : Below w2.heap.size w2 w4 := b3.trans (al.mono b3.size)
  have Q4 := hide q4
  have MB := hide (show RBox w4 M 25 (pgA num lsn (.slice a1 cs.length c1) (.slice a2 gs.length c2)) by rw [hw4, hM]; exact RBox.new _ _ _)
  have C4 := hide (C2.out.below b24)
  have RB4 := hide (RB2.out.below b24)
  have D4 := hide (D2.out.below b24)
  have E4 := hide (E2.out.below b24)
  have B24 := hide b24
  have HM2 := hide (show w2.heap.size ≤ M by rw [hM]; exact b3.size)
  rw [← hM]
  have LB := hide (show ∀ z, ((Value.slice a1 cs.length c1).ownBlock = some z ∨ (Value.slice a2 gs.length c2).ownBlock = some z) → w2.heap.size ≤ z ∧ z < M from fun z q => by rw [hM]; rcases q with q | q; exact World.ownsRow.lt g1 z q; exact World.ownsRow.lt g2 z q)
  clear hw4 hM al q4 b24 b3 g1 g2 ap c0 c4 c6 f0 f1 f2 f3 C2 RB2 D2 E2 K17 HIN
  obtain ⟨c0, c4, c6⟩ := CL.out _ _ RB4.out
  obtain ⟨f0, -⟩ := C4.out.get 0 _ rfl
  obtain ⟨f1, -⟩ := C4.out.get 1 _ rfl
  obtain ⟨m0, n0⟩ := Q4.out.cl.get 0 _ rfl
  obtain ⟨m1, n1⟩ := Q4.out.cl.get 1 _ rfl
  obtain ⟨m2, n2⟩ := Q4.out.cl.get 2 _ rfl
  obtain ⟨m3, n3⟩ := Q4.out.cl.get 3 _ rfl
  have K8 := ((((Keep.refl (fun i => i = N + 2) w4).setCell (g := N + 2) (j := 0) (fun _ => rfl) (.int .i64 num)).setCell (g := N + 2) (j := 1) (fun _ => rfl) (.int .i64 lsn)).setCell (g := N + 2) (j := 2) (fun _ => rfl) (.slice a1 cs.length c1)).setCell (g := N + 2) (j := 3) (fun _ => rfl) (.slice a2 gs.length c2)
  have C8 := (((D4.out.stored (j := 0) (by simp) (.int .i64 num)).stored (j := 1) (by simp) (.int .i64 lsn)).stored (j := 2) (by simp) (.slice a1 cs.length c1)).stored (j := 3) (by simp) (.slice a2 gs.length c2)
  obtain ⟨y0, z0⟩ := D4.out.get 0 _ rfl
  obtain ⟨y1, z1⟩ := D4.out.get 1 _ rfl
  obtain ⟨y2, z2⟩ := D4.out.get 2 _ rfl
  obtain ⟨y3, z3⟩ := D4.out.get 3 _ rfl
  have HK8 := hide K8
  have HC8 := hide C8
  clear K8 C8
  obtain ⟨k0, _⟩ := HC8.out.get 0 _ rfl
  obtain ⟨k1, _⟩ := HC8.out.get 1 _ rfl
  obtain ⟨k2, _⟩ := HC8.out.get 2 _ rfl
  obtain ⟨k3, _⟩ := HC8.out.get 3 _ rfl
  go_wp2_with fail
  refine bodyPost_ret (v := .tuple #[.agg #[.int .i64 num, .int .i64 lsn, .slice a1 cs.length c1, .slice a2 gs.length c2], .bool false, .int .i64 0]) (by simp only [results, Try.results25]; simp [go_sem, k0, k1, k2, k3]) rfl ?_
  exact ⟨_, rfl, (Q4.out.keep HK8.out (by have := Z2.out; have := HM2.out; omega) (fun g hg q => by have := (LB.out g (.inl hg)).1; have := Z2.out; omega) (fun g hg q => by have := (LB.out g (.inr hg)).1; have := Z2.out; omega)).out.mono B2.out.size, (B2.out.trans (B24.out.mono B2.out.size)).trans (HK8.out.below (Nat.le_trans B2.out.size B24.out.size) (fun i hi q => by have := HN.out; omega))⟩
set_option maxHeartbeats 8000000 in
theorem rdo_ctr (p : Pg) (t : At) (r : Rc) (w : World) (h : PIn w p t) (hf : p.Fit) (hr : r.Fit) (h1 : chg r.k = true) (h2 : ¬ r.lsn < 1) (h3 : ¬ 2147483647 < r.lsn) (h4 : ¬ r.wp = r.sp) (h5 : p.num = r.wp) (hl : ¬ r.lsn ≤ p.lsn) : Calls Try.prog 25 #[pgV p t, recV r] w (DoPost w p r) := by
  have g2 : doE p r = ctrE p r := by unfold doE; rw [show ckE p.num r = 0 from by unfold ckE; rw [if_neg (by rw [h1]; decide), if_neg (fun q => q.elim h2 (fun q => q.elim h3 h4)), if_neg (fun q => q.1 h5)], if_neg (by decide), if_neg hl]; unfold chgE; rw [if_pos h5]
  have g4 : doE p r = 0 → didB p r = true ∧ doP p r = setL (ctrP p r) r.lsn := fun q => by
    refine ⟨did_iff.2 ⟨q, by omega⟩, ?_⟩
    unfold doP
    rw [if_neg (by rw [q]; decide), if_neg hl]
    unfold chgP
    rw [if_pos h5]
  have g5 : doE p r ≠ 0 → didB p r = false ∧ doP p r = none_ := fun q => ⟨did_ok q, by unfold doP; rw [if_pos q]⟩
  unfold DoPost
  rw [g2] at g4 g5 ⊢
  have KC := fun w' B v1 v2 g1 g2 ap hB => counted_any B v1 v2 p r w' g1 g2 ap hB hf h1 hr
  obtain ⟨E, hE⟩ : ∃ E, E = ctrE p r := ⟨_, rfl⟩
  obtain ⟨PPP, hPP⟩ : ∃ P, P = ctrP p r := ⟨_, rfl⟩
  rw [← hE] at g4 g5 KC ⊢
  rw [← hPP] at g4 KC
  have G4 := hide g4
  have G5 := hide g5
  obtain ⟨DB, hDB⟩ : ∃ D, D = didB p r := ⟨_, rfl⟩
  obtain ⟨DP, hDP⟩ : ∃ D, D = doP p r := ⟨_, rfl⟩
  rw [← hDB, ← hDP] at G4 G5 ⊢
  clear hE hPP g2 g4 g5 hDB hDP
  unfold CntPost at KC
  obtain ⟨num, lsn, cs, gs⟩ := p
  obtain ⟨ta, tc, tb, td⟩ := t
  obtain ⟨RA, hRA⟩ : ∃ RA, RA = recA r := ⟨_, rfl⟩
  have SR := hide (show RA.size = 17 by rw [hRA]; rfl)
  have CL := hide (show ∀ (x : World) (n : Nat), RBox x n 38 RA → x.cell? ⟨n, 0, none⟩ = some (.int .i64 r.lsn) ∧ x.cell? ⟨n, 4, none⟩ = some (.int .i64 r.wp) ∧ x.cell? ⟨n, 6, none⟩ = some (.int .i64 r.sp) from fun x n q => by subst hRA; exact ⟨(q.cells.get 0 _ rfl).1, (q.cells.get 4 _ rfl).1, (q.cells.get 6 _ rfl).1⟩)
  have K34 := fun w' => rchanges_any r w'
  rw [h1] at K34
  have K17 := fun w' h => own_any ⟨num, lsn, cs, gs⟩ ⟨ta, tc, tb, td⟩ w' h (Nat.le_trans hf.lc (by decide)) (Nat.le_trans hf.lg (by decide))
  show Calls Try.prog 25 #[.agg (pgA num lsn (.slice ta cs.length tc) (.slice tb gs.length td)), .agg (recA r)] w _
  simp only [recV] at K34 
  simp only [pgV] at K17
  rw [← hRA] at K34  ⊢
  have b1' : decide (r.lsn < 1) = false := decide_eq_false h2
  have b2' : decide (2147483647 < r.lsn) = false := decide_eq_false h3
  have b3' : (r.wp == r.sp) = false := by simpa using h4
  have b4' : (num != r.wp) = false := by simpa using h5
  have b6' : (num == r.wp) = true := by simpa using h5
  have b7' : decide (r.lsn ≤ lsn) = false := decide_eq_false hl
  simp only [recV] at KC
  rw [← hRA] at KC
  have HIN := hide h
  clear h hRA
  go_enter Try.func25, Try.ntmps25
  go_upto_region 2 with fail
  refine named (P := Code.wp _ _ _ _) ?_
  intro w1 hw1
  obtain ⟨N, hN⟩ : ∃ N, N = w.heap.size := ⟨_, rfl⟩
  have b1 : Below w.heap.size w w1 := by rw [hw1]; exact bnext (bnext (bnext (alloc_below _ _) (alloc_below _ _) (Nat.le_refl _)) (alloc_below _ _) (Nat.le_refl _)) (alloc_below _ _) (Nat.le_refl _)
  have C1 := hide (show Cells w1 N [.int .i64 num, .int .i64 lsn, .slice ta cs.length tc, .slice tb gs.length td] by rw [hw1, hN]; exact (((Cells.new w (pgA num lsn (.slice ta cs.length tc) (.slice tb gs.length td)) 25).below (alloc_below _ _)).below (alloc_below _ _)).below (alloc_below _ _))
  have RB1 := hide (show RBox w1 (N + 1) 38 RA by
    rw [hw1, hN]
    have q := RBox.new (w.alloc (.cells (pgA num lsn (.slice ta cs.length tc) (.slice tb gs.length td)) 25)) RA 38
    rw [World.size_alloc] at q
    exact (q.below (alloc_below _ _)).below (alloc_below _ _))
  have D1 := hide (show Cells w1 (N + 2) [.int .i64 0, .int .i64 0, .slice none 0 0, .slice none 0 0] by
    rw [hw1, hN]
    have q := Cells.new ((w.alloc (.cells (pgA num lsn (.slice ta cs.length tc) (.slice tb gs.length td)) 25)).alloc (.cells RA 38)) #[.int .i64 0, .int .i64 0, .slice none 0 0, .slice none 0 0] 25
    rw [World.size_alloc, World.size_alloc] at q
    exact q.below (alloc_below _ _))
  have E1 := hide (show Cells w1 (N + 3) [.int .i64 0, .int .i64 0, .slice none 0 0, .slice none 0 0] by
    rw [hw1, hN]
    have q := Cells.new (((w.alloc (.cells (pgA num lsn (.slice ta cs.length tc) (.slice tb gs.length td)) 25)).alloc (.cells RA 38)).alloc (.cells #[.int .i64 0, .int .i64 0, .slice none 0 0, .slice none 0 0] 25)) #[.int .i64 0, .int .i64 0, .slice none 0 0, .slice none 0 0] 25
    rw [World.size_alloc, World.size_alloc, World.size_alloc] at q
    exact q)
  have B1 := hide b1
  have HN := hide hN
  rw [← hN]
  clear hN hw1 b1
  go_upto_region 2 with fail
  go_wp2_with (refine wpList_load38 RB1.out SR.out rfl ?_)
  refine (K34 _).mono ?_
  rintro e w2 ⟨rfl, h2⟩
  have C2 := hide (C1.out.below h2)
  have RB2 := hide (RB1.out.below h2)
  have D2 := hide (D1.out.below h2)
  have E2 := hide (E1.out.below h2)
  have B2 := hide (B1.out.trans (h2.mono B1.out.size))
  have Z2 := hide (show N + 4 ≤ w2.heap.size by have := E2.out.1; omega)
  clear h2 C1 RB1 D1 E1 B1 K34
  obtain ⟨c0, c4, c6⟩ := CL.out _ _ RB2.out
  obtain ⟨f0, -⟩ := C2.out.get 0 _ rfl
  obtain ⟨f1, -⟩ := C2.out.get 1 _ rfl
  obtain ⟨f2, -⟩ := C2.out.get 2 _ rfl
  obtain ⟨f3, -⟩ := C2.out.get 3 _ rfl
  clear hf hr h1 h2 h3 h4 h5 hl
  go_upto_region 9 with (go_at_call 17; refine (K17 _ (HIN.out.below B2.out)).mono ?_; rintro e w3 ⟨v, rfl, h3, b3⟩; obtain ⟨v1, v2, rfl, g1, g2, ap⟩ := h3; obtain ⟨a1, c1, rfl, -⟩ := GRow.lies g1; obtain ⟨a2, c2, rfl, -⟩ := GRow.lies g2; simp only [pgA])
  refine named (P := Code.wp _ _ _ _) ?_
  intro w4 hw4
  obtain ⟨M, hM⟩ : ∃ M, M = w3.heap.size := ⟨_, rfl⟩
  have al : Below w3.heap.size w3 w4 := by rw [hw4]; exact alloc_below _ _
  have q4 : PQ w4 w2.heap.size M (.slice a1 cs.length c1) (.slice a2 gs.length c2) ⟨num, lsn, cs, gs⟩ := by
    refine ⟨by rw [hw4, hM]; exact Cells.new w3 (pgA num lsn (.slice a1 cs.length c1) (.slice a2 gs.length c2)) 25, GRow.below g1 al, GRow.below g2 al, ap, fun q => ?_, fun q => ?_, by rw [hM]; exact b3.size⟩
    · have := (World.ownsRow.lt g1 _ q).2; omega
    · have := (World.ownsRow.lt g2 _ q).2; omega
  have b24 : Below w2.heap.size w2 w4 := b3.trans (al.mono b3.size)
  have Q4 := hide q4
  have MB := hide (show RBox w4 M 25 (pgA num lsn (.slice a1 cs.length c1) (.slice a2 gs.length c2)) by rw [hw4, hM]; exact RBox.new _ _ _)
  have C4 := hide (C2.out.below b24)
  have RB4 := hide (RB2.out.below b24)
  have D4 := hide (D2.out.below b24)
  have E4 := hide (E2.out.below b24)
  have B24 := hide b24
  have HM2 := hide (show w2.heap.size ≤ M by rw [hM]; exact b3.size)
  rw [← hM]
  have LB := hide (show ∀ z, ((Value.slice a1 cs.length c1).ownBlock = some z ∨ (Value.slice a2 gs.length c2).ownBlock = some z) → w2.heap.size ≤ z ∧ z < M from fun z q => by rw [hM]; rcases q with q | q; exact World.ownsRow.lt g1 z q; exact World.ownsRow.lt g2 z q)
  clear hw4 hM al q4 b24 b3 g1 g2 ap c0 c4 c6 f0 f1 f2 f3 C2 RB2 D2 E2 K17 HIN
  obtain ⟨c0, c4, c6⟩ := CL.out _ _ RB4.out
  obtain ⟨f0, -⟩ := C4.out.get 0 _ rfl
  obtain ⟨f1, -⟩ := C4.out.get 1 _ rfl
  obtain ⟨m0, n0⟩ := Q4.out.cl.get 0 _ rfl
  obtain ⟨m1, n1⟩ := Q4.out.cl.get 1 _ rfl
  obtain ⟨m2, n2⟩ := Q4.out.cl.get 2 _ rfl
  obtain ⟨m3, n3⟩ := Q4.out.cl.get 3 _ rfl
  go_upto_region 13 with fail
  go_wp2_with (refine wpList_load38 RB4.out SR.out rfl ?_)
  refine (KC _ _ _ _ Q4.out.g1 Q4.out.g2 Q4.out.ap (B24.out.size)).mono ?_
  rintro e w5 ⟨pn, pl, ya, yk, yc, yb, yl, yd, rfl, ⟨b5, k5⟩, po⟩
  clear KC c0 c4 c6 f0 f1 m0 m1 m2 m3 n0 n1 n2 n3
  have HM5 := hide (show Cells w5 M _ from Q4.out.cl.keep k5 (fun q => by have := (LB.out M q).2; omega))
  have MB5 := hide (MB.out.keep k5 (fun q => by have := (LB.out M q).2; omega))
  have RB5 := hide (RB4.out.keep k5 (fun q => by have := (LB.out _ q).1; have := Z2.out; omega))
  have D5 := hide (D4.out.keep k5 (fun q => by have := (LB.out _ q).1; have := Z2.out; omega))
  have E5 := hide (E4.out.keep k5 (fun q => by have := (LB.out _ q).1; have := Z2.out; omega))
  have B5 := hide (B2.out.trans ((B24.out.trans b5).mono B2.out.size))
  have S5 := hide (show M < w5.heap.size from Nat.lt_of_lt_of_le Q4.out.lt b5.size)
  have PO := hide po
  clear po Q4 RB4 D4 E4 C4 b5 k5 LB
  obtain ⟨n0, z0⟩ := HM5.out.get 0 _ rfl
  obtain ⟨n1, z1⟩ := HM5.out.get 1 _ rfl
  obtain ⟨n2, z2⟩ := HM5.out.get 2 _ rfl
  obtain ⟨n3, z3⟩ := HM5.out.get 3 _ rfl
  go_upto_region 15 with fail
  refine named (P := Code.wp _ _ _ _) ?_
  intro w6 hw6
  have k6 : Keep (fun z => z = M) w5 w6 := by rw [hw6]; exact ((((Keep.refl (fun z => z = M) w5).setCell (fun _ => rfl) _).setCell (fun _ => rfl) _).setCell (fun _ => rfl) _).setCell (fun _ => rfl) _
  have HM6 := hide (show Cells w6 M [.int .i64 pn, .int .i64 pl, .slice ya yk yc, .slice yb yl yd] by rw [hw6]; exact (((HM5.out.stored (j := 0) (by simp) (.int .i64 pn)).stored (j := 1) (by simp) (.int .i64 pl)).stored (j := 2) (by simp) (.slice ya yk yc)).stored (j := 3) (by simp) (.slice yb yl yd))
  have RB6 := hide (RB5.out.keep k6 (by have := Z2.out; have := HM2.out; omega))
  have D6 := hide (D5.out.keep k6 (by have := Z2.out; have := HM2.out; omega))
  have E6 := hide (E5.out.keep k6 (by have := Z2.out; have := HM2.out; omega))
  have K6 := hide k6
  have B6 := hide (B5.out.trans (k6.below B5.out.size (fun i hi q => by have := Z2.out; have := HM2.out; have := HN.out; omega)))
  clear hw6 k6 n0 n1 n2 n3 z0 z1 z2 z3 HM5 RB5 D5 E5 B5
  by_cases e0 : E = 0
  · obtain ⟨d1, d2⟩ := G4.out e0
    subst d1 d2
    have q0 : (E != 0) = false := by simp [e0]
    have PO5 := PO.out e0
    obtain ⟨x1, x2, ex, px1, px2, pap⟩ := PO5
    simp only [pgA, Value.agg.injEq] at ex
    have ex1 : pn = PPP.num ∧ pl = PPP.lsn ∧ Value.slice ya yk yc = x1 ∧ Value.slice yb yl yd = x2 := by simpa using ex
    obtain ⟨rfl, rfl, rfl, rfl⟩ := ex1
    clear ex
    obtain ⟨qa, qc, qe, -⟩ := GRow.lies px1
    cases qe
    obtain ⟨qa, qc, qe, -⟩ := GRow.lies px2
    cases qe
    obtain ⟨m0, -⟩ := HM6.out.get 0 _ rfl
    obtain ⟨m1, i1⟩ := HM6.out.get 1 _ rfl
    obtain ⟨m2, -⟩ := HM6.out.get 2 _ rfl
    obtain ⟨m3, -⟩ := HM6.out.get 3 _ rfl
    obtain ⟨c0, -, -⟩ := CL.out _ _ RB6.out
    have NM := hide (show (Value.slice ya PPP.cs.length yc).ownBlock ≠ some M ∧ (Value.slice yb PPP.gs.length yd).ownBlock ≠ some M from ⟨offM MB5.out px1 (by decide), offM MB5.out px2 (by decide)⟩)
    have R1 := hide px1
    have R2 := hide px2
    have RAP := hide pap
    have E0 := hide e0
    clear px1 px2 pap e0
    go_upto_region 18 with fail
    refine named (P := Code.wp _ _ _ _) ?_
    intro w7 hw7
    have k7 : Keep (fun z => z = M) w6 w7 := by rw [hw7]; exact (Keep.refl (fun z => z = M) w6).setCell (fun _ => rfl) _
    have HM7 := hide (show Cells w7 M [.int .i64 PPP.num, .int .i64 r.lsn, .slice ya PPP.cs.length yc, .slice yb PPP.gs.length yd] by rw [hw7]; exact HM6.out.stored (j := 1) (by simp) _)
    have D7 := hide (D6.out.keep k7 (by have := Z2.out; have := HM2.out; omega))
    have K7 := hide k7
    have B7 := hide (B6.out.trans (k7.below B6.out.size (fun i hi q => by have := Z2.out; have := HM2.out; have := HN.out; omega)))
    clear hw7 k7 m0 m1 m2 m3 i1 c0 HM6 D6 B6
    obtain ⟨m0, -⟩ := HM7.out.get 0 _ rfl
    obtain ⟨m1, -⟩ := HM7.out.get 1 _ rfl
    obtain ⟨m2, -⟩ := HM7.out.get 2 _ rfl
    obtain ⟨m3, -⟩ := HM7.out.get 3 _ rfl
    have K8 := ((((Keep.refl (fun i => i = N + 2) w7).setCell (g := N + 2) (j := 0) (fun _ => rfl) (.int .i64 PPP.num)).setCell (g := N + 2) (j := 1) (fun _ => rfl) (.int .i64 r.lsn)).setCell (g := N + 2) (j := 2) (fun _ => rfl) (.slice ya PPP.cs.length yc)).setCell (g := N + 2) (j := 3) (fun _ => rfl) (.slice yb PPP.gs.length yd)
    have C8 := (((D7.out.stored (j := 0) (by simp) (.int .i64 PPP.num)).stored (j := 1) (by simp) (.int .i64 r.lsn)).stored (j := 2) (by simp) (.slice ya PPP.cs.length yc)).stored (j := 3) (by simp) (.slice yb PPP.gs.length yd)
    obtain ⟨y0, z0⟩ := D7.out.get 0 _ rfl
    obtain ⟨y1, z1⟩ := D7.out.get 1 _ rfl
    obtain ⟨y2, z2⟩ := D7.out.get 2 _ rfl
    obtain ⟨y3, z3⟩ := D7.out.get 3 _ rfl
    have HK8 := hide K8
    have HC8 := hide C8
    clear K8 C8
    obtain ⟨k0, _⟩ := HC8.out.get 0 _ rfl
    obtain ⟨k1, _⟩ := HC8.out.get 1 _ rfl
    obtain ⟨k2, _⟩ := HC8.out.get 2 _ rfl
    obtain ⟨k3, _⟩ := HC8.out.get 3 _ rfl
    go_wp2_with fail
    refine bodyPost_ret (v := .tuple #[.agg #[.int .i64 PPP.num, .int .i64 r.lsn, .slice ya PPP.cs.length yc, .slice yb PPP.gs.length yd], .bool true, .int .i64 0]) (by simp only [results, Try.results25]; simp [go_sem, k0, k1, k2, k3]) rfl ?_
    have lo1 : ∀ z, (Value.slice ya PPP.cs.length yc).ownBlock = some z → ¬ z = M ∧ ¬ z = N + 2 := fun z q => ⟨fun e => NM.out.1 (by rw [← e]; exact q), by have := (World.ownsRow.lt R1.out z q).1; have := Z2.out; omega⟩
    have lo2 : ∀ z, (Value.slice yb PPP.gs.length yd).ownBlock = some z → ¬ z = M ∧ ¬ z = N + 2 := fun z q => ⟨fun e => NM.out.2 (by rw [← e]; exact q), by have := (World.ownsRow.lt R2.out z q).1; have := Z2.out; omega⟩
    have r1 := GRow.keep (GRow.keep (GRow.keep R1.out K6.out (fun z q => (lo1 z q).1)) K7.out (fun z q => (lo1 z q).1)) HK8.out (fun z q => (lo1 z q).2)
    have r2 := GRow.keep (GRow.keep (GRow.keep R2.out K6.out (fun z q => (lo2 z q).1)) K7.out (fun z q => (lo2 z q).1)) HK8.out (fun z q => (lo2 z q).2)
    exact ⟨_, by rw [E0.out]; rfl, ⟨_, _, rfl, GRow.mono r1 B2.out.size, GRow.mono r2 B2.out.size, RAP.out⟩, B7.out.trans (HK8.out.below B7.out.size (fun i hi q => by have := HN.out; omega))⟩
  · obtain ⟨d1, d2⟩ := G5.out e0
    subst d1 d2
    have q0 : (E != 0) = true := by simpa using e0
    clear e0 PO G4 G5
    obtain ⟨x0, -⟩ := E6.out.get 0 _ rfl
    obtain ⟨x1, -⟩ := E6.out.get 1 _ rfl
    obtain ⟨x2, -⟩ := E6.out.get 2 _ rfl
    obtain ⟨x3, -⟩ := E6.out.get 3 _ rfl
    have K8 := ((((Keep.refl (fun i => i = N + 2) w6).setCell (g := N + 2) (j := 0) (fun _ => rfl) (.int .i64 0)).setCell (g := N + 2) (j := 1) (fun _ => rfl) (.int .i64 0)).setCell (g := N + 2) (j := 2) (fun _ => rfl) (.slice none 0 0)).setCell (g := N + 2) (j := 3) (fun _ => rfl) (.slice none 0 0)
    have C8 := (((D6.out.stored (j := 0) (by simp) (.int .i64 0)).stored (j := 1) (by simp) (.int .i64 0)).stored (j := 2) (by simp) (.slice none 0 0)).stored (j := 3) (by simp) (.slice none 0 0)
    obtain ⟨y0, z0⟩ := D6.out.get 0 _ rfl
    obtain ⟨y1, z1⟩ := D6.out.get 1 _ rfl
    obtain ⟨y2, z2⟩ := D6.out.get 2 _ rfl
    obtain ⟨y3, z3⟩ := D6.out.get 3 _ rfl
    have HK8 := hide K8
    have HC8 := hide C8
    clear K8 C8
    obtain ⟨k0, _⟩ := HC8.out.get 0 _ rfl
    obtain ⟨k1, _⟩ := HC8.out.get 1 _ rfl
    obtain ⟨k2, _⟩ := HC8.out.get 2 _ rfl
    obtain ⟨k3, _⟩ := HC8.out.get 3 _ rfl
    go_wp2_with fail
    refine bodyPost_ret (v := .tuple #[.agg #[.int .i64 0, .int .i64 0, .slice none 0 0, .slice none 0 0], .bool false, .int .i64 E]) (by simp only [results, Try.results25]; simp [go_sem, k0, k1, k2, k3]) rfl ?_
    exact ⟨_, rfl, PgOut.none _ _, B6.out.trans (HK8.out.below B6.out.size (fun i hi q => by have := HN.out; omega))⟩
set_option maxHeartbeats 8000000 in
theorem rdo_sum (p : Pg) (t : At) (r : Rc) (w : World) (h : PIn w p t) (hf : p.Fit) (hr : r.Fit) (h1 : chg r.k = true) (h2 : ¬ r.lsn < 1) (h3 : ¬ 2147483647 < r.lsn) (h4 : ¬ r.wp = r.sp) (h5 : ¬ p.num = r.wp) (h6 : p.num = r.sp) (hl : ¬ r.lsn ≤ p.lsn) : Calls Try.prog 25 #[pgV p t, recV r] w (DoPost w p r) := by
  have g2 : doE p r = sumE p r := by unfold doE; rw [show ckE p.num r = 0 from by unfold ckE; rw [if_neg (by rw [h1]; decide), if_neg (fun q => q.elim h2 (fun q => q.elim h3 h4)), if_neg (fun q => q.2 h6)], if_neg (by decide), if_neg hl]; unfold chgE; rw [if_neg h5]
  have g4 : doE p r = 0 → didB p r = true ∧ doP p r = setL (sumP p r) r.lsn := fun q => by
    refine ⟨did_iff.2 ⟨q, by omega⟩, ?_⟩
    unfold doP
    rw [if_neg (by rw [q]; decide), if_neg hl]
    unfold chgP
    rw [if_neg h5]
  have g5 : doE p r ≠ 0 → didB p r = false ∧ doP p r = none_ := fun q => ⟨did_ok q, by unfold doP; rw [if_pos q]⟩
  unfold DoPost
  rw [g2] at g4 g5 ⊢
  have KC := fun w' B v1 v2 g1 g2 ap hB => summed_any B v1 v2 p r w' g1 g2 ap hB hf h1 hr
  obtain ⟨E, hE⟩ : ∃ E, E = sumE p r := ⟨_, rfl⟩
  obtain ⟨PPP, hPP⟩ : ∃ P, P = sumP p r := ⟨_, rfl⟩
  rw [← hE] at g4 g5 KC ⊢
  rw [← hPP] at g4 KC
  have G4 := hide g4
  have G5 := hide g5
  obtain ⟨DB, hDB⟩ : ∃ D, D = didB p r := ⟨_, rfl⟩
  obtain ⟨DP, hDP⟩ : ∃ D, D = doP p r := ⟨_, rfl⟩
  rw [← hDB, ← hDP] at G4 G5 ⊢
  clear hE hPP g2 g4 g5 hDB hDP
  unfold CntPost at KC
  obtain ⟨num, lsn, cs, gs⟩ := p
  obtain ⟨ta, tc, tb, td⟩ := t
  obtain ⟨RA, hRA⟩ : ∃ RA, RA = recA r := ⟨_, rfl⟩
  have SR := hide (show RA.size = 17 by rw [hRA]; rfl)
  have CL := hide (show ∀ (x : World) (n : Nat), RBox x n 38 RA → x.cell? ⟨n, 0, none⟩ = some (.int .i64 r.lsn) ∧ x.cell? ⟨n, 4, none⟩ = some (.int .i64 r.wp) ∧ x.cell? ⟨n, 6, none⟩ = some (.int .i64 r.sp) from fun x n q => by subst hRA; exact ⟨(q.cells.get 0 _ rfl).1, (q.cells.get 4 _ rfl).1, (q.cells.get 6 _ rfl).1⟩)
  have K34 := fun w' => rchanges_any r w'
  rw [h1] at K34
  have K17 := fun w' h => own_any ⟨num, lsn, cs, gs⟩ ⟨ta, tc, tb, td⟩ w' h (Nat.le_trans hf.lc (by decide)) (Nat.le_trans hf.lg (by decide))
  show Calls Try.prog 25 #[.agg (pgA num lsn (.slice ta cs.length tc) (.slice tb gs.length td)), .agg (recA r)] w _
  simp only [recV] at K34 
  simp only [pgV] at K17
  rw [← hRA] at K34  ⊢
  have b1' : decide (r.lsn < 1) = false := decide_eq_false h2
  have b2' : decide (2147483647 < r.lsn) = false := decide_eq_false h3
  have b3' : (r.wp == r.sp) = false := by simpa using h4
  have b4' : (num != r.wp) = true := by simpa using h5
  have b5' : (num != r.sp) = false := by simpa using h6
  have b6' : (num == r.wp) = false := by simpa using h5
  have b7' : decide (r.lsn ≤ lsn) = false := decide_eq_false hl
  simp only [recV] at KC
  rw [← hRA] at KC
  have HIN := hide h
  clear h hRA
  go_enter Try.func25, Try.ntmps25
  go_upto_region 2 with fail
  refine named (P := Code.wp _ _ _ _) ?_
  intro w1 hw1
  obtain ⟨N, hN⟩ : ∃ N, N = w.heap.size := ⟨_, rfl⟩
  have b1 : Below w.heap.size w w1 := by rw [hw1]; exact bnext (bnext (bnext (alloc_below _ _) (alloc_below _ _) (Nat.le_refl _)) (alloc_below _ _) (Nat.le_refl _)) (alloc_below _ _) (Nat.le_refl _)
  have C1 := hide (show Cells w1 N [.int .i64 num, .int .i64 lsn, .slice ta cs.length tc, .slice tb gs.length td] by rw [hw1, hN]; exact (((Cells.new w (pgA num lsn (.slice ta cs.length tc) (.slice tb gs.length td)) 25).below (alloc_below _ _)).below (alloc_below _ _)).below (alloc_below _ _))
  have RB1 := hide (show RBox w1 (N + 1) 38 RA by
    rw [hw1, hN]
    have q := RBox.new (w.alloc (.cells (pgA num lsn (.slice ta cs.length tc) (.slice tb gs.length td)) 25)) RA 38
    rw [World.size_alloc] at q
    exact (q.below (alloc_below _ _)).below (alloc_below _ _))
  have D1 := hide (show Cells w1 (N + 2) [.int .i64 0, .int .i64 0, .slice none 0 0, .slice none 0 0] by
    rw [hw1, hN]
    have q := Cells.new ((w.alloc (.cells (pgA num lsn (.slice ta cs.length tc) (.slice tb gs.length td)) 25)).alloc (.cells RA 38)) #[.int .i64 0, .int .i64 0, .slice none 0 0, .slice none 0 0] 25
    rw [World.size_alloc, World.size_alloc] at q
    exact q.below (alloc_below _ _))
  have E1 := hide (show Cells w1 (N + 3) [.int .i64 0, .int .i64 0, .slice none 0 0, .slice none 0 0] by
    rw [hw1, hN]
    have q := Cells.new (((w.alloc (.cells (pgA num lsn (.slice ta cs.length tc) (.slice tb gs.length td)) 25)).alloc (.cells RA 38)).alloc (.cells #[.int .i64 0, .int .i64 0, .slice none 0 0, .slice none 0 0] 25)) #[.int .i64 0, .int .i64 0, .slice none 0 0, .slice none 0 0] 25
    rw [World.size_alloc, World.size_alloc, World.size_alloc] at q
    exact q)
  have B1 := hide b1
  have HN := hide hN
  rw [← hN]
  clear hN hw1 b1
  go_upto_region 2 with fail
  go_wp2_with (refine wpList_load38 RB1.out SR.out rfl ?_)
  refine (K34 _).mono ?_
  rintro e w2 ⟨rfl, h2⟩
  have C2 := hide (C1.out.below h2)
  have RB2 := hide (RB1.out.below h2)
  have D2 := hide (D1.out.below h2)
  have E2 := hide (E1.out.below h2)
  have B2 := hide (B1.out.trans (h2.mono B1.out.size))
  have Z2 := hide (show N + 4 ≤ w2.heap.size by have := E2.out.1; omega)
  clear h2 C1 RB1 D1 E1 B1 K34
  obtain ⟨c0, c4, c6⟩ := CL.out _ _ RB2.out
  obtain ⟨f0, -⟩ := C2.out.get 0 _ rfl
  obtain ⟨f1, -⟩ := C2.out.get 1 _ rfl
  obtain ⟨f2, -⟩ := C2.out.get 2 _ rfl
  obtain ⟨f3, -⟩ := C2.out.get 3 _ rfl
  clear hf hr h1 h2 h3 h4 h5 hl h6
  go_upto_region 9 with (go_at_call 17; refine (K17 _ (HIN.out.below B2.out)).mono ?_; rintro e w3 ⟨v, rfl, h3, b3⟩; obtain ⟨v1, v2, rfl, g1, g2, ap⟩ := h3; obtain ⟨a1, c1, rfl, -⟩ := GRow.lies g1; obtain ⟨a2, c2, rfl, -⟩ := GRow.lies g2; simp only [pgA])
  refine named (P := Code.wp _ _ _ _) ?_
  intro w4 hw4
  obtain ⟨M, hM⟩ : ∃ M, M = w3.heap.size := ⟨_, rfl⟩
  have al : Below w3.heap.size w3 w4 := by rw [hw4]; exact alloc_below _ _
  have q4 : PQ w4 w2.heap.size M (.slice a1 cs.length c1) (.slice a2 gs.length c2) ⟨num, lsn, cs, gs⟩ := by
    refine ⟨by rw [hw4, hM]; exact Cells.new w3 (pgA num lsn (.slice a1 cs.length c1) (.slice a2 gs.length c2)) 25, GRow.below g1 al, GRow.below g2 al, ap, fun q => ?_, fun q => ?_, by rw [hM]; exact b3.size⟩
    · have := (World.ownsRow.lt g1 _ q).2; omega
    · have := (World.ownsRow.lt g2 _ q).2; omega
  have b24 : Below w2.heap.size w2 w4 := b3.trans (al.mono b3.size)
  have Q4 := hide q4
  have MB := hide (show RBox w4 M 25 (pgA num lsn (.slice a1 cs.length c1) (.slice a2 gs.length c2)) by rw [hw4, hM]; exact RBox.new _ _ _)
  have C4 := hide (C2.out.below b24)
  have RB4 := hide (RB2.out.below b24)
  have D4 := hide (D2.out.below b24)
  have E4 := hide (E2.out.below b24)
  have B24 := hide b24
  have HM2 := hide (show w2.heap.size ≤ M by rw [hM]; exact b3.size)
  rw [← hM]
  have LB := hide (show ∀ z, ((Value.slice a1 cs.length c1).ownBlock = some z ∨ (Value.slice a2 gs.length c2).ownBlock = some z) → w2.heap.size ≤ z ∧ z < M from fun z q => by rw [hM]; rcases q with q | q; exact World.ownsRow.lt g1 z q; exact World.ownsRow.lt g2 z q)
  clear hw4 hM al q4 b24 b3 g1 g2 ap c0 c4 c6 f0 f1 f2 f3 C2 RB2 D2 E2 K17 HIN
  obtain ⟨c0, c4, c6⟩ := CL.out _ _ RB4.out
  obtain ⟨f0, -⟩ := C4.out.get 0 _ rfl
  obtain ⟨f1, -⟩ := C4.out.get 1 _ rfl
  obtain ⟨m0, n0⟩ := Q4.out.cl.get 0 _ rfl
  obtain ⟨m1, n1⟩ := Q4.out.cl.get 1 _ rfl
  obtain ⟨m2, n2⟩ := Q4.out.cl.get 2 _ rfl
  obtain ⟨m3, n3⟩ := Q4.out.cl.get 3 _ rfl
  go_upto_region 14 with fail
  go_wp2_with (refine wpList_load38 RB4.out SR.out rfl ?_)
  refine (KC _ _ _ _ Q4.out.g1 Q4.out.g2 Q4.out.ap (B24.out.size)).mono ?_
  rintro e w5 ⟨pn, pl, ya, yk, yc, yb, yl, yd, rfl, ⟨b5, k5⟩, po⟩
  clear KC c0 c4 c6 f0 f1 m0 m1 m2 m3 n0 n1 n2 n3
  have HM5 := hide (show Cells w5 M _ from Q4.out.cl.keep k5 (fun q => by have := (LB.out M q).2; omega))
  have MB5 := hide (MB.out.keep k5 (fun q => by have := (LB.out M q).2; omega))
  have RB5 := hide (RB4.out.keep k5 (fun q => by have := (LB.out _ q).1; have := Z2.out; omega))
  have D5 := hide (D4.out.keep k5 (fun q => by have := (LB.out _ q).1; have := Z2.out; omega))
  have E5 := hide (E4.out.keep k5 (fun q => by have := (LB.out _ q).1; have := Z2.out; omega))
  have B5 := hide (B2.out.trans ((B24.out.trans b5).mono B2.out.size))
  have S5 := hide (show M < w5.heap.size from Nat.lt_of_lt_of_le Q4.out.lt b5.size)
  have PO := hide po
  clear po Q4 RB4 D4 E4 C4 b5 k5 LB
  obtain ⟨n0, z0⟩ := HM5.out.get 0 _ rfl
  obtain ⟨n1, z1⟩ := HM5.out.get 1 _ rfl
  obtain ⟨n2, z2⟩ := HM5.out.get 2 _ rfl
  obtain ⟨n3, z3⟩ := HM5.out.get 3 _ rfl
  go_upto_region 15 with fail
  refine named (P := Code.wp _ _ _ _) ?_
  intro w6 hw6
  have k6 : Keep (fun z => z = M) w5 w6 := by rw [hw6]; exact ((((Keep.refl (fun z => z = M) w5).setCell (fun _ => rfl) _).setCell (fun _ => rfl) _).setCell (fun _ => rfl) _).setCell (fun _ => rfl) _
  have HM6 := hide (show Cells w6 M [.int .i64 pn, .int .i64 pl, .slice ya yk yc, .slice yb yl yd] by rw [hw6]; exact (((HM5.out.stored (j := 0) (by simp) (.int .i64 pn)).stored (j := 1) (by simp) (.int .i64 pl)).stored (j := 2) (by simp) (.slice ya yk yc)).stored (j := 3) (by simp) (.slice yb yl yd))
  have RB6 := hide (RB5.out.keep k6 (by have := Z2.out; have := HM2.out; omega))
  have D6 := hide (D5.out.keep k6 (by have := Z2.out; have := HM2.out; omega))
  have E6 := hide (E5.out.keep k6 (by have := Z2.out; have := HM2.out; omega))
  have K6 := hide k6
  have B6 := hide (B5.out.trans (k6.below B5.out.size (fun i hi q => by have := Z2.out; have := HM2.out; have := HN.out; omega)))
  clear hw6 k6 n0 n1 n2 n3 z0 z1 z2 z3 HM5 RB5 D5 E5 B5
  by_cases e0 : E = 0
  · obtain ⟨d1, d2⟩ := G4.out e0
    subst d1 d2
    have q0 : (E != 0) = false := by simp [e0]
    have PO5 := PO.out e0
    obtain ⟨x1, x2, ex, px1, px2, pap⟩ := PO5
    simp only [pgA, Value.agg.injEq] at ex
    have ex1 : pn = PPP.num ∧ pl = PPP.lsn ∧ Value.slice ya yk yc = x1 ∧ Value.slice yb yl yd = x2 := by simpa using ex
    obtain ⟨rfl, rfl, rfl, rfl⟩ := ex1
    clear ex
    obtain ⟨qa, qc, qe, -⟩ := GRow.lies px1
    cases qe
    obtain ⟨qa, qc, qe, -⟩ := GRow.lies px2
    cases qe
    obtain ⟨m0, -⟩ := HM6.out.get 0 _ rfl
    obtain ⟨m1, i1⟩ := HM6.out.get 1 _ rfl
    obtain ⟨m2, -⟩ := HM6.out.get 2 _ rfl
    obtain ⟨m3, -⟩ := HM6.out.get 3 _ rfl
    obtain ⟨c0, -, -⟩ := CL.out _ _ RB6.out
    have NM := hide (show (Value.slice ya PPP.cs.length yc).ownBlock ≠ some M ∧ (Value.slice yb PPP.gs.length yd).ownBlock ≠ some M from ⟨offM MB5.out px1 (by decide), offM MB5.out px2 (by decide)⟩)
    have R1 := hide px1
    have R2 := hide px2
    have RAP := hide pap
    have E0 := hide e0
    clear px1 px2 pap e0
    go_upto_region 18 with fail
    refine named (P := Code.wp _ _ _ _) ?_
    intro w7 hw7
    have k7 : Keep (fun z => z = M) w6 w7 := by rw [hw7]; exact (Keep.refl (fun z => z = M) w6).setCell (fun _ => rfl) _
    have HM7 := hide (show Cells w7 M [.int .i64 PPP.num, .int .i64 r.lsn, .slice ya PPP.cs.length yc, .slice yb PPP.gs.length yd] by rw [hw7]; exact HM6.out.stored (j := 1) (by simp) _)
    have D7 := hide (D6.out.keep k7 (by have := Z2.out; have := HM2.out; omega))
    have K7 := hide k7
    have B7 := hide (B6.out.trans (k7.below B6.out.size (fun i hi q => by have := Z2.out; have := HM2.out; have := HN.out; omega)))
    clear hw7 k7 m0 m1 m2 m3 i1 c0 HM6 D6 B6
    obtain ⟨m0, -⟩ := HM7.out.get 0 _ rfl
    obtain ⟨m1, -⟩ := HM7.out.get 1 _ rfl
    obtain ⟨m2, -⟩ := HM7.out.get 2 _ rfl
    obtain ⟨m3, -⟩ := HM7.out.get 3 _ rfl
    have K8 := ((((Keep.refl (fun i => i = N + 2) w7).setCell (g := N + 2) (j := 0) (fun _ => rfl) (.int .i64 PPP.num)).setCell (g := N + 2) (j := 1) (fun _ => rfl) (.int .i64 r.lsn)).setCell (g := N + 2) (j := 2) (fun _ => rfl) (.slice ya PPP.cs.length yc)).setCell (g := N + 2) (j := 3) (fun _ => rfl) (.slice yb PPP.gs.length yd)
    have C8 := (((D7.out.stored (j := 0) (by simp) (.int .i64 PPP.num)).stored (j := 1) (by simp) (.int .i64 r.lsn)).stored (j := 2) (by simp) (.slice ya PPP.cs.length yc)).stored (j := 3) (by simp) (.slice yb PPP.gs.length yd)
    obtain ⟨y0, z0⟩ := D7.out.get 0 _ rfl
    obtain ⟨y1, z1⟩ := D7.out.get 1 _ rfl
    obtain ⟨y2, z2⟩ := D7.out.get 2 _ rfl
    obtain ⟨y3, z3⟩ := D7.out.get 3 _ rfl
    have HK8 := hide K8
    have HC8 := hide C8
    clear K8 C8
    obtain ⟨k0, _⟩ := HC8.out.get 0 _ rfl
    obtain ⟨k1, _⟩ := HC8.out.get 1 _ rfl
    obtain ⟨k2, _⟩ := HC8.out.get 2 _ rfl
    obtain ⟨k3, _⟩ := HC8.out.get 3 _ rfl
    go_wp2_with fail
    refine bodyPost_ret (v := .tuple #[.agg #[.int .i64 PPP.num, .int .i64 r.lsn, .slice ya PPP.cs.length yc, .slice yb PPP.gs.length yd], .bool true, .int .i64 0]) (by simp only [results, Try.results25]; simp [go_sem, k0, k1, k2, k3]) rfl ?_
    have lo1 : ∀ z, (Value.slice ya PPP.cs.length yc).ownBlock = some z → ¬ z = M ∧ ¬ z = N + 2 := fun z q => ⟨fun e => NM.out.1 (by rw [← e]; exact q), by have := (World.ownsRow.lt R1.out z q).1; have := Z2.out; omega⟩
    have lo2 : ∀ z, (Value.slice yb PPP.gs.length yd).ownBlock = some z → ¬ z = M ∧ ¬ z = N + 2 := fun z q => ⟨fun e => NM.out.2 (by rw [← e]; exact q), by have := (World.ownsRow.lt R2.out z q).1; have := Z2.out; omega⟩
    have r1 := GRow.keep (GRow.keep (GRow.keep R1.out K6.out (fun z q => (lo1 z q).1)) K7.out (fun z q => (lo1 z q).1)) HK8.out (fun z q => (lo1 z q).2)
    have r2 := GRow.keep (GRow.keep (GRow.keep R2.out K6.out (fun z q => (lo2 z q).1)) K7.out (fun z q => (lo2 z q).1)) HK8.out (fun z q => (lo2 z q).2)
    exact ⟨_, by rw [E0.out]; rfl, ⟨_, _, rfl, GRow.mono r1 B2.out.size, GRow.mono r2 B2.out.size, RAP.out⟩, B7.out.trans (HK8.out.below B7.out.size (fun i hi q => by have := HN.out; omega))⟩
  · obtain ⟨d1, d2⟩ := G5.out e0
    subst d1 d2
    have q0 : (E != 0) = true := by simpa using e0
    clear e0 PO G4 G5
    obtain ⟨x0, -⟩ := E6.out.get 0 _ rfl
    obtain ⟨x1, -⟩ := E6.out.get 1 _ rfl
    obtain ⟨x2, -⟩ := E6.out.get 2 _ rfl
    obtain ⟨x3, -⟩ := E6.out.get 3 _ rfl
    have K8 := ((((Keep.refl (fun i => i = N + 2) w6).setCell (g := N + 2) (j := 0) (fun _ => rfl) (.int .i64 0)).setCell (g := N + 2) (j := 1) (fun _ => rfl) (.int .i64 0)).setCell (g := N + 2) (j := 2) (fun _ => rfl) (.slice none 0 0)).setCell (g := N + 2) (j := 3) (fun _ => rfl) (.slice none 0 0)
    have C8 := (((D6.out.stored (j := 0) (by simp) (.int .i64 0)).stored (j := 1) (by simp) (.int .i64 0)).stored (j := 2) (by simp) (.slice none 0 0)).stored (j := 3) (by simp) (.slice none 0 0)
    obtain ⟨y0, z0⟩ := D6.out.get 0 _ rfl
    obtain ⟨y1, z1⟩ := D6.out.get 1 _ rfl
    obtain ⟨y2, z2⟩ := D6.out.get 2 _ rfl
    obtain ⟨y3, z3⟩ := D6.out.get 3 _ rfl
    have HK8 := hide K8
    have HC8 := hide C8
    clear K8 C8
    obtain ⟨k0, _⟩ := HC8.out.get 0 _ rfl
    obtain ⟨k1, _⟩ := HC8.out.get 1 _ rfl
    obtain ⟨k2, _⟩ := HC8.out.get 2 _ rfl
    obtain ⟨k3, _⟩ := HC8.out.get 3 _ rfl
    go_wp2_with fail
    refine bodyPost_ret (v := .tuple #[.agg #[.int .i64 0, .int .i64 0, .slice none 0 0, .slice none 0 0], .bool false, .int .i64 E]) (by simp only [results, Try.results25]; simp [go_sem, k0, k1, k2, k3]) rfl ?_
    exact ⟨_, rfl, PgOut.none _ _, B6.out.trans (HK8.out.below B6.out.size (fun i hi q => by have := HN.out; omega))⟩
theorem rdo_any (p : Pg) (t : At) (r : Rc) (w : World) (h : PIn w p t) (hf : p.Fit) (hr : r.Fit) : Calls Try.prog 25 #[pgV p t, recV r] w (DoPost w p r) := by
  cases h1 : chg r.k with
  | false => exact rdo_70 p t r w h hf h1
  | true =>
    by_cases h2 : r.lsn < 1
    · exact rdo_23a p t r w h hf h1 h2
    by_cases h3 : 2147483647 < r.lsn
    · exact rdo_23b p t r w h hf h1 h2 h3
    by_cases h4 : r.wp = r.sp
    · exact rdo_23c p t r w h hf h1 h2 h3 h4
    by_cases h5 : p.num = r.wp
    · by_cases hl : r.lsn ≤ p.lsn
      · exact rdo_oldW p t r w h hf h1 h2 h3 h4 h5 hl
      · exact rdo_ctr p t r w h hf hr h1 h2 h3 h4 h5 hl
    · by_cases h6 : p.num = r.sp
      · by_cases hl : r.lsn ≤ p.lsn
        · exact rdo_oldS p t r w h hf h1 h2 h3 h4 h5 h6 hl
        · exact rdo_sum p t r w h hf hr h1 h2 h3 h4 h5 h6 hl
      · exact rdo_82 p t r w h hf h1 h2 h3 h4 h5 h6
end Go.Proofs.Ytoocbpbaieedmaa
