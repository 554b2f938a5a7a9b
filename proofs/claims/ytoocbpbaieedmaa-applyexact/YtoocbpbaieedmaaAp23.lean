import Derived.Test.YtoocbpbaieedmaaAp22
namespace Go.Proofs.Ytoocbpbaieedmaa
open Go.RowKit Go.QK Quota
set_option maxRecDepth 100000
/-- What the document's 'counted' and 'summed' leave. -/
def CntPost (w : World) (B : Nat) (v1 v2 : Value) (E : Int) (P : Pg) (e : Ending) (w' : World) : Prop := ∃ n l a1 k1 c1 a2 k2 c2, e = .returned (.tuple #[.agg (pgA n l (.slice a1 k1 c1) (.slice a2 k2 c2)), .int .i64 E]) ∧ (Below B w w' ∧ Keep (fun z => v1.ownBlock = some z ∨ v2.ownBlock = some z) w w') ∧ (E = 0 → PgOut w' B (.agg (pgA n l (.slice a1 k1 c1) (.slice a2 k2 c2))) P)
set_option maxHeartbeats 8000000 in
theorem cn_gs (B : Nat) (v1 v2 : Value) (p : Pg) (r : Rc) (w : World) (g1 : GRow w B 32 5 v1 p.cs.length (rowsC ctrC p.cs)) (g2 : GRow w B 69 2 v2 p.gs.length (rowsC grpC p.gs)) (ap : ∀ g, v1.ownBlock = some g → v2.ownBlock ≠ some g) (hB : B ≤ w.heap.size) (hf : p.Fit) (h0 : 0 < p.gs.length) : Calls Try.prog 35 #[.agg (pgA p.num p.lsn v1 v2), recV r] w (CntPost w B v1 v2 (83) (p)) := by
  obtain ⟨E, hE⟩ : ∃ E : Int, E = 83 := ⟨_, rfl⟩
  rw [← hE]
  unfold CntPost
  have HE := hide hE
  clear hE
  obtain ⟨num, lsn, cs, gs⟩ := p
  obtain ⟨RA, hRA⟩ : ∃ RA, RA = recA r := ⟨_, rfl⟩
  have SR := hide (show RA.size = 17 by rw [hRA]; rfl)
  have CL := hide (show ∀ (x : World) (n : Nat), RBox x n 38 RA → x.cell? ⟨n, 5, none⟩ = some (.int .i64 r.wi) ∧ x.cell? ⟨n, 1, none⟩ = some (.int .i64 r.k) from fun x n q => by subst hRA; exact ⟨(q.cells.get 5 _ rfl).1, (q.cells.get 1 _ rfl).1⟩)
  have h0b : decide (0 < gs.length) = true := decide_eq_true h0
  show Calls Try.prog 35 #[.agg (pgA num lsn v1 v2), .agg (recA r)] w _
  obtain ⟨ta, tc, e1, -⟩ := GRow.lies g1
  obtain ⟨tb, td, e2, -⟩ := GRow.lies g2
  subst e1 e2
  rw [← hRA]
  have G1 := hide g1
  have G2 := hide g2
  have AP := hide ap
  have HB := hide hB
  clear g1 g2 ap hB hRA
  try dsimp only at hf
  go_enter Try.func35, Try.ntmps35
  go_upto_region 1 with fail
  refine named (P := Code.wp _ _ _ _) ?_
  intro w1 hw1
  obtain ⟨N, hN⟩ : ∃ N, N = w.heap.size := ⟨_, rfl⟩
  have b1 : Below w.heap.size w w1 := by rw [hw1]; exact bnext (bnext (alloc_below _ _) (alloc_below _ _) (Nat.le_refl _)) (alloc_below _ _) (Nat.le_refl _)
  have PQ1 := hide (show PQ w1 B N (.slice ta cs.length tc) (.slice tb gs.length td) ⟨num, lsn, cs, gs⟩ from ⟨by rw [hw1, hN]; exact ((Cells.new w (pgA num lsn (.slice ta cs.length tc) (.slice tb gs.length td)) 25).below (alloc_below _ _)).below (alloc_below _ _), GRow.below G1.out b1, GRow.below G2.out b1, AP.out, fun q => by have := (World.ownsRow.lt G1.out _ q).2; omega, fun q => by have := (World.ownsRow.lt G2.out _ q).2; omega, by have := HB.out; omega⟩)
  have RB1 := hide (show RBox w1 (N + 1) 38 RA by
    rw [hw1, hN]
    have q := RBox.new (w.alloc (.cells (pgA num lsn (.slice ta cs.length tc) (.slice tb gs.length td)) 25)) RA 38
    rw [World.size_alloc] at q
    exact q.below (alloc_below _ _))
  have D1 := hide (show Cells w1 (N + 2) [.int .i64 0, .int .i64 0, .slice none 0 0, .slice none 0 0] by
    rw [hw1, hN]
    have q := Cells.new ((w.alloc (.cells (pgA num lsn (.slice ta cs.length tc) (.slice tb gs.length td)) 25)).alloc (.cells RA 38)) #[.int .i64 0, .int .i64 0, .slice none 0 0, .slice none 0 0] 25
    rw [World.size_alloc, World.size_alloc] at q
    exact q)
  have LT := hide (show ∀ gz, ((Value.slice ta cs.length tc).ownBlock = some gz ∨ (Value.slice tb gs.length td).ownBlock = some gz) → gz < N from fun gz q => by rcases q with q | q; exact hN ▸ (World.ownsRow.lt G1.out gz q).2; exact hN ▸ (World.ownsRow.lt G2.out gz q).2)
  have B1 := hide b1
  have HN := hide hN
  have IN1 := hide (show PIn w1 ⟨num, lsn, cs, gs⟩ ⟨ta, tc, tb, td⟩ from by obtain ⟨t, h1, h2, h3⟩ := PQ1.out.in_; obtain ⟨xa, xc, xb, xd⟩ := t; simp only [Value.slice.injEq] at h1 h2; obtain ⟨rfl, -, rfl⟩ := h1; obtain ⟨rfl, -, rfl⟩ := h2; exact h3)
  rw [← hN]
  clear hN hw1 b1 G1 G2
  obtain ⟨c5, c1⟩ := CL.out _ _ RB1.out
  obtain ⟨f2, -⟩ := PQ1.out.cl.get 2 _ rfl
  obtain ⟨f3, -⟩ := PQ1.out.cl.get 3 _ rfl
  go_upto_region 4 with (go_quiet (fail))
  refine named (P := Code.wp _ _ _ _) ?_
  intro w2 hw2
  have b2 : Below w1.heap.size w1 w2 := by first | (rw [hw2]; exact bel (Below.refl _ _)) | (rw [hw2]; exact Below.refl _ _)
  have PQ2 := hide (PQ1.out.below b2)
  have RB2 := hide (RB1.out.below b2)
  have D2 := hide (D1.out.below b2)
  have B2 := hide (B1.out.trans (b2.mono B1.out.size))
  have IN2 := hide (IN1.out.below b2)
  clear hw2 b2 f2 f3 c5 c1 PQ1 RB1 D1 B1 IN1
  obtain ⟨m0, -⟩ := PQ2.out.cl.get 0 _ rfl
  obtain ⟨m1, -⟩ := PQ2.out.cl.get 1 _ rfl
  obtain ⟨m2, -⟩ := PQ2.out.cl.get 2 _ rfl
  obtain ⟨m3, -⟩ := PQ2.out.cl.get 3 _ rfl
  have K8 := ((((Keep.refl (fun i => i = N + 2) w2).setCell (g := N + 2) (j := 0) (fun _ => rfl) (.int .i64 num)).setCell (g := N + 2) (j := 1) (fun _ => rfl) (.int .i64 lsn)).setCell (g := N + 2) (j := 2) (fun _ => rfl) (.slice ta cs.length tc)).setCell (g := N + 2) (j := 3) (fun _ => rfl) (.slice tb gs.length td)
  have C8 := (((D2.out.stored (j := 0) (by simp) (.int .i64 num)).stored (j := 1) (by simp) (.int .i64 lsn)).stored (j := 2) (by simp) (.slice ta cs.length tc)).stored (j := 3) (by simp) (.slice tb gs.length td)
  obtain ⟨y0, z0⟩ := D2.out.get 0 _ rfl
  obtain ⟨y1, z1⟩ := D2.out.get 1 _ rfl
  obtain ⟨y2, z2⟩ := D2.out.get 2 _ rfl
  obtain ⟨y3, z3⟩ := D2.out.get 3 _ rfl
  have HK8 := hide K8
  have HC8 := hide C8
  clear K8 C8
  obtain ⟨k0, _⟩ := HC8.out.get 0 _ rfl
  obtain ⟨k1, _⟩ := HC8.out.get 1 _ rfl
  obtain ⟨k2, _⟩ := HC8.out.get 2 _ rfl
  obtain ⟨k3, _⟩ := HC8.out.get 3 _ rfl
  go_wp2_with fail
  refine bodyPost_ret (v := .tuple #[.agg #[.int .i64 num, .int .i64 lsn, .slice ta cs.length tc, .slice tb gs.length td], .int .i64 83]) (by simp only [results, Try.results35]; simp [go_sem, k0, k1, k2, k3]) rfl ?_
  exact ⟨_, _, _, _, _, _, _, _, by rw [HE.out], ⟨(B2.out.trans (HK8.out.below B2.out.size (fun i hi q => by have := HN.out; omega))).mono HB.out, Keep.of_below (B2.out.trans (HK8.out.below B2.out.size (fun i hi q => by have := HN.out; omega)))⟩, fun q => by rw [HE.out] at q; cases q⟩
set_option maxHeartbeats 8000000 in
theorem cn_new1 (B : Nat) (v1 v2 : Value) (p : Pg) (r : Rc) (w : World) (g1 : GRow w B 32 5 v1 p.cs.length (rowsC ctrC p.cs)) (g2 : GRow w B 69 2 v2 p.gs.length (rowsC grpC p.gs)) (ap : ∀ g, v1.ownBlock = some g → v2.ownBlock ≠ some g) (hB : B ≤ w.heap.size) (hf : p.Fit) (h0 : p.gs.length = 0) (hk : r.k = 2) (hw : ¬ r.wi = p.cs.length) : Calls Try.prog 35 #[.agg (pgA p.num p.lsn v1 v2), recV r] w (CntPost w B v1 v2 (83) (p)) := by
  obtain ⟨E, hE⟩ : ∃ E : Int, E = 83 := ⟨_, rfl⟩
  rw [← hE]
  unfold CntPost
  have HE := hide hE
  clear hE
  obtain ⟨num, lsn, cs, gs⟩ := p
  obtain ⟨RA, hRA⟩ : ∃ RA, RA = recA r := ⟨_, rfl⟩
  have SR := hide (show RA.size = 17 by rw [hRA]; rfl)
  have CL := hide (show ∀ (x : World) (n : Nat), RBox x n 38 RA → x.cell? ⟨n, 5, none⟩ = some (.int .i64 r.wi) ∧ x.cell? ⟨n, 1, none⟩ = some (.int .i64 r.k) from fun x n q => by subst hRA; exact ⟨(q.cells.get 5 _ rfl).1, (q.cells.get 1 _ rfl).1⟩)
  have h0b : decide (0 < gs.length) = false := decide_eq_false (by simp only at h0; omega)
  have hkb : (r.k == 2) = true := by simpa using hk
  have hwb : (r.wi != (cs.length : Int)) = true := by simpa using hw
  clear hk hw h0
  show Calls Try.prog 35 #[.agg (pgA num lsn v1 v2), .agg (recA r)] w _
  obtain ⟨ta, tc, e1, -⟩ := GRow.lies g1
  obtain ⟨tb, td, e2, -⟩ := GRow.lies g2
  subst e1 e2
  rw [← hRA]
  have G1 := hide g1
  have G2 := hide g2
  have AP := hide ap
  have HB := hide hB
  clear g1 g2 ap hB hRA
  try dsimp only at hf
  go_enter Try.func35, Try.ntmps35
  go_upto_region 1 with fail
  refine named (P := Code.wp _ _ _ _) ?_
  intro w1 hw1
  obtain ⟨N, hN⟩ : ∃ N, N = w.heap.size := ⟨_, rfl⟩
  have b1 : Below w.heap.size w w1 := by rw [hw1]; exact bnext (bnext (alloc_below _ _) (alloc_below _ _) (Nat.le_refl _)) (alloc_below _ _) (Nat.le_refl _)
  have PQ1 := hide (show PQ w1 B N (.slice ta cs.length tc) (.slice tb gs.length td) ⟨num, lsn, cs, gs⟩ from ⟨by rw [hw1, hN]; exact ((Cells.new w (pgA num lsn (.slice ta cs.length tc) (.slice tb gs.length td)) 25).below (alloc_below _ _)).below (alloc_below _ _), GRow.below G1.out b1, GRow.below G2.out b1, AP.out, fun q => by have := (World.ownsRow.lt G1.out _ q).2; omega, fun q => by have := (World.ownsRow.lt G2.out _ q).2; omega, by have := HB.out; omega⟩)
  have RB1 := hide (show RBox w1 (N + 1) 38 RA by
    rw [hw1, hN]
    have q := RBox.new (w.alloc (.cells (pgA num lsn (.slice ta cs.length tc) (.slice tb gs.length td)) 25)) RA 38
    rw [World.size_alloc] at q
    exact q.below (alloc_below _ _))
  have D1 := hide (show Cells w1 (N + 2) [.int .i64 0, .int .i64 0, .slice none 0 0, .slice none 0 0] by
    rw [hw1, hN]
    have q := Cells.new ((w.alloc (.cells (pgA num lsn (.slice ta cs.length tc) (.slice tb gs.length td)) 25)).alloc (.cells RA 38)) #[.int .i64 0, .int .i64 0, .slice none 0 0, .slice none 0 0] 25
    rw [World.size_alloc, World.size_alloc] at q
    exact q)
  have LT := hide (show ∀ gz, ((Value.slice ta cs.length tc).ownBlock = some gz ∨ (Value.slice tb gs.length td).ownBlock = some gz) → gz < N from fun gz q => by rcases q with q | q; exact hN ▸ (World.ownsRow.lt G1.out gz q).2; exact hN ▸ (World.ownsRow.lt G2.out gz q).2)
  have B1 := hide b1
  have HN := hide hN
  have IN1 := hide (show PIn w1 ⟨num, lsn, cs, gs⟩ ⟨ta, tc, tb, td⟩ from by obtain ⟨t, h1, h2, h3⟩ := PQ1.out.in_; obtain ⟨xa, xc, xb, xd⟩ := t; simp only [Value.slice.injEq] at h1 h2; obtain ⟨rfl, -, rfl⟩ := h1; obtain ⟨rfl, -, rfl⟩ := h2; exact h3)
  rw [← hN]
  clear hN hw1 b1 G1 G2
  obtain ⟨c5, c1⟩ := CL.out _ _ RB1.out
  obtain ⟨f2, -⟩ := PQ1.out.cl.get 2 _ rfl
  obtain ⟨f3, -⟩ := PQ1.out.cl.get 3 _ rfl
  go_upto_region 7 with (go_quiet (fail))
  refine named (P := Code.wp _ _ _ _) ?_
  intro w2 hw2
  have b2 : Below w1.heap.size w1 w2 := by first | (rw [hw2]; exact bel (Below.refl _ _)) | (rw [hw2]; exact Below.refl _ _)
  have PQ2 := hide (PQ1.out.below b2)
  have RB2 := hide (RB1.out.below b2)
  have D2 := hide (D1.out.below b2)
  have B2 := hide (B1.out.trans (b2.mono B1.out.size))
  have IN2 := hide (IN1.out.below b2)
  clear hw2 b2 f2 f3 c5 c1 PQ1 RB1 D1 B1 IN1
  obtain ⟨m0, -⟩ := PQ2.out.cl.get 0 _ rfl
  obtain ⟨m1, -⟩ := PQ2.out.cl.get 1 _ rfl
  obtain ⟨m2, -⟩ := PQ2.out.cl.get 2 _ rfl
  obtain ⟨m3, -⟩ := PQ2.out.cl.get 3 _ rfl
  have K8 := ((((Keep.refl (fun i => i = N + 2) w2).setCell (g := N + 2) (j := 0) (fun _ => rfl) (.int .i64 num)).setCell (g := N + 2) (j := 1) (fun _ => rfl) (.int .i64 lsn)).setCell (g := N + 2) (j := 2) (fun _ => rfl) (.slice ta cs.length tc)).setCell (g := N + 2) (j := 3) (fun _ => rfl) (.slice tb gs.length td)
  have C8 := (((D2.out.stored (j := 0) (by simp) (.int .i64 num)).stored (j := 1) (by simp) (.int .i64 lsn)).stored (j := 2) (by simp) (.slice ta cs.length tc)).stored (j := 3) (by simp) (.slice tb gs.length td)
  obtain ⟨y0, z0⟩ := D2.out.get 0 _ rfl
  obtain ⟨y1, z1⟩ := D2.out.get 1 _ rfl
  obtain ⟨y2, z2⟩ := D2.out.get 2 _ rfl
  obtain ⟨y3, z3⟩ := D2.out.get 3 _ rfl
  have HK8 := hide K8
  have HC8 := hide C8
  clear K8 C8
  obtain ⟨k0, _⟩ := HC8.out.get 0 _ rfl
  obtain ⟨k1, _⟩ := HC8.out.get 1 _ rfl
  obtain ⟨k2, _⟩ := HC8.out.get 2 _ rfl
  obtain ⟨k3, _⟩ := HC8.out.get 3 _ rfl
  go_wp2_with fail
  refine bodyPost_ret (v := .tuple #[.agg #[.int .i64 num, .int .i64 lsn, .slice ta cs.length tc, .slice tb gs.length td], .int .i64 83]) (by simp only [results, Try.results35]; simp [go_sem, k0, k1, k2, k3]) rfl ?_
  exact ⟨_, _, _, _, _, _, _, _, by rw [HE.out], ⟨(B2.out.trans (HK8.out.below B2.out.size (fun i hi q => by have := HN.out; omega))).mono HB.out, Keep.of_below (B2.out.trans (HK8.out.below B2.out.size (fun i hi q => by have := HN.out; omega)))⟩, fun q => by rw [HE.out] at q; cases q⟩
set_option maxHeartbeats 8000000 in
theorem cn_new2 (B : Nat) (v1 v2 : Value) (p : Pg) (r : Rc) (w : World) (g1 : GRow w B 32 5 v1 p.cs.length (rowsC ctrC p.cs)) (g2 : GRow w B 69 2 v2 p.gs.length (rowsC grpC p.gs)) (ap : ∀ g, v1.ownBlock = some g → v2.ownBlock ≠ some g) (hB : B ≤ w.heap.size) (hf : p.Fit) (h0 : p.gs.length = 0) (hk : r.k = 2) (hw : r.wi = p.cs.length) (hx : ¬ p.cs.length < 31) : Calls Try.prog 35 #[.agg (pgA p.num p.lsn v1 v2), recV r] w (CntPost w B v1 v2 (83) (p)) := by
  obtain ⟨E, hE⟩ : ∃ E : Int, E = 83 := ⟨_, rfl⟩
  rw [← hE]
  unfold CntPost
  have HE := hide hE
  clear hE
  obtain ⟨num, lsn, cs, gs⟩ := p
  obtain ⟨RA, hRA⟩ : ∃ RA, RA = recA r := ⟨_, rfl⟩
  have SR := hide (show RA.size = 17 by rw [hRA]; rfl)
  have CL := hide (show ∀ (x : World) (n : Nat), RBox x n 38 RA → x.cell? ⟨n, 5, none⟩ = some (.int .i64 r.wi) ∧ x.cell? ⟨n, 1, none⟩ = some (.int .i64 r.k) from fun x n q => by subst hRA; exact ⟨(q.cells.get 5 _ rfl).1, (q.cells.get 1 _ rfl).1⟩)
  have h0b : decide (0 < gs.length) = false := decide_eq_false (by simp only at h0; omega)
  have hkb : (r.k == 2) = true := by simpa using hk
  have hwb : (r.wi != (cs.length : Int)) = false := by simpa using hw
  have hxb : decide ((31 : Int) ≤ (cs.length : Int)) = true := decide_eq_true (by simp only at hx; omega)
  clear hk hw h0 hx
  generalize r.wi = wi at *
  show Calls Try.prog 35 #[.agg (pgA num lsn v1 v2), .agg (recA r)] w _
  obtain ⟨ta, tc, e1, -⟩ := GRow.lies g1
  obtain ⟨tb, td, e2, -⟩ := GRow.lies g2
  subst e1 e2
  rw [← hRA]
  have G1 := hide g1
  have G2 := hide g2
  have AP := hide ap
  have HB := hide hB
  clear g1 g2 ap hB hRA
  try dsimp only at hf
  go_enter Try.func35, Try.ntmps35
  go_upto_region 1 with fail
  refine named (P := Code.wp _ _ _ _) ?_
  intro w1 hw1
  obtain ⟨N, hN⟩ : ∃ N, N = w.heap.size := ⟨_, rfl⟩
  have b1 : Below w.heap.size w w1 := by rw [hw1]; exact bnext (bnext (alloc_below _ _) (alloc_below _ _) (Nat.le_refl _)) (alloc_below _ _) (Nat.le_refl _)
  have PQ1 := hide (show PQ w1 B N (.slice ta cs.length tc) (.slice tb gs.length td) ⟨num, lsn, cs, gs⟩ from ⟨by rw [hw1, hN]; exact ((Cells.new w (pgA num lsn (.slice ta cs.length tc) (.slice tb gs.length td)) 25).below (alloc_below _ _)).below (alloc_below _ _), GRow.below G1.out b1, GRow.below G2.out b1, AP.out, fun q => by have := (World.ownsRow.lt G1.out _ q).2; omega, fun q => by have := (World.ownsRow.lt G2.out _ q).2; omega, by have := HB.out; omega⟩)
  have RB1 := hide (show RBox w1 (N + 1) 38 RA by
    rw [hw1, hN]
    have q := RBox.new (w.alloc (.cells (pgA num lsn (.slice ta cs.length tc) (.slice tb gs.length td)) 25)) RA 38
    rw [World.size_alloc] at q
    exact q.below (alloc_below _ _))
  have D1 := hide (show Cells w1 (N + 2) [.int .i64 0, .int .i64 0, .slice none 0 0, .slice none 0 0] by
    rw [hw1, hN]
    have q := Cells.new ((w.alloc (.cells (pgA num lsn (.slice ta cs.length tc) (.slice tb gs.length td)) 25)).alloc (.cells RA 38)) #[.int .i64 0, .int .i64 0, .slice none 0 0, .slice none 0 0] 25
    rw [World.size_alloc, World.size_alloc] at q
    exact q)
  have LT := hide (show ∀ gz, ((Value.slice ta cs.length tc).ownBlock = some gz ∨ (Value.slice tb gs.length td).ownBlock = some gz) → gz < N from fun gz q => by rcases q with q | q; exact hN ▸ (World.ownsRow.lt G1.out gz q).2; exact hN ▸ (World.ownsRow.lt G2.out gz q).2)
  have B1 := hide b1
  have HN := hide hN
  have IN1 := hide (show PIn w1 ⟨num, lsn, cs, gs⟩ ⟨ta, tc, tb, td⟩ from by obtain ⟨t, h1, h2, h3⟩ := PQ1.out.in_; obtain ⟨xa, xc, xb, xd⟩ := t; simp only [Value.slice.injEq] at h1 h2; obtain ⟨rfl, -, rfl⟩ := h1; obtain ⟨rfl, -, rfl⟩ := h2; exact h3)
  rw [← hN]
  clear hN hw1 b1 G1 G2
  obtain ⟨c5, c1⟩ := CL.out _ _ RB1.out
  obtain ⟨f2, -⟩ := PQ1.out.cl.get 2 _ rfl
  obtain ⟨f3, -⟩ := PQ1.out.cl.get 3 _ rfl
  go_upto_region 7 with (go_quiet (fail))
  refine named (P := Code.wp _ _ _ _) ?_
  intro w2 hw2
  have b2 : Below w1.heap.size w1 w2 := by first | (rw [hw2]; exact bel (Below.refl _ _)) | (rw [hw2]; exact Below.refl _ _)
  have PQ2 := hide (PQ1.out.below b2)
  have RB2 := hide (RB1.out.below b2)
  have D2 := hide (D1.out.below b2)
  have B2 := hide (B1.out.trans (b2.mono B1.out.size))
  have IN2 := hide (IN1.out.below b2)
  clear hw2 b2 f2 f3 c5 c1 PQ1 RB1 D1 B1 IN1
  obtain ⟨m0, -⟩ := PQ2.out.cl.get 0 _ rfl
  obtain ⟨m1, -⟩ := PQ2.out.cl.get 1 _ rfl
  obtain ⟨m2, -⟩ := PQ2.out.cl.get 2 _ rfl
  obtain ⟨m3, -⟩ := PQ2.out.cl.get 3 _ rfl
  have K8 := ((((Keep.refl (fun i => i = N + 2) w2).setCell (g := N + 2) (j := 0) (fun _ => rfl) (.int .i64 num)).setCell (g := N + 2) (j := 1) (fun _ => rfl) (.int .i64 lsn)).setCell (g := N + 2) (j := 2) (fun _ => rfl) (.slice ta cs.length tc)).setCell (g := N + 2) (j := 3) (fun _ => rfl) (.slice tb gs.length td)
  have C8 := (((D2.out.stored (j := 0) (by simp) (.int .i64 num)).stored (j := 1) (by simp) (.int .i64 lsn)).stored (j := 2) (by simp) (.slice ta cs.length tc)).stored (j := 3) (by simp) (.slice tb gs.length td)
  obtain ⟨y0, z0⟩ := D2.out.get 0 _ rfl
  obtain ⟨y1, z1⟩ := D2.out.get 1 _ rfl
  obtain ⟨y2, z2⟩ := D2.out.get 2 _ rfl
  obtain ⟨y3, z3⟩ := D2.out.get 3 _ rfl
  have HK8 := hide K8
  have HC8 := hide C8
  clear K8 C8
  obtain ⟨k0, _⟩ := HC8.out.get 0 _ rfl
  obtain ⟨k1, _⟩ := HC8.out.get 1 _ rfl
  obtain ⟨k2, _⟩ := HC8.out.get 2 _ rfl
  obtain ⟨k3, _⟩ := HC8.out.get 3 _ rfl
  go_wp2_with fail
  refine bodyPost_ret (v := .tuple #[.agg #[.int .i64 num, .int .i64 lsn, .slice ta cs.length tc, .slice tb gs.length td], .int .i64 83]) (by simp only [results, Try.results35]; simp [go_sem, k0, k1, k2, k3]) rfl ?_
  exact ⟨_, _, _, _, _, _, _, _, by rw [HE.out], ⟨(B2.out.trans (HK8.out.below B2.out.size (fun i hi q => by have := HN.out; omega))).mono HB.out, Keep.of_below (B2.out.trans (HK8.out.below B2.out.size (fun i hi q => by have := HN.out; omega)))⟩, fun q => by rw [HE.out] at q; cases q⟩
set_option maxHeartbeats 8000000 in
theorem cn_d1 (B : Nat) (v1 v2 : Value) (p : Pg) (r : Rc) (w : World) (g1 : GRow w B 32 5 v1 p.cs.length (rowsC ctrC p.cs)) (g2 : GRow w B 69 2 v2 p.gs.length (rowsC grpC p.gs)) (ap : ∀ g, v1.ownBlock = some g → v2.ownBlock ≠ some g) (hB : B ≤ w.heap.size) (hf : p.Fit) (h0 : p.gs.length = 0) (hk : ¬ r.k = 2) (hw : r.wi < 0) : Calls Try.prog 35 #[.agg (pgA p.num p.lsn v1 v2), recV r] w (CntPost w B v1 v2 (83) (p)) := by
  obtain ⟨E, hE⟩ : ∃ E : Int, E = 83 := ⟨_, rfl⟩
  rw [← hE]
  unfold CntPost
  have HE := hide hE
  clear hE
  obtain ⟨num, lsn, cs, gs⟩ := p
  obtain ⟨RA, hRA⟩ : ∃ RA, RA = recA r := ⟨_, rfl⟩
  have SR := hide (show RA.size = 17 by rw [hRA]; rfl)
  have CL := hide (show ∀ (x : World) (n : Nat), RBox x n 38 RA → x.cell? ⟨n, 5, none⟩ = some (.int .i64 r.wi) ∧ x.cell? ⟨n, 1, none⟩ = some (.int .i64 r.k) from fun x n q => by subst hRA; exact ⟨(q.cells.get 5 _ rfl).1, (q.cells.get 1 _ rfl).1⟩)
  have h0b : decide (0 < gs.length) = false := decide_eq_false (by simp only at h0; omega)
  have hkb : (r.k == 2) = false := by simpa using hk
  have hwb : decide (r.wi < 0) = true := decide_eq_true hw
  clear hk hw h0
  show Calls Try.prog 35 #[.agg (pgA num lsn v1 v2), .agg (recA r)] w _
  obtain ⟨ta, tc, e1, -⟩ := GRow.lies g1
  obtain ⟨tb, td, e2, -⟩ := GRow.lies g2
  subst e1 e2
  rw [← hRA]
  have G1 := hide g1
  have G2 := hide g2
  have AP := hide ap
  have HB := hide hB
  clear g1 g2 ap hB hRA
  try dsimp only at hf
  go_enter Try.func35, Try.ntmps35
  go_upto_region 1 with fail
  refine named (P := Code.wp _ _ _ _) ?_
  intro w1 hw1
  obtain ⟨N, hN⟩ : ∃ N, N = w.heap.size := ⟨_, rfl⟩
  have b1 : Below w.heap.size w w1 := by rw [hw1]; exact bnext (bnext (alloc_below _ _) (alloc_below _ _) (Nat.le_refl _)) (alloc_below _ _) (Nat.le_refl _)
  have PQ1 := hide (show PQ w1 B N (.slice ta cs.length tc) (.slice tb gs.length td) ⟨num, lsn, cs, gs⟩ from ⟨by rw [hw1, hN]; exact ((Cells.new w (pgA num lsn (.slice ta cs.length tc) (.slice tb gs.length td)) 25).below (alloc_below _ _)).below (alloc_below _ _), GRow.below G1.out b1, GRow.below G2.out b1, AP.out, fun q => by have := (World.ownsRow.lt G1.out _ q).2; omega, fun q => by have := (World.ownsRow.lt G2.out _ q).2; omega, by have := HB.out; omega⟩)
  have RB1 := hide (show RBox w1 (N + 1) 38 RA by
    rw [hw1, hN]
    have q := RBox.new (w.alloc (.cells (pgA num lsn (.slice ta cs.length tc) (.slice tb gs.length td)) 25)) RA 38
    rw [World.size_alloc] at q
    exact q.below (alloc_below _ _))
  have D1 := hide (show Cells w1 (N + 2) [.int .i64 0, .int .i64 0, .slice none 0 0, .slice none 0 0] by
    rw [hw1, hN]
    have q := Cells.new ((w.alloc (.cells (pgA num lsn (.slice ta cs.length tc) (.slice tb gs.length td)) 25)).alloc (.cells RA 38)) #[.int .i64 0, .int .i64 0, .slice none 0 0, .slice none 0 0] 25
    rw [World.size_alloc, World.size_alloc] at q
    exact q)
  have LT := hide (show ∀ gz, ((Value.slice ta cs.length tc).ownBlock = some gz ∨ (Value.slice tb gs.length td).ownBlock = some gz) → gz < N from fun gz q => by rcases q with q | q; exact hN ▸ (World.ownsRow.lt G1.out gz q).2; exact hN ▸ (World.ownsRow.lt G2.out gz q).2)
  have B1 := hide b1
  have HN := hide hN
  have IN1 := hide (show PIn w1 ⟨num, lsn, cs, gs⟩ ⟨ta, tc, tb, td⟩ from by obtain ⟨t, h1, h2, h3⟩ := PQ1.out.in_; obtain ⟨xa, xc, xb, xd⟩ := t; simp only [Value.slice.injEq] at h1 h2; obtain ⟨rfl, -, rfl⟩ := h1; obtain ⟨rfl, -, rfl⟩ := h2; exact h3)
  rw [← hN]
  clear hN hw1 b1 G1 G2
  obtain ⟨c5, c1⟩ := CL.out _ _ RB1.out
  obtain ⟨f2, -⟩ := PQ1.out.cl.get 2 _ rfl
  obtain ⟨f3, -⟩ := PQ1.out.cl.get 3 _ rfl
  go_upto_region 11 with (go_quiet (fail))
  refine named (P := Code.wp _ _ _ _) ?_
  intro w2 hw2
  have b2 : Below w1.heap.size w1 w2 := by first | (rw [hw2]; exact bel (Below.refl _ _)) | (rw [hw2]; exact Below.refl _ _)
  have PQ2 := hide (PQ1.out.below b2)
  have RB2 := hide (RB1.out.below b2)
  have D2 := hide (D1.out.below b2)
  have B2 := hide (B1.out.trans (b2.mono B1.out.size))
  have IN2 := hide (IN1.out.below b2)
  clear hw2 b2 f2 f3 c5 c1 PQ1 RB1 D1 B1 IN1
  obtain ⟨m0, -⟩ := PQ2.out.cl.get 0 _ rfl
  obtain ⟨m1, -⟩ := PQ2.out.cl.get 1 _ rfl
  obtain ⟨m2, -⟩ := PQ2.out.cl.get 2 _ rfl
  obtain ⟨m3, -⟩ := PQ2.out.cl.get 3 _ rfl
  have K8 := ((((Keep.refl (fun i => i = N + 2) w2).setCell (g := N + 2) (j := 0) (fun _ => rfl) (.int .i64 num)).setCell (g := N + 2) (j := 1) (fun _ => rfl) (.int .i64 lsn)).setCell (g := N + 2) (j := 2) (fun _ => rfl) (.slice ta cs.length tc)).setCell (g := N + 2) (j := 3) (fun _ => rfl) (.slice tb gs.length td)
  have C8 := (((D2.out.stored (j := 0) (by simp) (.int .i64 num)).stored (j := 1) (by simp) (.int .i64 lsn)).stored (j := 2) (by simp) (.slice ta cs.length tc)).stored (j := 3) (by simp) (.slice tb gs.length td)
  obtain ⟨y0, z0⟩ := D2.out.get 0 _ rfl
  obtain ⟨y1, z1⟩ := D2.out.get 1 _ rfl
  obtain ⟨y2, z2⟩ := D2.out.get 2 _ rfl
  obtain ⟨y3, z3⟩ := D2.out.get 3 _ rfl
  have HK8 := hide K8
  have HC8 := hide C8
  clear K8 C8
  obtain ⟨k0, _⟩ := HC8.out.get 0 _ rfl
  obtain ⟨k1, _⟩ := HC8.out.get 1 _ rfl
  obtain ⟨k2, _⟩ := HC8.out.get 2 _ rfl
  obtain ⟨k3, _⟩ := HC8.out.get 3 _ rfl
  go_wp2_with fail
  refine bodyPost_ret (v := .tuple #[.agg #[.int .i64 num, .int .i64 lsn, .slice ta cs.length tc, .slice tb gs.length td], .int .i64 83]) (by simp only [results, Try.results35]; simp [go_sem, k0, k1, k2, k3]) rfl ?_
  exact ⟨_, _, _, _, _, _, _, _, by rw [HE.out], ⟨(B2.out.trans (HK8.out.below B2.out.size (fun i hi q => by have := HN.out; omega))).mono HB.out, Keep.of_below (B2.out.trans (HK8.out.below B2.out.size (fun i hi q => by have := HN.out; omega)))⟩, fun q => by rw [HE.out] at q; cases q⟩
set_option maxHeartbeats 8000000 in
theorem cn_d2 (B : Nat) (v1 v2 : Value) (p : Pg) (r : Rc) (w : World) (g1 : GRow w B 32 5 v1 p.cs.length (rowsC ctrC p.cs)) (g2 : GRow w B 69 2 v2 p.gs.length (rowsC grpC p.gs)) (ap : ∀ g, v1.ownBlock = some g → v2.ownBlock ≠ some g) (hB : B ≤ w.heap.size) (hf : p.Fit) (h0 : p.gs.length = 0) (hk : ¬ r.k = 2) (hw : ¬ r.wi < 0) (hx : (p.cs.length : Int) ≤ r.wi) : Calls Try.prog 35 #[.agg (pgA p.num p.lsn v1 v2), recV r] w (CntPost w B v1 v2 (83) (p)) := by
  obtain ⟨E, hE⟩ : ∃ E : Int, E = 83 := ⟨_, rfl⟩
  rw [← hE]
  unfold CntPost
  have HE := hide hE
  clear hE
  obtain ⟨num, lsn, cs, gs⟩ := p
  obtain ⟨RA, hRA⟩ : ∃ RA, RA = recA r := ⟨_, rfl⟩
  have SR := hide (show RA.size = 17 by rw [hRA]; rfl)
  have CL := hide (show ∀ (x : World) (n : Nat), RBox x n 38 RA → x.cell? ⟨n, 5, none⟩ = some (.int .i64 r.wi) ∧ x.cell? ⟨n, 1, none⟩ = some (.int .i64 r.k) from fun x n q => by subst hRA; exact ⟨(q.cells.get 5 _ rfl).1, (q.cells.get 1 _ rfl).1⟩)
  have h0b : decide (0 < gs.length) = false := decide_eq_false (by simp only at h0; omega)
  have hkb : (r.k == 2) = false := by simpa using hk
  have hwb : decide (r.wi < 0) = false := decide_eq_false hw
  have hxb : decide ((cs.length : Int) ≤ r.wi) = true := decide_eq_true hx
  clear hk hw h0 hx
  show Calls Try.prog 35 #[.agg (pgA num lsn v1 v2), .agg (recA r)] w _
  obtain ⟨ta, tc, e1, -⟩ := GRow.lies g1
  obtain ⟨tb, td, e2, -⟩ := GRow.lies g2
  subst e1 e2
  rw [← hRA]
  have G1 := hide g1
  have G2 := hide g2
  have AP := hide ap
  have HB := hide hB
  clear g1 g2 ap hB hRA
  try dsimp only at hf
  go_enter Try.func35, Try.ntmps35
  go_upto_region 1 with fail
  refine named (P := Code.wp _ _ _ _) ?_
  intro w1 hw1
  obtain ⟨N, hN⟩ : ∃ N, N = w.heap.size := ⟨_, rfl⟩
  have b1 : Below w.heap.size w w1 := by rw [hw1]; exact bnext (bnext (alloc_below _ _) (alloc_below _ _) (Nat.le_refl _)) (alloc_below _ _) (Nat.le_refl _)
  have PQ1 := hide (show PQ w1 B N (.slice ta cs.length tc) (.slice tb gs.length td) ⟨num, lsn, cs, gs⟩ from ⟨by rw [hw1, hN]; exact ((Cells.new w (pgA num lsn (.slice ta cs.length tc) (.slice tb gs.length td)) 25).below (alloc_below _ _)).below (alloc_below _ _), GRow.below G1.out b1, GRow.below G2.out b1, AP.out, fun q => by have := (World.ownsRow.lt G1.out _ q).2; omega, fun q => by have := (World.ownsRow.lt G2.out _ q).2; omega, by have := HB.out; omega⟩)
  have RB1 := hide (show RBox w1 (N + 1) 38 RA by
    rw [hw1, hN]
    have q := RBox.new (w.alloc (.cells (pgA num lsn (.slice ta cs.length tc) (.slice tb gs.length td)) 25)) RA 38
    rw [World.size_alloc] at q
    exact q.below (alloc_below _ _))
  have D1 := hide (show Cells w1 (N + 2) [.int .i64 0, .int .i64 0, .slice none 0 0, .slice none 0 0] by
    rw [hw1, hN]
    have q := Cells.new ((w.alloc (.cells (pgA num lsn (.slice ta cs.length tc) (.slice tb gs.length td)) 25)).alloc (.cells RA 38)) #[.int .i64 0, .int .i64 0, .slice none 0 0, .slice none 0 0] 25
    rw [World.size_alloc, World.size_alloc] at q
    exact q)
  have LT := hide (show ∀ gz, ((Value.slice ta cs.length tc).ownBlock = some gz ∨ (Value.slice tb gs.length td).ownBlock = some gz) → gz < N from fun gz q => by rcases q with q | q; exact hN ▸ (World.ownsRow.lt G1.out gz q).2; exact hN ▸ (World.ownsRow.lt G2.out gz q).2)
  have B1 := hide b1
  have HN := hide hN
  have IN1 := hide (show PIn w1 ⟨num, lsn, cs, gs⟩ ⟨ta, tc, tb, td⟩ from by obtain ⟨t, h1, h2, h3⟩ := PQ1.out.in_; obtain ⟨xa, xc, xb, xd⟩ := t; simp only [Value.slice.injEq] at h1 h2; obtain ⟨rfl, -, rfl⟩ := h1; obtain ⟨rfl, -, rfl⟩ := h2; exact h3)
  rw [← hN]
  clear hN hw1 b1 G1 G2
  obtain ⟨c5, c1⟩ := CL.out _ _ RB1.out
  obtain ⟨f2, -⟩ := PQ1.out.cl.get 2 _ rfl
  obtain ⟨f3, -⟩ := PQ1.out.cl.get 3 _ rfl
  go_upto_region 11 with (go_quiet (fail))
  refine named (P := Code.wp _ _ _ _) ?_
  intro w2 hw2
  have b2 : Below w1.heap.size w1 w2 := by first | (rw [hw2]; exact bel (Below.refl _ _)) | (rw [hw2]; exact Below.refl _ _)
  have PQ2 := hide (PQ1.out.below b2)
  have RB2 := hide (RB1.out.below b2)
  have D2 := hide (D1.out.below b2)
  have B2 := hide (B1.out.trans (b2.mono B1.out.size))
  have IN2 := hide (IN1.out.below b2)
  clear hw2 b2 f2 f3 c5 c1 PQ1 RB1 D1 B1 IN1
  obtain ⟨m0, -⟩ := PQ2.out.cl.get 0 _ rfl
  obtain ⟨m1, -⟩ := PQ2.out.cl.get 1 _ rfl
  obtain ⟨m2, -⟩ := PQ2.out.cl.get 2 _ rfl
  obtain ⟨m3, -⟩ := PQ2.out.cl.get 3 _ rfl
  have K8 := ((((Keep.refl (fun i => i = N + 2) w2).setCell (g := N + 2) (j := 0) (fun _ => rfl) (.int .i64 num)).setCell (g := N + 2) (j := 1) (fun _ => rfl) (.int .i64 lsn)).setCell (g := N + 2) (j := 2) (fun _ => rfl) (.slice ta cs.length tc)).setCell (g := N + 2) (j := 3) (fun _ => rfl) (.slice tb gs.length td)
  have C8 := (((D2.out.stored (j := 0) (by simp) (.int .i64 num)).stored (j := 1) (by simp) (.int .i64 lsn)).stored (j := 2) (by simp) (.slice ta cs.length tc)).stored (j := 3) (by simp) (.slice tb gs.length td)
  obtain ⟨y0, z0⟩ := D2.out.get 0 _ rfl
  obtain ⟨y1, z1⟩ := D2.out.get 1 _ rfl
  obtain ⟨y2, z2⟩ := D2.out.get 2 _ rfl
  obtain ⟨y3, z3⟩ := D2.out.get 3 _ rfl
  have HK8 := hide K8
  have HC8 := hide C8
  clear K8 C8
  obtain ⟨k0, _⟩ := HC8.out.get 0 _ rfl
  obtain ⟨k1, _⟩ := HC8.out.get 1 _ rfl
  obtain ⟨k2, _⟩ := HC8.out.get 2 _ rfl
  obtain ⟨k3, _⟩ := HC8.out.get 3 _ rfl
  go_wp2_with fail
  refine bodyPost_ret (v := .tuple #[.agg #[.int .i64 num, .int .i64 lsn, .slice ta cs.length tc, .slice tb gs.length td], .int .i64 83]) (by simp only [results, Try.results35]; simp [go_sem, k0, k1, k2, k3]) rfl ?_
  exact ⟨_, _, _, _, _, _, _, _, by rw [HE.out], ⟨(B2.out.trans (HK8.out.below B2.out.size (fun i hi q => by have := HN.out; omega))).mono HB.out, Keep.of_below (B2.out.trans (HK8.out.below B2.out.size (fun i hi q => by have := HN.out; omega)))⟩, fun q => by rw [HE.out] at q; cases q⟩
set_option maxHeartbeats 8000000 in
theorem cn_d3 (B : Nat) (v1 v2 : Value) (p : Pg) (r : Rc) (w : World) (g1 : GRow w B 32 5 v1 p.cs.length (rowsC ctrC p.cs)) (g2 : GRow w B 69 2 v2 p.gs.length (rowsC grpC p.gs)) (ap : ∀ g, v1.ownBlock = some g → v2.ownBlock ≠ some g) (hB : B ≤ w.heap.size) (hf : p.Fit) (h0 : p.gs.length = 0) (hk : ¬ r.k = 2) (hw : ¬ r.wi < 0) (hx : r.wi < p.cs.length) (hid : ¬ (ctrAt p.cs r.wi).id = r.c.id) : Calls Try.prog 35 #[.agg (pgA p.num p.lsn v1 v2), recV r] w (CntPost w B v1 v2 (83) (p)) := by
  obtain ⟨E, hE⟩ : ∃ E : Int, E = 83 := ⟨_, rfl⟩
  rw [← hE]
  unfold CntPost
  have HE := hide hE
  clear hE
  obtain ⟨num, lsn, cs, gs⟩ := p
  obtain ⟨i, hwi⟩ : ∃ i : Nat, r.wi = (i : Int) := ⟨r.wi.toNat, by omega⟩
  have hil : i < cs.length := by simp only at hx; omega
  have hwb : decide ((i : Int) < 0) = false := decide_eq_false (by omega)
  have hxb : decide ((cs.length : Int) ≤ (i : Int)) = false := decide_eq_false (by omega)
  have hlb : decide ((i : Int) < (cs.length : Int)) = true := decide_eq_true (by omega)
  have h0b : decide (0 < gs.length) = false := decide_eq_false (by simp only at h0; omega)
  have hkb : (r.k == 2) = false := by simpa using hk
  have hid2 : (cs[i].id != r.c.id) = true := by rw [hwi, ctrAt_nat cs i hil] at hid; simpa using hid
  clear hk hw h0 hx hid
  obtain ⟨RA, hRA⟩ : ∃ RA, RA = recA r := ⟨_, rfl⟩
  have SR := hide (show RA.size = 17 by rw [hRA]; rfl)
  have CL := hide (show ∀ (x : World) (n : Nat), RBox x n 38 RA → x.cell? ⟨n, 5, none⟩ = some (.int .i64 (i : Int)) ∧ x.cell? ⟨n, 1, none⟩ = some (.int .i64 r.k) ∧ x.cell? ⟨n, 9, none⟩ = some (.int .i64 r.c.id) from fun x n q => by subst hRA; rw [← hwi]; exact ⟨(q.cells.get 5 _ rfl).1, (q.cells.get 1 _ rfl).1, (q.cells.get 9 _ rfl).1⟩)
  show Calls Try.prog 35 #[.agg (pgA num lsn v1 v2), .agg (recA r)] w _
  obtain ⟨ta, tc, e1, -⟩ := GRow.lies g1
  obtain ⟨tb, td, e2, -⟩ := GRow.lies g2
  subst e1 e2
  rw [← hRA]
  have G1 := hide g1
  have G2 := hide g2
  have AP := hide ap
  have HB := hide hB
  clear g1 g2 ap hB hRA
  try dsimp only at hf
  go_enter Try.func35, Try.ntmps35
  go_upto_region 1 with fail
  refine named (P := Code.wp _ _ _ _) ?_
  intro w1 hw1
  obtain ⟨N, hN⟩ : ∃ N, N = w.heap.size := ⟨_, rfl⟩
  have b1 : Below w.heap.size w w1 := by rw [hw1]; exact bnext (bnext (alloc_below _ _) (alloc_below _ _) (Nat.le_refl _)) (alloc_below _ _) (Nat.le_refl _)
  have PQ1 := hide (show PQ w1 B N (.slice ta cs.length tc) (.slice tb gs.length td) ⟨num, lsn, cs, gs⟩ from ⟨by rw [hw1, hN]; exact ((Cells.new w (pgA num lsn (.slice ta cs.length tc) (.slice tb gs.length td)) 25).below (alloc_below _ _)).below (alloc_below _ _), GRow.below G1.out b1, GRow.below G2.out b1, AP.out, fun q => by have := (World.ownsRow.lt G1.out _ q).2; omega, fun q => by have := (World.ownsRow.lt G2.out _ q).2; omega, by have := HB.out; omega⟩)
  have RB1 := hide (show RBox w1 (N + 1) 38 RA by
    rw [hw1, hN]
    have q := RBox.new (w.alloc (.cells (pgA num lsn (.slice ta cs.length tc) (.slice tb gs.length td)) 25)) RA 38
    rw [World.size_alloc] at q
    exact q.below (alloc_below _ _))
  have D1 := hide (show Cells w1 (N + 2) [.int .i64 0, .int .i64 0, .slice none 0 0, .slice none 0 0] by
    rw [hw1, hN]
    have q := Cells.new ((w.alloc (.cells (pgA num lsn (.slice ta cs.length tc) (.slice tb gs.length td)) 25)).alloc (.cells RA 38)) #[.int .i64 0, .int .i64 0, .slice none 0 0, .slice none 0 0] 25
    rw [World.size_alloc, World.size_alloc] at q
    exact q)
  have LT := hide (show ∀ gz, ((Value.slice ta cs.length tc).ownBlock = some gz ∨ (Value.slice tb gs.length td).ownBlock = some gz) → gz < N from fun gz q => by rcases q with q | q; exact hN ▸ (World.ownsRow.lt G1.out gz q).2; exact hN ▸ (World.ownsRow.lt G2.out gz q).2)
  have B1 := hide b1
  have HN := hide hN
  have IN1 := hide (show PIn w1 ⟨num, lsn, cs, gs⟩ ⟨ta, tc, tb, td⟩ from by obtain ⟨t, h1, h2, h3⟩ := PQ1.out.in_; obtain ⟨xa, xc, xb, xd⟩ := t; simp only [Value.slice.injEq] at h1 h2; obtain ⟨rfl, -, rfl⟩ := h1; obtain ⟨rfl, -, rfl⟩ := h2; exact h3)
  rw [← hN]
  clear hN hw1 b1 G1 G2
  obtain ⟨c5, c1, c9⟩ := CL.out _ _ RB1.out
  obtain ⟨f2, -⟩ := PQ1.out.cl.get 2 _ rfl
  obtain ⟨f3, -⟩ := PQ1.out.cl.get 3 _ rfl
  obtain ⟨lb, lo_, el, q0, -, -, -, q4⟩ := crow_at IN1.out.lc (Below.refl _ _) hil
  dsimp only at el
  subst el
  go_upto_region 11 with (go_quiet (fail))
  refine named (P := Code.wp _ _ _ _) ?_
  intro w2 hw2
  have b2 : Below w1.heap.size w1 w2 := by first | (rw [hw2]; exact bel (Below.refl _ _)) | (rw [hw2]; exact Below.refl _ _)
  have PQ2 := hide (PQ1.out.below b2)
  have RB2 := hide (RB1.out.below b2)
  have D2 := hide (D1.out.below b2)
  have B2 := hide (B1.out.trans (b2.mono B1.out.size))
  have IN2 := hide (IN1.out.below b2)
  clear hw2 b2 f2 f3 c5 c1 c9 q0 q4 PQ1 RB1 D1 B1 IN1
  obtain ⟨m0, -⟩ := PQ2.out.cl.get 0 _ rfl
  obtain ⟨m1, -⟩ := PQ2.out.cl.get 1 _ rfl
  obtain ⟨m2, -⟩ := PQ2.out.cl.get 2 _ rfl
  obtain ⟨m3, -⟩ := PQ2.out.cl.get 3 _ rfl
  have K8 := ((((Keep.refl (fun i => i = N + 2) w2).setCell (g := N + 2) (j := 0) (fun _ => rfl) (.int .i64 num)).setCell (g := N + 2) (j := 1) (fun _ => rfl) (.int .i64 lsn)).setCell (g := N + 2) (j := 2) (fun _ => rfl) (.slice (some ⟨lb, lo_, none⟩) cs.length tc)).setCell (g := N + 2) (j := 3) (fun _ => rfl) (.slice tb gs.length td)
  have C8 := (((D2.out.stored (j := 0) (by simp) (.int .i64 num)).stored (j := 1) (by simp) (.int .i64 lsn)).stored (j := 2) (by simp) (.slice (some ⟨lb, lo_, none⟩) cs.length tc)).stored (j := 3) (by simp) (.slice tb gs.length td)
  obtain ⟨y0, z0⟩ := D2.out.get 0 _ rfl
  obtain ⟨y1, z1⟩ := D2.out.get 1 _ rfl
  obtain ⟨y2, z2⟩ := D2.out.get 2 _ rfl
  obtain ⟨y3, z3⟩ := D2.out.get 3 _ rfl
  have HK8 := hide K8
  have HC8 := hide C8
  clear K8 C8
  obtain ⟨k0, _⟩ := HC8.out.get 0 _ rfl
  obtain ⟨k1, _⟩ := HC8.out.get 1 _ rfl
  obtain ⟨k2, _⟩ := HC8.out.get 2 _ rfl
  obtain ⟨k3, _⟩ := HC8.out.get 3 _ rfl
  go_wp2_with fail
  refine bodyPost_ret (v := .tuple #[.agg #[.int .i64 num, .int .i64 lsn, .slice (some ⟨lb, lo_, none⟩) cs.length tc, .slice tb gs.length td], .int .i64 83]) (by simp only [results, Try.results35]; simp [go_sem, k0, k1, k2, k3]) rfl ?_
  exact ⟨_, _, _, _, _, _, _, _, by rw [HE.out], ⟨(B2.out.trans (HK8.out.below B2.out.size (fun i hi q => by have := HN.out; omega))).mono HB.out, Keep.of_below (B2.out.trans (HK8.out.below B2.out.size (fun i hi q => by have := HN.out; omega)))⟩, fun q => by rw [HE.out] at q; cases q⟩
end Go.Proofs.Ytoocbpbaieedmaa
