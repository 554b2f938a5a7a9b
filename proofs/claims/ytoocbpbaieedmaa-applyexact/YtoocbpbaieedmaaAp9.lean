import Derived.Test.YtoocbpbaieedmaaAp8
namespace Go.Proofs.Ytoocbpbaieedmaa
open Go.RowKit Go.QK Quota
set_option maxRecDepth 100000
theorem size40 : (Try.prog.info? 40).map (·.size) = some 4 := by kernel_rfl
/-- What Do leaves. -/
def DoPost (w : World) (p : Pg) (r : Rc) (e : Ending) (w' : World) : Prop := ∃ v, e = .returned (.tuple #[v, .bool (didB p r), .int .i64 (doE p r)]) ∧ PgOut w' w.heap.size v (doP p r) ∧ Below w.heap.size w w'
set_option maxHeartbeats 4000000 in
theorem do_ck (p : Pg) (t : At) (r : Rc) (w : World) (h : PIn w p t) (hf : p.Fit) (hr : r.Fit) (hc : ckE p.num r ≠ 0) : Calls Try.prog 14 #[pgV p t, recV r] w (DoPost w p r) := by
  have g1 : didB p r = false := did_ok (by unfold doE; rw [if_pos hc]; exact hc)
  have g2 : doE p r = ckE p.num r := by unfold doE; rw [if_pos hc]
  have g3 : doP p r = none_ := by unfold doP; rw [if_pos (by rw [g2]; exact hc)]
  unfold DoPost
  rw [g1, g2, g3]
  clear g1 g2 g3
  obtain ⟨RA, hRA⟩ : ∃ RA, RA = recA r := ⟨_, rfl⟩
  have hsz : RA.size = 17 := by rw [hRA]; rfl
  have hk0 := hide (show ∀ (x : World) (n : Nat), RBox x n 38 RA → x.cell? ⟨n, 0, none⟩ = some (.int .i64 r.lsn) from fun x n q => by subst hRA; exact (q.cells.get 0 _ rfl).1)
  have KC := fun w' => check_any p t r w'
  have KP := fun w' h => copy_any p t w' h (Nat.le_trans hf.lc (by decide)) (Nat.le_trans hf.lg (by decide))
  have KG := fun w' B b v1 v2 h => changePage_any B b v1 v2 p r w' h hf hr
  show Calls Try.prog 14 #[.agg (pgA p.num p.lsn (.slice t.a p.cs.length t.c) (.slice t.b p.gs.length t.d)), .agg (recA r)] w _
  simp only [recV] at KC KG
  simp only [pgV] at KC KP
  rw [← hRA] at KC KG ⊢
  obtain ⟨E1, hE1⟩ : ∃ E, E = ckE p.num r := ⟨_, rfl⟩
  rw [← hE1] at KC
  have HSZ := hide hsz
  have HIN := hide h
  clear hsz hRA h hf hr
  rw [← hE1] at hc ⊢
  clear KP KG hE1
  have hc2 : (E1 != 0) = true := by simpa using hc
  clear hc
  go_enter Try.func14, Try.ntmps14
  go_upto_region 1 with fail
  refine named (P := Code.wp _ _ _ _) ?_
  intro w3 hw3
  obtain ⟨N, hN⟩ : ∃ N, N = w.heap.size := ⟨_, rfl⟩
  have b3 : Below w.heap.size w w3 := by rw [hw3]; exact bnext (bnext (alloc_below _ _) (alloc_below _ _) (Nat.le_refl _)) (alloc_below _ _) (Nat.le_refl _)
  have c3 : Cells w3 N [.int .i64 p.num, .int .i64 p.lsn, .slice t.a p.cs.length t.c, .slice t.b p.gs.length t.d] := by rw [hw3, hN]; exact ((Cells.new w (pgA p.num p.lsn (.slice t.a p.cs.length t.c) (.slice t.b p.gs.length t.d)) 40).below (alloc_below _ _)).below (alloc_below _ _)
  have r3 : RBox w3 (N + 1) 38 RA := by
    rw [hw3, hN]
    have q := RBox.new (w.alloc (.cells (pgA p.num p.lsn (.slice t.a p.cs.length t.c) (.slice t.b p.gs.length t.d)) 40)) RA 38
    rw [World.size_alloc] at q
    exact q.below (alloc_below _ _)
  have d3 : Cells w3 (N + 2) [.int .i64 0, .int .i64 0, .slice none 0 0, .slice none 0 0] := by
    rw [hw3, hN]
    have q := Cells.new ((w.alloc (.cells (pgA p.num p.lsn (.slice t.a p.cs.length t.c) (.slice t.b p.gs.length t.d)) 40)).alloc (.cells RA 38)) #[.int .i64 0, .int .i64 0, .slice none 0 0, .slice none 0 0] 40
    rw [World.size_alloc, World.size_alloc] at q
    exact q
  have z3 : w3.heap.size = N + 3 := by rw [hw3, hN]; simp
  have B3 := hide b3
  have C3 := hide c3
  have R3 := hide r3
  have D3 := hide d3
  have Z3 := hide z3
  have HN := hide hN
  rw [← hN]
  clear hw3 b3 c3 r3 d3 z3 hN
  obtain ⟨num, lsn, cs, gs⟩ := p
  obtain ⟨ta, tc, tb, td⟩ := t
  try simp only [pgA] at KC
  try simp only [pgA] at KP
  obtain ⟨f0, -⟩ := C3.out.get 0 _ rfl
  obtain ⟨f1, -⟩ := C3.out.get 1 _ rfl
  obtain ⟨f2, -⟩ := C3.out.get 2 _ rfl
  obtain ⟨f3, -⟩ := C3.out.get 3 _ rfl
  go_upto_region 2 with (first | refine wpList_load38 R3.out HSZ.out rfl ?_ | (go_at_call 22; refine (KC _).mono ?_; rintro e w4 ⟨rfl, h4⟩))
  clear f0 f1 f2 f3
  have C4 := hide (C3.out.below h4)
  have R4 := hide (R3.out.below h4)
  have D4 := hide (D3.out.below h4)
  have B4 := hide (B3.out.trans (h4.mono B3.out.size))
  have Z4 := hide (show N + 3 ≤ w4.heap.size by have := Z3.out; have := h4.size; omega)
  clear h4 C3 R3 D3 B3 Z3 w3
  have K8 := ((((Keep.refl (fun i => i = N + 2) w4).setCell (g := N + 2) (j := 0) (fun _ => rfl) (.int .i64 0)).setCell (g := N + 2) (j := 1) (fun _ => rfl) (.int .i64 0)).setCell (g := N + 2) (j := 2) (fun _ => rfl) (.slice none 0 0)).setCell (g := N + 2) (j := 3) (fun _ => rfl) (.slice none 0 0)
  have C8 := (((D4.out.stored (j := 0) (by simp) (.int .i64 0)).stored (j := 1) (by simp) (.int .i64 0)).stored (j := 2) (by simp) (.slice none 0 0)).stored (j := 3) (by simp) (.slice none 0 0)
  obtain ⟨k0, _⟩ := C8.get 0 _ rfl
  obtain ⟨k1, _⟩ := C8.get 1 _ rfl
  obtain ⟨k2, _⟩ := C8.get 2 _ rfl
  obtain ⟨k3, _⟩ := C8.get 3 _ rfl
  obtain ⟨y0, u0⟩ := D4.out.get 0 _ rfl
  obtain ⟨y1, u1⟩ := D4.out.get 1 _ rfl
  obtain ⟨y2, u2⟩ := D4.out.get 2 _ rfl
  obtain ⟨y3, u3⟩ := D4.out.get 3 _ rfl
  have HK8 := hide K8
  clear K8 C8
  go_wp2_with fail
  refine bodyPost_ret (v := .tuple #[.agg #[.int .i64 0, .int .i64 0, .slice none 0 0, .slice none 0 0], .bool false, .int .i64 E1]) (by simp only [results, Try.results14]; simp [go_sem, k0, k1, k2, k3]) rfl ?_
  have bf := B4.out.trans (HK8.out.below B4.out.size (fun i hi q => by have := HN.out; omega))
  have hn := HN.out
  clear HN
  subst hn
  exact ⟨_, rfl, PgOut.none _ _, bf⟩
set_option maxHeartbeats 4000000 in
theorem do_oldP (p : Pg) (t : At) (r : Rc) (w : World) (h : PIn w p t) (hf : p.Fit) (hr : r.Fit) (hc : ckE p.num r = 0) (hl : r.lsn ≤ p.lsn) : Calls Try.prog 14 #[pgV p t, recV r] w (DoPost w p r) := by
  obtain ⟨g2, g1, g3⟩ := do_old (p := p) (r := r) hl
  rw [hc] at g2
  have g3 := g3 g2
  unfold DoPost
  rw [g1, g2, g3]
  clear g1 g2 g3
  obtain ⟨RA, hRA⟩ : ∃ RA, RA = recA r := ⟨_, rfl⟩
  have hsz : RA.size = 17 := by rw [hRA]; rfl
  have hk0 := hide (show ∀ (x : World) (n : Nat), RBox x n 38 RA → x.cell? ⟨n, 0, none⟩ = some (.int .i64 r.lsn) from fun x n q => by subst hRA; exact (q.cells.get 0 _ rfl).1)
  have KC := fun w' => check_any p t r w'
  have KP := fun w' h => copy_any p t w' h (Nat.le_trans hf.lc (by decide)) (Nat.le_trans hf.lg (by decide))
  have KG := fun w' B b v1 v2 h => changePage_any B b v1 v2 p r w' h hf hr
  show Calls Try.prog 14 #[.agg (pgA p.num p.lsn (.slice t.a p.cs.length t.c) (.slice t.b p.gs.length t.d)), .agg (recA r)] w _
  simp only [recV] at KC KG
  simp only [pgV] at KC KP
  rw [← hRA] at KC KG ⊢
  obtain ⟨E1, hE1⟩ : ∃ E, E = ckE p.num r := ⟨_, rfl⟩
  rw [← hE1] at KC
  have HSZ := hide hsz
  have HIN := hide h
  clear hsz hRA h hf hr
  rw [hc] at hE1
  subst hE1
  clear KG hc
  have hd : decide (r.lsn ≤ p.lsn) = true := decide_eq_true hl
  clear hl
  go_enter Try.func14, Try.ntmps14
  go_upto_region 1 with fail
  refine named (P := Code.wp _ _ _ _) ?_
  intro w3 hw3
  obtain ⟨N, hN⟩ : ∃ N, N = w.heap.size := ⟨_, rfl⟩
  have b3 : Below w.heap.size w w3 := by rw [hw3]; exact bnext (bnext (alloc_below _ _) (alloc_below _ _) (Nat.le_refl _)) (alloc_below _ _) (Nat.le_refl _)
  have c3 : Cells w3 N [.int .i64 p.num, .int .i64 p.lsn, .slice t.a p.cs.length t.c, .slice t.b p.gs.length t.d] := by rw [hw3, hN]; exact ((Cells.new w (pgA p.num p.lsn (.slice t.a p.cs.length t.c) (.slice t.b p.gs.length t.d)) 40).below (alloc_below _ _)).below (alloc_below _ _)
  have r3 : RBox w3 (N + 1) 38 RA := by
    rw [hw3, hN]
    have q := RBox.new (w.alloc (.cells (pgA p.num p.lsn (.slice t.a p.cs.length t.c) (.slice t.b p.gs.length t.d)) 40)) RA 38
    rw [World.size_alloc] at q
    exact q.below (alloc_below _ _)
  have d3 : Cells w3 (N + 2) [.int .i64 0, .int .i64 0, .slice none 0 0, .slice none 0 0] := by
    rw [hw3, hN]
    have q := Cells.new ((w.alloc (.cells (pgA p.num p.lsn (.slice t.a p.cs.length t.c) (.slice t.b p.gs.length t.d)) 40)).alloc (.cells RA 38)) #[.int .i64 0, .int .i64 0, .slice none 0 0, .slice none 0 0] 40
    rw [World.size_alloc, World.size_alloc] at q
    exact q
  have z3 : w3.heap.size = N + 3 := by rw [hw3, hN]; simp
  have B3 := hide b3
  have C3 := hide c3
  have R3 := hide r3
  have D3 := hide d3
  have Z3 := hide z3
  have HN := hide hN
  rw [← hN]
  clear hw3 b3 c3 r3 d3 z3 hN
  obtain ⟨num, lsn, cs, gs⟩ := p
  obtain ⟨ta, tc, tb, td⟩ := t
  try simp only [pgA] at KC
  try simp only [pgA] at KP
  obtain ⟨f0, -⟩ := C3.out.get 0 _ rfl
  obtain ⟨f1, -⟩ := C3.out.get 1 _ rfl
  obtain ⟨f2, -⟩ := C3.out.get 2 _ rfl
  obtain ⟨f3, -⟩ := C3.out.get 3 _ rfl
  go_upto_region 2 with (first | refine wpList_load38 R3.out HSZ.out rfl ?_ | (go_at_call 22; refine (KC _).mono ?_; rintro e w4 ⟨rfl, h4⟩))
  clear f0 f1 f2 f3
  have C4 := hide (C3.out.below h4)
  have R4 := hide (R3.out.below h4)
  have D4 := hide (D3.out.below h4)
  have B4 := hide (B3.out.trans (h4.mono B3.out.size))
  have Z4 := hide (show N + 3 ≤ w4.heap.size by have := Z3.out; have := h4.size; omega)
  clear h4 C3 R3 D3 B3 Z3 w3
  obtain ⟨f0, -⟩ := C4.out.get 0 _ rfl
  obtain ⟨f1, -⟩ := C4.out.get 1 _ rfl
  obtain ⟨f2, -⟩ := C4.out.get 2 _ rfl
  obtain ⟨f3, -⟩ := C4.out.get 3 _ rfl
  go_upto_region 5 with (go_at_call 23; refine (KP _ (HIN.out.below B4.out)).mono ?_; rintro e w5 ⟨v, rfl, h5, b5⟩; obtain ⟨v1, v2, rfl, g1, g2, ap⟩ := h5; obtain ⟨a1, c1, rfl, -⟩ := GRow.lies g1; obtain ⟨a2, c2, rfl, -⟩ := GRow.lies g2; simp only [pgA])
  refine named (P := Code.wp _ _ _ _) ?_
  intro w6 hw6
  obtain ⟨M, hM⟩ : ∃ M, M = w5.heap.size := ⟨_, rfl⟩
  have al : Below w5.heap.size w5 w6 := by rw [hw6]; exact alloc_below _ _
  have q6 : PQ w6 w4.heap.size M (.slice a1 cs.length c1) (.slice a2 gs.length c2) ⟨num, lsn, cs, gs⟩ := by
    refine ⟨by rw [hw6, hM]; exact Cells.new w5 (pgA num lsn (.slice a1 cs.length c1) (.slice a2 gs.length c2)) 40, GRow.below g1 al, GRow.below g2 al, ap, fun q => ?_, fun q => ?_, by rw [hM]; exact b5.size⟩
    · have := (World.ownsRow.lt g1 _ q).2; omega
    · have := (World.ownsRow.lt g2 _ q).2; omega
  have hb46 : Below w4.heap.size w4 w6 := b5.trans (al.mono b5.size)
  have C6 := hide (C4.out.below hb46)
  have R6 := hide (R4.out.below hb46)
  have D6 := hide (D4.out.below hb46)
  have B6 := hide (B4.out.trans (hb46.mono B4.out.size))
  have Q6 := hide q6
  have NM := hide (show N + 3 ≤ w4.heap.size ∧ w4.heap.size ≤ M from ⟨Z4.out, by rw [hM]; exact b5.size⟩)
  rw [← hM]
  clear hw6 hM al q6 hb46 b5 g1 g2 ap f0 f1 f2 f3 C4 R4 D4 Z4 B4
  have e0 := hk0.out _ _ R6.out
  obtain ⟨e1, -⟩ := C6.out.get 1 _ rfl
  obtain ⟨m0, -⟩ := Q6.out.cl.get 0 _ rfl
  obtain ⟨m1, -⟩ := Q6.out.cl.get 1 _ rfl
  obtain ⟨m2, -⟩ := Q6.out.cl.get 2 _ rfl
  obtain ⟨m3, -⟩ := Q6.out.cl.get 3 _ rfl
  have K8 := ((((Keep.refl (fun i => i = N + 2) w6).setCell (g := N + 2) (j := 0) (fun _ => rfl) (.int .i64 num)).setCell (g := N + 2) (j := 1) (fun _ => rfl) (.int .i64 lsn)).setCell (g := N + 2) (j := 2) (fun _ => rfl) (.slice a1 cs.length c1)).setCell (g := N + 2) (j := 3) (fun _ => rfl) (.slice a2 gs.length c2)
  have C8 := (((D6.out.stored (j := 0) (by simp) (.int .i64 num)).stored (j := 1) (by simp) (.int .i64 lsn)).stored (j := 2) (by simp) (.slice a1 cs.length c1)).stored (j := 3) (by simp) (.slice a2 gs.length c2)
  obtain ⟨k0, _⟩ := C8.get 0 _ rfl
  obtain ⟨k1, _⟩ := C8.get 1 _ rfl
  obtain ⟨k2, _⟩ := C8.get 2 _ rfl
  obtain ⟨k3, _⟩ := C8.get 3 _ rfl
  obtain ⟨y0, u0⟩ := D6.out.get 0 _ rfl
  obtain ⟨y1, u1⟩ := D6.out.get 1 _ rfl
  obtain ⟨y2, u2⟩ := D6.out.get 2 _ rfl
  obtain ⟨y3, u3⟩ := D6.out.get 3 _ rfl
  have HK8 := hide K8
  clear K8 C8
  go_wp2_with fail
  refine bodyPost_ret (v := .tuple #[.agg #[.int .i64 num, .int .i64 lsn, .slice a1 cs.length c1, .slice a2 gs.length c2], .bool false, .int .i64 0]) (by simp only [results, Try.results14]; simp [go_sem, k0, k1, k2, k3]) rfl ?_
  have bf := B6.out.trans (HK8.out.below B6.out.size (fun i hi q => by have := HN.out; omega))
  have nn := NM.out
  have qf := Q6.out.keep HK8.out (by omega) (fun g hg q => by have := (World.ownsRow.lt Q6.out.g1 g hg).1; omega) (fun g hg q => by have := (World.ownsRow.lt Q6.out.g2 g hg).1; omega)
  have hn := HN.out
  clear HN
  subst hn
  exact ⟨_, rfl, qf.out.mono (by omega), bf⟩
set_option maxHeartbeats 4000000 in
theorem do_err (p : Pg) (t : At) (r : Rc) (w : World) (h : PIn w p t) (hf : p.Fit) (hr : r.Fit) (hc : ckE p.num r = 0) (hl : ¬ r.lsn ≤ p.lsn) (hg : chgE p r ≠ 0) : Calls Try.prog 14 #[pgV p t, recV r] w (DoPost w p r) := by
  have g2 : doE p r = chgE p r := by unfold doE; rw [if_neg (by simpa using hc), if_neg hl]
  have g1 : didB p r = false := did_ok (by rw [g2]; exact hg)
  have g3 : doP p r = none_ := by unfold doP; rw [if_pos (by rw [g2]; exact hg)]
  unfold DoPost
  rw [g1, g2, g3]
  clear g1 g2 g3
  obtain ⟨RA, hRA⟩ : ∃ RA, RA = recA r := ⟨_, rfl⟩
  have hsz : RA.size = 17 := by rw [hRA]; rfl
  have hk0 := hide (show ∀ (x : World) (n : Nat), RBox x n 38 RA → x.cell? ⟨n, 0, none⟩ = some (.int .i64 r.lsn) from fun x n q => by subst hRA; exact (q.cells.get 0 _ rfl).1)
  have KC := fun w' => check_any p t r w'
  have KP := fun w' h => copy_any p t w' h (Nat.le_trans hf.lc (by decide)) (Nat.le_trans hf.lg (by decide))
  have KG := fun w' B b v1 v2 h => changePage_any B b v1 v2 p r w' h hf hr
  show Calls Try.prog 14 #[.agg (pgA p.num p.lsn (.slice t.a p.cs.length t.c) (.slice t.b p.gs.length t.d)), .agg (recA r)] w _
  simp only [recV] at KC KG
  simp only [pgV] at KC KP
  rw [← hRA] at KC KG ⊢
  obtain ⟨E1, hE1⟩ : ∃ E, E = ckE p.num r := ⟨_, rfl⟩
  rw [← hE1] at KC
  have HSZ := hide hsz
  have HIN := hide h
  clear hsz hRA h hf hr
  rw [hc] at hE1
  subst hE1
  obtain ⟨E, hE⟩ : ∃ E, E = chgE p r := ⟨_, rfl⟩
  rw [← hE] at KG hg ⊢
  clear hc hE
  have hd : decide (r.lsn ≤ p.lsn) = false := decide_eq_false hl
  have hg2 : (E != 0) = true := by simpa using hg
  clear hl hg
  go_enter Try.func14, Try.ntmps14
  go_upto_region 1 with fail
  refine named (P := Code.wp _ _ _ _) ?_
  intro w3 hw3
  obtain ⟨N, hN⟩ : ∃ N, N = w.heap.size := ⟨_, rfl⟩
  have b3 : Below w.heap.size w w3 := by rw [hw3]; exact bnext (bnext (alloc_below _ _) (alloc_below _ _) (Nat.le_refl _)) (alloc_below _ _) (Nat.le_refl _)
  have c3 : Cells w3 N [.int .i64 p.num, .int .i64 p.lsn, .slice t.a p.cs.length t.c, .slice t.b p.gs.length t.d] := by rw [hw3, hN]; exact ((Cells.new w (pgA p.num p.lsn (.slice t.a p.cs.length t.c) (.slice t.b p.gs.length t.d)) 40).below (alloc_below _ _)).below (alloc_below _ _)
  have r3 : RBox w3 (N + 1) 38 RA := by
    rw [hw3, hN]
    have q := RBox.new (w.alloc (.cells (pgA p.num p.lsn (.slice t.a p.cs.length t.c) (.slice t.b p.gs.length t.d)) 40)) RA 38
    rw [World.size_alloc] at q
    exact q.below (alloc_below _ _)
  have d3 : Cells w3 (N + 2) [.int .i64 0, .int .i64 0, .slice none 0 0, .slice none 0 0] := by
    rw [hw3, hN]
    have q := Cells.new ((w.alloc (.cells (pgA p.num p.lsn (.slice t.a p.cs.length t.c) (.slice t.b p.gs.length t.d)) 40)).alloc (.cells RA 38)) #[.int .i64 0, .int .i64 0, .slice none 0 0, .slice none 0 0] 40
    rw [World.size_alloc, World.size_alloc] at q
    exact q
  have z3 : w3.heap.size = N + 3 := by rw [hw3, hN]; simp
  have B3 := hide b3
  have C3 := hide c3
  have R3 := hide r3
  have D3 := hide d3
  have Z3 := hide z3
  have HN := hide hN
  rw [← hN]
  clear hw3 b3 c3 r3 d3 z3 hN
  obtain ⟨num, lsn, cs, gs⟩ := p
  obtain ⟨ta, tc, tb, td⟩ := t
  try simp only [pgA] at KC
  try simp only [pgA] at KP
  obtain ⟨f0, -⟩ := C3.out.get 0 _ rfl
  obtain ⟨f1, -⟩ := C3.out.get 1 _ rfl
  obtain ⟨f2, -⟩ := C3.out.get 2 _ rfl
  obtain ⟨f3, -⟩ := C3.out.get 3 _ rfl
  go_upto_region 2 with (first | refine wpList_load38 R3.out HSZ.out rfl ?_ | (go_at_call 22; refine (KC _).mono ?_; rintro e w4 ⟨rfl, h4⟩))
  clear f0 f1 f2 f3
  have C4 := hide (C3.out.below h4)
  have R4 := hide (R3.out.below h4)
  have D4 := hide (D3.out.below h4)
  have B4 := hide (B3.out.trans (h4.mono B3.out.size))
  have Z4 := hide (show N + 3 ≤ w4.heap.size by have := Z3.out; have := h4.size; omega)
  clear h4 C3 R3 D3 B3 Z3 w3
  obtain ⟨f0, -⟩ := C4.out.get 0 _ rfl
  obtain ⟨f1, -⟩ := C4.out.get 1 _ rfl
  obtain ⟨f2, -⟩ := C4.out.get 2 _ rfl
  obtain ⟨f3, -⟩ := C4.out.get 3 _ rfl
  go_upto_region 5 with (go_at_call 23; refine (KP _ (HIN.out.below B4.out)).mono ?_; rintro e w5 ⟨v, rfl, h5, b5⟩; obtain ⟨v1, v2, rfl, g1, g2, ap⟩ := h5; obtain ⟨a1, c1, rfl, -⟩ := GRow.lies g1; obtain ⟨a2, c2, rfl, -⟩ := GRow.lies g2; simp only [pgA])
  refine named (P := Code.wp _ _ _ _) ?_
  intro w6 hw6
  obtain ⟨M, hM⟩ : ∃ M, M = w5.heap.size := ⟨_, rfl⟩
  have al : Below w5.heap.size w5 w6 := by rw [hw6]; exact alloc_below _ _
  have q6 : PQ w6 w4.heap.size M (.slice a1 cs.length c1) (.slice a2 gs.length c2) ⟨num, lsn, cs, gs⟩ := by
    refine ⟨by rw [hw6, hM]; exact Cells.new w5 (pgA num lsn (.slice a1 cs.length c1) (.slice a2 gs.length c2)) 40, GRow.below g1 al, GRow.below g2 al, ap, fun q => ?_, fun q => ?_, by rw [hM]; exact b5.size⟩
    · have := (World.ownsRow.lt g1 _ q).2; omega
    · have := (World.ownsRow.lt g2 _ q).2; omega
  have hb46 : Below w4.heap.size w4 w6 := b5.trans (al.mono b5.size)
  have C6 := hide (C4.out.below hb46)
  have R6 := hide (R4.out.below hb46)
  have D6 := hide (D4.out.below hb46)
  have B6 := hide (B4.out.trans (hb46.mono B4.out.size))
  have Q6 := hide q6
  have NM := hide (show N + 3 ≤ w4.heap.size ∧ w4.heap.size ≤ M from ⟨Z4.out, by rw [hM]; exact b5.size⟩)
  rw [← hM]
  clear hw6 hM al q6 hb46 b5 g1 g2 ap f0 f1 f2 f3 C4 R4 D4 Z4 B4
  have e0 := hk0.out _ _ R6.out
  obtain ⟨e1, -⟩ := C6.out.get 1 _ rfl
  go_upto_region 8 with (first | refine wpList_load38 R6.out HSZ.out rfl ?_ | (go_at_call 24; refine (KG _ _ _ _ _ Q6.out).mono ?_; rintro e w7 ⟨rfl, h7, -⟩))
  have D7 := hide (D6.out.under (by have := NM.out; omega) h7)
  have B7 := hide (B6.out.trans (h7.mono (by have := HN.out; have := NM.out; omega)))
  clear e0 e1 C6 R6 D6 B6 Q6 h7
  have K8 := ((((Keep.refl (fun i => i = N + 2) w7).setCell (g := N + 2) (j := 0) (fun _ => rfl) (.int .i64 0)).setCell (g := N + 2) (j := 1) (fun _ => rfl) (.int .i64 0)).setCell (g := N + 2) (j := 2) (fun _ => rfl) (.slice none 0 0)).setCell (g := N + 2) (j := 3) (fun _ => rfl) (.slice none 0 0)
  have C8 := (((D7.out.stored (j := 0) (by simp) (.int .i64 0)).stored (j := 1) (by simp) (.int .i64 0)).stored (j := 2) (by simp) (.slice none 0 0)).stored (j := 3) (by simp) (.slice none 0 0)
  obtain ⟨k0, _⟩ := C8.get 0 _ rfl
  obtain ⟨k1, _⟩ := C8.get 1 _ rfl
  obtain ⟨k2, _⟩ := C8.get 2 _ rfl
  obtain ⟨k3, _⟩ := C8.get 3 _ rfl
  obtain ⟨y0, u0⟩ := D7.out.get 0 _ rfl
  obtain ⟨y1, u1⟩ := D7.out.get 1 _ rfl
  obtain ⟨y2, u2⟩ := D7.out.get 2 _ rfl
  obtain ⟨y3, u3⟩ := D7.out.get 3 _ rfl
  have HK8 := hide K8
  clear K8 C8
  go_wp2_with fail
  refine bodyPost_ret (v := .tuple #[.agg #[.int .i64 0, .int .i64 0, .slice none 0 0, .slice none 0 0], .bool false, .int .i64 E]) (by simp only [results, Try.results14]; simp [go_sem, k0, k1, k2, k3]) rfl ?_
  have bf := B7.out.trans (HK8.out.below B7.out.size (fun i hi q => by have := HN.out; omega))
  have hn := HN.out
  clear HN
  subst hn
  exact ⟨_, rfl, PgOut.none _ _, bf⟩
set_option maxHeartbeats 4000000 in
theorem do_yes (p : Pg) (t : At) (r : Rc) (w : World) (h : PIn w p t) (hf : p.Fit) (hr : r.Fit) (hc : ckE p.num r = 0) (hl : ¬ r.lsn ≤ p.lsn) (hg : chgE p r = 0) : Calls Try.prog 14 #[pgV p t, recV r] w (DoPost w p r) := by
  have g1 : didB p r = true := decide_eq_true ⟨hc, hl, hg⟩
  obtain ⟨-, -, -, g2, g3⟩ := did_chg g1
  unfold DoPost
  rw [g1, g2, g3]
  clear g1 g2 g3
  obtain ⟨RA, hRA⟩ : ∃ RA, RA = recA r := ⟨_, rfl⟩
  have hsz : RA.size = 17 := by rw [hRA]; rfl
  have hk0 := hide (show ∀ (x : World) (n : Nat), RBox x n 38 RA → x.cell? ⟨n, 0, none⟩ = some (.int .i64 r.lsn) from fun x n q => by subst hRA; exact (q.cells.get 0 _ rfl).1)
  have KC := fun w' => check_any p t r w'
  have KP := fun w' h => copy_any p t w' h (Nat.le_trans hf.lc (by decide)) (Nat.le_trans hf.lg (by decide))
  have KG := fun w' B b v1 v2 h => changePage_any B b v1 v2 p r w' h hf hr
  show Calls Try.prog 14 #[.agg (pgA p.num p.lsn (.slice t.a p.cs.length t.c) (.slice t.b p.gs.length t.d)), .agg (recA r)] w _
  simp only [recV] at KC KG
  simp only [pgV] at KC KP
  rw [← hRA] at KC KG ⊢
  obtain ⟨E1, hE1⟩ : ∃ E, E = ckE p.num r := ⟨_, rfl⟩
  rw [← hE1] at KC
  have HSZ := hide hsz
  have HIN := hide h
  clear hsz hRA h hf hr
  rw [hc] at hE1
  subst hE1
  rw [hg] at KG
  obtain ⟨P, hP⟩ : ∃ P, P = chgP p r := ⟨_, rfl⟩
  rw [← hP] at KG ⊢
  clear hc hP hg
  have hd : decide (r.lsn ≤ p.lsn) = false := decide_eq_false hl
  clear hl
  go_enter Try.func14, Try.ntmps14
  go_upto_region 1 with fail
  refine named (P := Code.wp _ _ _ _) ?_
  intro w3 hw3
  obtain ⟨N, hN⟩ : ∃ N, N = w.heap.size := ⟨_, rfl⟩
  have b3 : Below w.heap.size w w3 := by rw [hw3]; exact bnext (bnext (alloc_below _ _) (alloc_below _ _) (Nat.le_refl _)) (alloc_below _ _) (Nat.le_refl _)
  have c3 : Cells w3 N [.int .i64 p.num, .int .i64 p.lsn, .slice t.a p.cs.length t.c, .slice t.b p.gs.length t.d] := by rw [hw3, hN]; exact ((Cells.new w (pgA p.num p.lsn (.slice t.a p.cs.length t.c) (.slice t.b p.gs.length t.d)) 40).below (alloc_below _ _)).below (alloc_below _ _)
  have r3 : RBox w3 (N + 1) 38 RA := by
    rw [hw3, hN]
    have q := RBox.new (w.alloc (.cells (pgA p.num p.lsn (.slice t.a p.cs.length t.c) (.slice t.b p.gs.length t.d)) 40)) RA 38
    rw [World.size_alloc] at q
    exact q.below (alloc_below _ _)
  have d3 : Cells w3 (N + 2) [.int .i64 0, .int .i64 0, .slice none 0 0, .slice none 0 0] := by
    rw [hw3, hN]
    have q := Cells.new ((w.alloc (.cells (pgA p.num p.lsn (.slice t.a p.cs.length t.c) (.slice t.b p.gs.length t.d)) 40)).alloc (.cells RA 38)) #[.int .i64 0, .int .i64 0, .slice none 0 0, .slice none 0 0] 40
    rw [World.size_alloc, World.size_alloc] at q
    exact q
  have z3 : w3.heap.size = N + 3 := by rw [hw3, hN]; simp
  have B3 := hide b3
  have C3 := hide c3
  have R3 := hide r3
  have D3 := hide d3
  have Z3 := hide z3
  have HN := hide hN
  rw [← hN]
  clear hw3 b3 c3 r3 d3 z3 hN
  obtain ⟨num, lsn, cs, gs⟩ := p
  obtain ⟨ta, tc, tb, td⟩ := t
  try simp only [pgA] at KC
  try simp only [pgA] at KP
  obtain ⟨f0, -⟩ := C3.out.get 0 _ rfl
  obtain ⟨f1, -⟩ := C3.out.get 1 _ rfl
  obtain ⟨f2, -⟩ := C3.out.get 2 _ rfl
  obtain ⟨f3, -⟩ := C3.out.get 3 _ rfl
  go_upto_region 2 with (first | refine wpList_load38 R3.out HSZ.out rfl ?_ | (go_at_call 22; refine (KC _).mono ?_; rintro e w4 ⟨rfl, h4⟩))
  clear f0 f1 f2 f3
  have C4 := hide (C3.out.below h4)
  have R4 := hide (R3.out.below h4)
  have D4 := hide (D3.out.below h4)
  have B4 := hide (B3.out.trans (h4.mono B3.out.size))
  have Z4 := hide (show N + 3 ≤ w4.heap.size by have := Z3.out; have := h4.size; omega)
  clear h4 C3 R3 D3 B3 Z3 w3
  obtain ⟨f0, -⟩ := C4.out.get 0 _ rfl
  obtain ⟨f1, -⟩ := C4.out.get 1 _ rfl
  obtain ⟨f2, -⟩ := C4.out.get 2 _ rfl
  obtain ⟨f3, -⟩ := C4.out.get 3 _ rfl
  go_upto_region 5 with (go_at_call 23; refine (KP _ (HIN.out.below B4.out)).mono ?_; rintro e w5 ⟨v, rfl, h5, b5⟩; obtain ⟨v1, v2, rfl, g1, g2, ap⟩ := h5; obtain ⟨a1, c1, rfl, -⟩ := GRow.lies g1; obtain ⟨a2, c2, rfl, -⟩ := GRow.lies g2; simp only [pgA])
  refine named (P := Code.wp _ _ _ _) ?_
  intro w6 hw6
  obtain ⟨M, hM⟩ : ∃ M, M = w5.heap.size := ⟨_, rfl⟩
  have al : Below w5.heap.size w5 w6 := by rw [hw6]; exact alloc_below _ _
  have q6 : PQ w6 w4.heap.size M (.slice a1 cs.length c1) (.slice a2 gs.length c2) ⟨num, lsn, cs, gs⟩ := by
    refine ⟨by rw [hw6, hM]; exact Cells.new w5 (pgA num lsn (.slice a1 cs.length c1) (.slice a2 gs.length c2)) 40, GRow.below g1 al, GRow.below g2 al, ap, fun q => ?_, fun q => ?_, by rw [hM]; exact b5.size⟩
    · have := (World.ownsRow.lt g1 _ q).2; omega
    · have := (World.ownsRow.lt g2 _ q).2; omega
  have hb46 : Below w4.heap.size w4 w6 := b5.trans (al.mono b5.size)
  have C6 := hide (C4.out.below hb46)
  have R6 := hide (R4.out.below hb46)
  have D6 := hide (D4.out.below hb46)
  have B6 := hide (B4.out.trans (hb46.mono B4.out.size))
  have Q6 := hide q6
  have NM := hide (show N + 3 ≤ w4.heap.size ∧ w4.heap.size ≤ M from ⟨Z4.out, by rw [hM]; exact b5.size⟩)
  rw [← hM]
  clear hw6 hM al q6 hb46 b5 g1 g2 ap f0 f1 f2 f3 C4 R4 D4 Z4 B4
  have e0 := hk0.out _ _ R6.out
  obtain ⟨e1, -⟩ := C6.out.get 1 _ rfl
  go_upto_region 8 with (first | refine wpList_load38 R6.out HSZ.out rfl ?_ | (go_at_call 24; refine (KG _ _ _ _ _ Q6.out).mono ?_; rintro e w7 ⟨rfl, h7, p7⟩; obtain ⟨v3, v4, q7⟩ := p7 (by first | rfl | trivial); obtain ⟨a3, c3, rfl, -⟩ := GRow.lies q7.g1; obtain ⟨a4, c4, rfl, -⟩ := GRow.lies q7.g2))
  have D7 := hide (D6.out.under (by have := NM.out; omega) h7)
  have r7 : RBox w7 (N + 1) 38 RA := (h7.block _ (by have := NM.out; omega)).trans R6.out
  have B7 := hide (B6.out.trans (h7.mono (by have := HN.out; have := NM.out; omega)))
  have Q7 := hide q7
  have e7 := hk0.out _ _ r7
  clear e0 e1 C6 R6 D6 B6 Q6 h7 p7 q7 r7
  obtain ⟨m1, n1⟩ := Q7.out.cl.get 1 _ rfl
  go_upto_region 11 with fail
  refine named (P := Code.wp _ _ _ _) ?_
  intro w8 hw8
  have K78 : Keep (fun i => i = M) w7 w8 := by rw [hw8]; exact (Keep.refl (fun i => i = M) w7).setCell (g := M) (j := 1) (fun _ => rfl) _
  have Q8 := hide (show PQ w8 w4.heap.size M _ _ (setL P r.lsn) by rw [hw8]; exact Q7.out.stL r.lsn)
  have D8 := hide (D7.out.keep K78 (by have := NM.out; omega))
  have B8 := hide (B7.out.trans (K78.below B7.out.size (fun i hi q => by have := HN.out; have := NM.out; omega)))
  clear hw8 K78 e7 m1 n1 D7 B7 Q7
  obtain ⟨m0, -⟩ := Q8.out.cl.get 0 _ rfl
  obtain ⟨m1, -⟩ := Q8.out.cl.get 1 _ rfl
  obtain ⟨m2, -⟩ := Q8.out.cl.get 2 _ rfl
  obtain ⟨m3, -⟩ := Q8.out.cl.get 3 _ rfl
  simp only [setL] at m0 m1
  have K8 := ((((Keep.refl (fun i => i = N + 2) w8).setCell (g := N + 2) (j := 0) (fun _ => rfl) (.int .i64 P.num)).setCell (g := N + 2) (j := 1) (fun _ => rfl) (.int .i64 r.lsn)).setCell (g := N + 2) (j := 2) (fun _ => rfl) (.slice a3 P.cs.length c3)).setCell (g := N + 2) (j := 3) (fun _ => rfl) (.slice a4 P.gs.length c4)
  have C8 := (((D8.out.stored (j := 0) (by simp) (.int .i64 P.num)).stored (j := 1) (by simp) (.int .i64 r.lsn)).stored (j := 2) (by simp) (.slice a3 P.cs.length c3)).stored (j := 3) (by simp) (.slice a4 P.gs.length c4)
  obtain ⟨k0, _⟩ := C8.get 0 _ rfl
  obtain ⟨k1, _⟩ := C8.get 1 _ rfl
  obtain ⟨k2, _⟩ := C8.get 2 _ rfl
  obtain ⟨k3, _⟩ := C8.get 3 _ rfl
  obtain ⟨y0, u0⟩ := D8.out.get 0 _ rfl
  obtain ⟨y1, u1⟩ := D8.out.get 1 _ rfl
  obtain ⟨y2, u2⟩ := D8.out.get 2 _ rfl
  obtain ⟨y3, u3⟩ := D8.out.get 3 _ rfl
  have HK8 := hide K8
  clear K8 C8
  go_wp2_with fail
  refine bodyPost_ret (v := .tuple #[.agg #[.int .i64 P.num, .int .i64 r.lsn, .slice a3 P.cs.length c3, .slice a4 P.gs.length c4], .bool true, .int .i64 0]) (by simp only [results, Try.results14]; simp [go_sem, k0, k1, k2, k3]) rfl ?_
  have bf := B8.out.trans (HK8.out.below B8.out.size (fun i hi q => by have := HN.out; omega))
  have nn := NM.out
  have qf := Q8.out.keep HK8.out (by omega) (fun g hg q => by have := (World.ownsRow.lt Q8.out.g1 g hg).1; omega) (fun g hg q => by have := (World.ownsRow.lt Q8.out.g2 g hg).1; omega)
  have hn := HN.out
  clear HN
  subst hn
  exact ⟨_, rfl, qf.out.mono (by omega), bf⟩
theorem do_any (p : Pg) (t : At) (r : Rc) (w : World) (h : PIn w p t) (hf : p.Fit) (hr : r.Fit) : Calls Try.prog 14 #[pgV p t, recV r] w (DoPost w p r) := by
  by_cases hc : ckE p.num r = 0
  · by_cases hl : r.lsn ≤ p.lsn
    · exact do_oldP p t r w h hf hr hc hl
    · by_cases hg : chgE p r = 0
      · exact do_yes p t r w h hf hr hc hl hg
      · exact do_err p t r w h hf hr hc hl hg
  · exact do_ck p t r w h hf hr hc
end Go.Proofs.Ytoocbpbaieedmaa
