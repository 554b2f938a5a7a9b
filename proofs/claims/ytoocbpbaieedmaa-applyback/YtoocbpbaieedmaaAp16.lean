import Derived.Test.YtoocbpbaieedmaaAp14
namespace Go.Proofs.Ytoocbpbaieedmaa
open Go.RowKit Go.QK Quota
set_option maxRecDepth 100000
theorem PIn.as {w : World} {p : Pg} {t : At} {n : Int} (h : PIn w (setL p n) t) : PIn w p t := ⟨h.lc, h.lg, h.nc, h.ng, h.cc, h.cg⟩
theorem rec_k (r : Rc) (k : Int) : (recA r).setIfInBounds 1 (.int .i64 k) = recA (asK r k r.lsn) := rfl
theorem rec_l (r : Rc) (n : Int) : (recA r).setIfInBounds 0 (.int .i64 n) = recA (asK r r.k n) := rfl
theorem asK_asK (r : Rc) (k n k' n' : Int) : asK (asK r k n) k' n' = asK r k' n' := rfl
set_option maxHeartbeats 16000000 in
theorem law_back (p : Pg) (t : At) (r : Rc) (more : Int) (w : World) (h : PIn w p t) (hp : p.Num) (hr : r.Fit) (ho : Rc.One r) : Calls Try.prog 4 #[pgV p t, recV r, .int .i64 more] w fun e w' => e = .returned (.bool true) ∧ Below w.heap.size w w' := by
  obtain ⟨q, hq⟩ : ∃ q, q = asK r 3 r.lsn := ⟨_, rfl⟩
  have hqr : q.Fit := by rw [hq]; exact ⟨hr.d, hr.v⟩
  have hq3 : q.k = 3 := by rw [hq]; rfl
  have hql : q.lsn = r.lsn := by rw [hq]; rfl
  obtain ⟨C, hC⟩ : ∃ C, C = cutP p := ⟨_, rfl⟩
  obtain ⟨P, hP⟩ : ∃ P, P = doP C q := ⟨_, rfl⟩
  have hcf : C.Fit := by rw [hC]; exact hp.cut
  have hpf : P.Fit := by rw [hP]; exact hcf.do_ hqr
  have KC := fun w' (h : PIn w' p t) => cut_any p t w' h
  have IC := hide (show ∀ w', PIn w' p t → PIn w' C t from fun w' q => by rw [hC]; exact q.cut)
  have KL := fun w' h => lent_at C t w' h hcf
  have KD := fun u w' h => done_at C u q w' h hcf hqr
  have KU := fun n u w' h => done_at P u (asK q 4 n) w' h hpf ⟨hqr.d, hqr.v⟩
  have KSC := fun u v w' h1 h2 => same_at C u v w' hcf h1 h2
  simp only [recV] at KD KU
  obtain ⟨RA, hRA⟩ : ∃ RA, RA = recA r := ⟨_, rfl⟩
  obtain ⟨QA, hQA⟩ : ∃ QA, QA = recA q := ⟨_, rfl⟩
  have RK := hide (show RA.setIfInBounds 1 (.int .i64 3) = QA by rw [hRA, hQA, hq]; exact rec_k r 3)
  have SQ := hide (show QA.size = 17 by rw [hQA]; rfl)
  have ONQ := hide (show QA.toList.all (fun v => v.oneCell') = true by rw [hQA, hq]; exact ho.asK 3 r.lsn)
  have Q0 := hide (show ∀ (x : World) (n : Nat), RBox x n 38 QA → x.cell? ⟨n, 0, none⟩ = some (.int .i64 q.lsn) from fun x n z => by subst hQA; exact (z.cells.get 0 _ rfl).1)
  have QU := hide (show ∀ n : Int, (QA.setIfInBounds 1 (.int .i64 4)).setIfInBounds 0 (.int .i64 n) = recA (asK q 4 n) from fun n => by rw [hQA]; rfl)
  show Calls Try.prog 4 #[.agg (pgA p.num p.lsn (.slice t.a p.cs.length t.c) (.slice t.b p.gs.length t.d)), .agg (recA r), .int .i64 more] w _
  rw [← hRA]
  rw [← hQA] at KD
  rw [← hC] at KC
  rw [← hP] at KD
  obtain ⟨E, hE⟩ : ∃ E, E = doE C q := ⟨_, rfl⟩
  obtain ⟨Y, hY⟩ : ∃ Y, Y = didB C q := ⟨_, rfl⟩
  rw [← hE, ← hY] at KD
  have HE := hide hE
  have HY := hide hY
  have HP := hide hP
  have HIN := hide h
  have PARG := hide (show ∀ w', Below w.heap.size w w' → PIn w' p t from fun w' q => h.below q)
  have SRA := hide (show RA.size = 17 by rw [hRA]; rfl)
  have HCF := hide hcf
  have HQ3 := hide hq3
  have CS := hide (show C.num = p.num ∧ C.lsn = p.lsn by rw [hC]; exact ⟨rfl, rfl⟩)
  clear hRA hQA hC hp hr ho h hE hY hP hcf hpf hq3 hql hq hqr
  go_enter Try.func4, Try.ntmps4
  go_upto_region 1 with fail
  refine named (P := Code.wp _ _ _ _) ?_
  intro w1 hw1
  obtain ⟨N, hN⟩ : ∃ N, N = w.heap.size := ⟨_, rfl⟩
  have b1 : Below w.heap.size w w1 := by rw [hw1]; exact bnext (alloc_below _ _) (alloc_below _ _) (Nat.le_refl _)
  have c1 : Cells w1 N [.int .i64 p.num, .int .i64 p.lsn, .slice t.a p.cs.length t.c, .slice t.b p.gs.length t.d] := by rw [hw1, hN]; exact (Cells.new w (pgA p.num p.lsn (.slice t.a p.cs.length t.c) (.slice t.b p.gs.length t.d)) 25).below (alloc_below _ _)
  have d1 : RBox w1 (N + 1) 38 RA := by
    rw [hw1, hN]
    have q := RBox.new (w.alloc (.cells (pgA p.num p.lsn (.slice t.a p.cs.length t.c) (.slice t.b p.gs.length t.d)) 25)) RA 38
    rw [World.size_alloc] at q
    exact q
  have HN := hide hN
  rw [← hN]
  clear hN hw1
  go_upto_region 3 with (go_at_call 8; refine (awake_any _).mono ?_; rintro e w2 ⟨rfl, h2⟩)
  have B2 := hide (b1.trans (h2.mono b1.size))
  have C2 := hide (c1.below h2)
  have R2 := hide (d1.below h2)
  have I2 := hide (HIN.out.below B2.out)
  clear b1 c1 d1 h2 HIN w1
  obtain ⟨p0, -⟩ := C2.out.get 0 _ rfl
  obtain ⟨p1, -⟩ := C2.out.get 1 _ rfl
  obtain ⟨p2, -⟩ := C2.out.get 2 _ rfl
  obtain ⟨p3, -⟩ := C2.out.get 3 _ rfl
  go_upto_region 4 with (go_at_call 11; refine (KC _ I2.out).mono ?_; rintro e w3 ⟨rfl, h3⟩; obtain ⟨y0, z0⟩ := (C2.out.below h3).get 0 _ rfl; obtain ⟨y1, z1⟩ := (C2.out.below h3).get 1 _ rfl; obtain ⟨y2, z2⟩ := (C2.out.below h3).get 2 _ rfl; obtain ⟨y3, z3⟩ := (C2.out.below h3).get 3 _ rfl)
  refine named (P := Code.wp _ _ _ _) ?_
  intro w4 hw4
  have K4 : Keep (fun i => i = N) w3 w4 := by rw [hw4]; exact ((((Keep.refl (fun i => i = N) w3).setCell (g := N) (j := 0) (fun _ => rfl) _).setCell (g := N) (j := 1) (fun _ => rfl) _).setCell (g := N) (j := 2) (fun _ => rfl) _).setCell (g := N) (j := 3) (fun _ => rfl) _
  have C4 := hide (show Cells w4 N [.int .i64 C.num, .int .i64 C.lsn, .slice t.a C.cs.length t.c, .slice t.b C.gs.length t.d] by rw [hw4]; exact ((((C2.out.below h3).stored (j := 0) (by simp) _).stored (j := 1) (by simp) _).stored (j := 2) (by simp) _).stored (j := 3) (by simp) _)
  have R4 := hide ((R2.out.below h3).keep K4 (by omega))
  have b34 := B2.out.trans (h3.mono B2.out.size)
  have B4 := hide (b34.trans (K4.below b34.size (fun i hi q => by have := HN.out; omega)))
  have I4 := hide (IC.out _ (PARG.out _ B4.out))
  clear hw4 K4 b34 h3 p0 p1 p2 p3 y0 z0 y1 z1 y2 z2 y3 z3 C2 R2 I2 B2 KC w2 w3
  obtain ⟨rk, hrk⟩ : ∃ v, RA.toList[1]? = some v := ⟨_, List.getElem?_eq_getElem (show 1 < RA.toList.length by have := SRA.out; simp; omega)⟩
  obtain ⟨k1, l1⟩ := R4.out.cells.get 1 rk hrk
  clear hrk
  go_upto_region 5 with fail
  refine named (P := Code.wp _ _ _ _) ?_
  intro w5 hw5
  have K5 : Keep (fun i => i = N + 1) w4 w5 := by rw [hw5]; exact (Keep.refl (fun i => i = N + 1) w4).setCell (g := N + 1) (j := 1) (fun _ => rfl) _
  have R5 := hide (show RBox w5 (N + 1) 38 QA by rw [hw5, ← RK.out]; exact R4.out.setCell 1 _)
  have C5 := hide (C4.out.keep K5 (by omega))
  have B5 := hide (B4.out.trans (K5.below B4.out.size (fun i hi q => by have := HN.out; omega)))
  have I5 := hide (IC.out _ (PARG.out _ B5.out))
  clear hw5 K5 k1 l1 C4 R4 B4 I4 w4
  go_cut [7, 8, 9] (fun v7 v8 v9 w' => ∃ qb u, v7 = ptr qb ∧ v8 = .bool Y ∧ v9 = .bool (E == 0) ∧ Cells w' qb [.int .i64 P.num, .int .i64 P.lsn, .slice u.a P.cs.length u.c, .slice u.b P.gs.length u.d] ∧ PIn w' P u ∧ (∀ ad : Addr, (u.a = some ad ∨ u.b = some ad) → ad.block < w'.heap.size) ∧ Below w5.heap.size w5 w')
  case first =>
    refine wp_region_held_drew (S := fun wq => Below w5.heap.size w5 wq) (by kernel_rfl) (Below.refl _ _).drew (fun hS => ?_)
    generalize w5.drew = y0 at *
    refine take_at 0 (some 20) (v := ?_) rfl rfl (by kernel_rfl) (by kernel_rfl) (by kernel_rfl) (fun _ _ _ h => h) ⟨by rfl, ?_⟩ hS ?_
    rotate_left
    · intro wq hSw; have qq := C5.out.below hSw; obtain ⟨q0, _⟩ := qq.get 0 _ rfl; obtain ⟨q1, _⟩ := qq.get 1 _ rfl; obtain ⟨q2, _⟩ := qq.get 2 _ rfl; obtain ⟨q3, _⟩ := qq.get 3 _ rfl; clear qq; go_simp; try rfl
    simp only [Act.put, List.setIfInBounds_toArray, List.set_cons_zero, List.set_cons_succ]
    refine take_at 2 (some 22) (v := .agg QA) rfl rfl (by kernel_rfl) (by kernel_rfl) (by kernel_rfl) (fun _ _ _ h => h) ⟨by rfl, fun wq hSw => exec_load38 rfl rfl (rb_at (R5.out.below hSw)) SQ.out⟩ hS ?_
    simp only [Act.put, List.setIfInBounds_toArray, List.set_cons_zero, List.set_cons_succ]
    have LO := hide hS.size
    refine wpAnyH_ready (rs := [1, 8]) (by kernel_rfl) (by simp) ?_
    refine AllReadyH.cons rfl (fun K hK => ?_) (AllReadyH.cons rfl (fun K hK => ?_) AllReadyH.nil)
    · clear LO
      go_simp
      go_wp2_with fail
      refine (KL _ (I5.out.below hS)).mono ?_
      rintro e x2 ⟨u1, rfl, i1, hh⟩
      have s_x2 : Below w5.heap.size w5 x2 := hS.trans (hh.mono hS.size)
      have J1 := hide i1
      clear i1
      clear hh hS
      go_wp2_with fail
      refine hK.out _ _ s_x2 (fun hS => ?_)
      clear hK K s_x2
      (try simp only [Act.put, List.setIfInBounds_toArray, List.set_cons_zero, List.set_cons_succ])
      have LO := hide hS.size
      refine wpAnyH_ready (rs := [3, 8]) (by kernel_rfl) (by simp) ?_
      refine AllReadyH.cons rfl (fun K hK => ?_) (AllReadyH.cons rfl (fun K hK => ?_) AllReadyH.nil)
      · clear LO
        go_simp
        go_wp2_with fail
        refine (KD _ _ J1.out).mono ?_
        rintro e x3 ⟨u, rfl, i2, ub, hh⟩
        have s_x3 : Below w5.heap.size w5 x3 := hS.trans (hh.mono hS.size)
        have J2 := hide i2
        clear i2 J1
        have UB := hide ub
        clear ub
        clear hh hS
        go_wp2_with fail
        refine hK.out _ _ s_x3 (fun hS => ?_)
        clear hK K s_x3
        (try simp only [Act.put, List.setIfInBounds_toArray, List.set_cons_zero, List.set_cons_succ])
        refine take_at 4 (some 19) (v := ?_) rfl rfl (by kernel_rfl) (by kernel_rfl) (by kernel_rfl) (fun _ _ _ h => h) ⟨by rfl, ?_⟩ hS ?_
        rotate_left
        · intro wq hSw; go_simp; try rfl
        simp only [Act.put, List.setIfInBounds_toArray, List.set_cons_zero, List.set_cons_succ]
        refine take_at 5 (some 24) (v := ?_) rfl rfl (by kernel_rfl) (by kernel_rfl) (by kernel_rfl) (fun _ _ _ h => h) ⟨by rfl, ?_⟩ hS ?_
        rotate_left
        · intro wq hSw; go_simp; try rfl
        simp only [Act.put, List.setIfInBounds_toArray, List.set_cons_zero, List.set_cons_succ]
        refine take_at 6 (some 25) (v := ?_) rfl rfl (by kernel_rfl) (by kernel_rfl) (by kernel_rfl) (fun _ _ _ h => h) ⟨by rfl, ?_⟩ hS ?_
        rotate_left
        · intro wq hSw; go_simp; try rfl
        simp only [Act.put, List.setIfInBounds_toArray, List.set_cons_zero, List.set_cons_succ]
        refine take_at 7 (some 26) (v := ?_) rfl rfl (by kernel_rfl) (by kernel_rfl) (by kernel_rfl) (fun _ _ _ h => h) ⟨by rfl, ?_⟩ hS ?_
        rotate_left
        · intro wq hSw; go_simp; try rfl
        simp only [Act.put, List.setIfInBounds_toArray, List.set_cons_zero, List.set_cons_succ]
        have iu0 := J2
        clear J2
        have LO := hide hS.size
        refine wpAnyH_ready (rs := [8]) (by kernel_rfl) (by simp) ?_
        refine AllReadyH.cons rfl (fun K hK => ?_) AllReadyH.nil
        go_simp
        go_wp2_with fail
        refine hK.out _ _ (hS.alloc hS.size _) (fun hS => ?_)
        clear hK K
        (try simp only [Act.put, List.setIfInBounds_toArray, List.set_cons_zero, List.set_cons_succ])
        refine named (P := wpAnyH _ _ _ _ _ _ _ _) ?_
        intro xa hxa
        rw [← hxa] at hS
        obtain ⟨qb, hqb⟩ : ∃ qb, qb = x3.heap.size := ⟨_, rfl⟩
        have al : Below x3.heap.size x3 xa := by rw [hxa]; exact alloc_below _ _
        have Z := hide (show Cells xa qb [.int .i64 0, .int .i64 0, .slice none 0 0, .slice none 0 0] by rw [hxa, hqb]; exact Cells.new _ _ _)
        have J2 := hide (iu0.out.below al)
        have NQ := hide (show ∀ ad : Addr, (u.a = some ad ∨ u.b = some ad) → ¬ ad.block = qb from fun ad q => by have := (UB.out ad q).2; omega)
        have QB := hide (show w5.heap.size ≤ qb by rw [hqb]; exact LO.out)
        have UBx := hide (show ∀ ad : Addr, (u.a = some ad ∨ u.b = some ad) → ad.block < xa.heap.size from fun ad q => Nat.lt_of_lt_of_le (UB.out ad q).2 al.size)
        rw [← hqb]
        clear hxa hqb al iu0 LO
        have K8 := ((((Keep.refl (fun i => i = qb) xa).setCell (g := qb) (j := 0) (fun _ => rfl) (.int .i64 P.num)).setCell (g := qb) (j := 1) (fun _ => rfl) (.int .i64 P.lsn)).setCell (g := qb) (j := 2) (fun _ => rfl) (.slice u.a P.cs.length u.c)).setCell (g := qb) (j := 3) (fun _ => rfl) (.slice u.b P.gs.length u.d)
        have C8 := (((Z.out.stored (j := 0) (by simp) (.int .i64 P.num)).stored (j := 1) (by simp) (.int .i64 P.lsn)).stored (j := 2) (by simp) (.slice u.a P.cs.length u.c)).stored (j := 3) (by simp) (.slice u.b P.gs.length u.d)
        obtain ⟨y0, z0⟩ := Z.out.get 0 _ rfl
        obtain ⟨y1, z1⟩ := Z.out.get 1 _ rfl
        obtain ⟨y2, z2⟩ := Z.out.get 2 _ rfl
        obtain ⟨y3, z3⟩ := Z.out.get 3 _ rfl
        have HK8 := hide K8
        have HC8 := hide C8
        clear K8 C8
        have QLT := hide (Z.out.1)
        have S8 := hide (hS.trans (HK8.out.below hS.size (fun i hi q => by have := QB.out; omega)))
        clear hS
        refine wpAnyH_ready (rs := [9]) (by kernel_rfl) (by simp) ?_
        refine AllReadyH.cons rfl (fun K hK => ?_) AllReadyH.nil
        go_simp
        go_wp2_with fail
        refine hK.out _ _ S8.out (fun hS => ?_)
        clear hK K
        (try simp only [Act.put, List.setIfInBounds_toArray, List.set_cons_zero, List.set_cons_succ])
        refine take_at 10 (some 8) (v := ?_) rfl rfl (by kernel_rfl) (by kernel_rfl) (by kernel_rfl) (fun _ _ _ h => h) ⟨by rfl, ?_⟩ hS ?_
        rotate_left
        · intro wq hSw; go_simp; try rfl
        simp only [Act.put, List.setIfInBounds_toArray, List.set_cons_zero, List.set_cons_succ]
        refine take_at 11 (some 9) (v := ?_) rfl rfl (by kernel_rfl) (by kernel_rfl) (by kernel_rfl) (fun _ _ _ h => h) ⟨by rfl, ?_⟩ hS ?_
        rotate_left
        · intro wq hSw; go_simp; try rfl
        simp only [Act.put, List.setIfInBounds_toArray, List.set_cons_zero, List.set_cons_succ]
        clear hS
        refine wpAnyH_done (by kernel_rfl) ?_ _
        clear y0 z0 y1 z1 y2 z2 y3 z3
        have JF := hide (J2.out.keep HK8.out (fun ad q => NQ.out ad (.inl q)) (fun ad q => NQ.out ad (.inr q)))
        go_wp2_with fail
        go_meet
        exact ⟨qb, u, rfl, rfl, rfl, HC8.out, JF.out, fun ad q => Nat.lt_of_lt_of_le (UBx.out ad q) HK8.out.size, S8.out⟩
      · go_simp
        go_wp2_with fail
        refine hK.out _ _ (hS.alloc hS.size _) (fun hS => ?_)
        clear hK K
        (try simp only [Act.put, List.setIfInBounds_toArray, List.set_cons_zero, List.set_cons_succ])
        refine named (P := wpAnyH _ _ _ _ _ _ _ _) ?_
        intro xa hxa
        rw [← hxa] at hS
        obtain ⟨qb, hqb⟩ : ∃ qb, qb = x2.heap.size := ⟨_, rfl⟩
        have al : Below x2.heap.size x2 xa := by rw [hxa]; exact alloc_below _ _
        have Z := hide (show Cells xa qb [.int .i64 0, .int .i64 0, .slice none 0 0, .slice none 0 0] by rw [hxa, hqb]; exact Cells.new _ _ _)
        have J1x := hide (J1.out.below al)
        clear J1
        have J1 := J1x
        clear J1x
        have QB := hide (show w5.heap.size ≤ qb by rw [hqb]; exact LO.out)
        rw [← hqb]
        clear hxa hqb al
        refine wpAnyH_ready (rs := [3]) (by kernel_rfl) (by simp) ?_
        refine AllReadyH.cons rfl (fun K hK => ?_) AllReadyH.nil
        go_simp
        go_wp2_with fail
        refine (KD _ _ J1.out).mono ?_
        rintro e x3 ⟨u, rfl, i2, ub, hh⟩
        have s_x3 : Below w5.heap.size w5 x3 := hS.trans (hh.mono hS.size)
        have Zx3 := hide (Z.out.below hh)
        have J2 := hide i2
        clear i2 J1
        have NQ := hide (show ∀ ad : Addr, (u.a = some ad ∨ u.b = some ad) → ¬ ad.block = qb from fun ad q => by have := (ub ad q).1; have := Z.out.1; omega)
        have UBx := hide (fun (ad : Addr) (q : u.a = some ad ∨ u.b = some ad) => (ub ad q).2)
        clear ub
        clear Z
        have Z := Zx3
        clear Zx3
        clear hh hS
        go_wp2_with fail
        refine hK.out _ _ s_x3 (fun hS => ?_)
        clear hK K s_x3
        (try simp only [Act.put, List.setIfInBounds_toArray, List.set_cons_zero, List.set_cons_succ])
        refine take_at 4 (some 19) (v := ?_) rfl rfl (by kernel_rfl) (by kernel_rfl) (by kernel_rfl) (fun _ _ _ h => h) ⟨by rfl, ?_⟩ hS ?_
        rotate_left
        · intro wq hSw; go_simp; try rfl
        simp only [Act.put, List.setIfInBounds_toArray, List.set_cons_zero, List.set_cons_succ]
        refine take_at 5 (some 24) (v := ?_) rfl rfl (by kernel_rfl) (by kernel_rfl) (by kernel_rfl) (fun _ _ _ h => h) ⟨by rfl, ?_⟩ hS ?_
        rotate_left
        · intro wq hSw; go_simp; try rfl
        simp only [Act.put, List.setIfInBounds_toArray, List.set_cons_zero, List.set_cons_succ]
        refine take_at 6 (some 25) (v := ?_) rfl rfl (by kernel_rfl) (by kernel_rfl) (by kernel_rfl) (fun _ _ _ h => h) ⟨by rfl, ?_⟩ hS ?_
        rotate_left
        · intro wq hSw; go_simp; try rfl
        simp only [Act.put, List.setIfInBounds_toArray, List.set_cons_zero, List.set_cons_succ]
        refine take_at 7 (some 26) (v := ?_) rfl rfl (by kernel_rfl) (by kernel_rfl) (by kernel_rfl) (fun _ _ _ h => h) ⟨by rfl, ?_⟩ hS ?_
        rotate_left
        · intro wq hSw; go_simp; try rfl
        simp only [Act.put, List.setIfInBounds_toArray, List.set_cons_zero, List.set_cons_succ]
        have K8 := ((((Keep.refl (fun i => i = qb) x3).setCell (g := qb) (j := 0) (fun _ => rfl) (.int .i64 P.num)).setCell (g := qb) (j := 1) (fun _ => rfl) (.int .i64 P.lsn)).setCell (g := qb) (j := 2) (fun _ => rfl) (.slice u.a P.cs.length u.c)).setCell (g := qb) (j := 3) (fun _ => rfl) (.slice u.b P.gs.length u.d)
        have C8 := (((Z.out.stored (j := 0) (by simp) (.int .i64 P.num)).stored (j := 1) (by simp) (.int .i64 P.lsn)).stored (j := 2) (by simp) (.slice u.a P.cs.length u.c)).stored (j := 3) (by simp) (.slice u.b P.gs.length u.d)
        obtain ⟨y0, z0⟩ := Z.out.get 0 _ rfl
        obtain ⟨y1, z1⟩ := Z.out.get 1 _ rfl
        obtain ⟨y2, z2⟩ := Z.out.get 2 _ rfl
        obtain ⟨y3, z3⟩ := Z.out.get 3 _ rfl
        have HK8 := hide K8
        have HC8 := hide C8
        clear K8 C8
        have QLT := hide (Z.out.1)
        have S8 := hide (hS.trans (HK8.out.below hS.size (fun i hi q => by have := QB.out; omega)))
        clear hS
        refine wpAnyH_ready (rs := [9]) (by kernel_rfl) (by simp) ?_
        refine AllReadyH.cons rfl (fun K hK => ?_) AllReadyH.nil
        go_simp
        go_wp2_with fail
        refine hK.out _ _ S8.out (fun hS => ?_)
        clear hK K
        (try simp only [Act.put, List.setIfInBounds_toArray, List.set_cons_zero, List.set_cons_succ])
        refine take_at 10 (some 8) (v := ?_) rfl rfl (by kernel_rfl) (by kernel_rfl) (by kernel_rfl) (fun _ _ _ h => h) ⟨by rfl, ?_⟩ hS ?_
        rotate_left
        · intro wq hSw; go_simp; try rfl
        simp only [Act.put, List.setIfInBounds_toArray, List.set_cons_zero, List.set_cons_succ]
        refine take_at 11 (some 9) (v := ?_) rfl rfl (by kernel_rfl) (by kernel_rfl) (by kernel_rfl) (fun _ _ _ h => h) ⟨by rfl, ?_⟩ hS ?_
        rotate_left
        · intro wq hSw; go_simp; try rfl
        simp only [Act.put, List.setIfInBounds_toArray, List.set_cons_zero, List.set_cons_succ]
        clear hS
        refine wpAnyH_done (by kernel_rfl) ?_ _
        clear y0 z0 y1 z1 y2 z2 y3 z3
        have JF := hide (J2.out.keep HK8.out (fun ad q => NQ.out ad (.inl q)) (fun ad q => NQ.out ad (.inr q)))
        go_wp2_with fail
        go_meet
        exact ⟨qb, u, rfl, rfl, rfl, HC8.out, JF.out, fun ad q => Nat.lt_of_lt_of_le (UBx.out ad q) HK8.out.size, S8.out⟩
    · go_simp
      go_wp2_with fail
      refine hK.out _ _ (hS.alloc hS.size _) (fun hS => ?_)
      clear hK K
      (try simp only [Act.put, List.setIfInBounds_toArray, List.set_cons_zero, List.set_cons_succ])
      refine named (P := wpAnyH _ _ _ _ _ _ _ _) ?_
      intro xa hxa
      rw [← hxa] at hS
      obtain ⟨qb, hqb⟩ : ∃ qb, qb = y0.heap.size := ⟨_, rfl⟩
      have al : Below y0.heap.size y0 xa := by rw [hxa]; exact alloc_below _ _
      have Z := hide (show Cells xa qb [.int .i64 0, .int .i64 0, .slice none 0 0, .slice none 0 0] by rw [hxa, hqb]; exact Cells.new _ _ _)
      have QB := hide (show w5.heap.size ≤ qb by rw [hqb]; exact LO.out)
      rw [← hqb]
      clear hxa hqb al
      refine wpAnyH_ready (rs := [1]) (by kernel_rfl) (by simp) ?_
      refine AllReadyH.cons rfl (fun K hK => ?_) AllReadyH.nil
      go_simp
      go_wp2_with fail
      refine (KL _ (I5.out.below hS)).mono ?_
      rintro e x2 ⟨u1, rfl, i1, hh⟩
      have s_x2 : Below w5.heap.size w5 x2 := hS.trans (hh.mono hS.size)
      have Zx2 := hide (Z.out.below hh)
      have J1 := hide i1
      clear i1
      clear Z
      have Z := Zx2
      clear Zx2
      clear hh hS
      go_wp2_with fail
      refine hK.out _ _ s_x2 (fun hS => ?_)
      clear hK K s_x2
      (try simp only [Act.put, List.setIfInBounds_toArray, List.set_cons_zero, List.set_cons_succ])
      refine wpAnyH_ready (rs := [3]) (by kernel_rfl) (by simp) ?_
      refine AllReadyH.cons rfl (fun K hK => ?_) AllReadyH.nil
      go_simp
      go_wp2_with fail
      refine (KD _ _ J1.out).mono ?_
      rintro e x3 ⟨u, rfl, i2, ub, hh⟩
      have s_x3 : Below w5.heap.size w5 x3 := hS.trans (hh.mono hS.size)
      have Zx3 := hide (Z.out.below hh)
      have J2 := hide i2
      clear i2 J1
      have NQ := hide (show ∀ ad : Addr, (u.a = some ad ∨ u.b = some ad) → ¬ ad.block = qb from fun ad q => by have := (ub ad q).1; have := Z.out.1; omega)
      have UBx := hide (fun (ad : Addr) (q : u.a = some ad ∨ u.b = some ad) => (ub ad q).2)
      clear ub
      clear Z
      have Z := Zx3
      clear Zx3
      clear hh hS
      go_wp2_with fail
      refine hK.out _ _ s_x3 (fun hS => ?_)
      clear hK K s_x3
      (try simp only [Act.put, List.setIfInBounds_toArray, List.set_cons_zero, List.set_cons_succ])
      refine take_at 4 (some 19) (v := ?_) rfl rfl (by kernel_rfl) (by kernel_rfl) (by kernel_rfl) (fun _ _ _ h => h) ⟨by rfl, ?_⟩ hS ?_
      rotate_left
      · intro wq hSw; go_simp; try rfl
      simp only [Act.put, List.setIfInBounds_toArray, List.set_cons_zero, List.set_cons_succ]
      refine take_at 5 (some 24) (v := ?_) rfl rfl (by kernel_rfl) (by kernel_rfl) (by kernel_rfl) (fun _ _ _ h => h) ⟨by rfl, ?_⟩ hS ?_
      rotate_left
      · intro wq hSw; go_simp; try rfl
      simp only [Act.put, List.setIfInBounds_toArray, List.set_cons_zero, List.set_cons_succ]
      refine take_at 6 (some 25) (v := ?_) rfl rfl (by kernel_rfl) (by kernel_rfl) (by kernel_rfl) (fun _ _ _ h => h) ⟨by rfl, ?_⟩ hS ?_
      rotate_left
      · intro wq hSw; go_simp; try rfl
      simp only [Act.put, List.setIfInBounds_toArray, List.set_cons_zero, List.set_cons_succ]
      refine take_at 7 (some 26) (v := ?_) rfl rfl (by kernel_rfl) (by kernel_rfl) (by kernel_rfl) (fun _ _ _ h => h) ⟨by rfl, ?_⟩ hS ?_
      rotate_left
      · intro wq hSw; go_simp; try rfl
      simp only [Act.put, List.setIfInBounds_toArray, List.set_cons_zero, List.set_cons_succ]
      have K8 := ((((Keep.refl (fun i => i = qb) x3).setCell (g := qb) (j := 0) (fun _ => rfl) (.int .i64 P.num)).setCell (g := qb) (j := 1) (fun _ => rfl) (.int .i64 P.lsn)).setCell (g := qb) (j := 2) (fun _ => rfl) (.slice u.a P.cs.length u.c)).setCell (g := qb) (j := 3) (fun _ => rfl) (.slice u.b P.gs.length u.d)
      have C8 := (((Z.out.stored (j := 0) (by simp) (.int .i64 P.num)).stored (j := 1) (by simp) (.int .i64 P.lsn)).stored (j := 2) (by simp) (.slice u.a P.cs.length u.c)).stored (j := 3) (by simp) (.slice u.b P.gs.length u.d)
      obtain ⟨y0, z0⟩ := Z.out.get 0 _ rfl
      obtain ⟨y1, z1⟩ := Z.out.get 1 _ rfl
      obtain ⟨y2, z2⟩ := Z.out.get 2 _ rfl
      obtain ⟨y3, z3⟩ := Z.out.get 3 _ rfl
      have HK8 := hide K8
      have HC8 := hide C8
      clear K8 C8
      have QLT := hide (Z.out.1)
      have S8 := hide (hS.trans (HK8.out.below hS.size (fun i hi q => by have := QB.out; omega)))
      clear hS
      refine wpAnyH_ready (rs := [9]) (by kernel_rfl) (by simp) ?_
      refine AllReadyH.cons rfl (fun K hK => ?_) AllReadyH.nil
      go_simp
      go_wp2_with fail
      refine hK.out _ _ S8.out (fun hS => ?_)
      clear hK K
      (try simp only [Act.put, List.setIfInBounds_toArray, List.set_cons_zero, List.set_cons_succ])
      refine take_at 10 (some 8) (v := ?_) rfl rfl (by kernel_rfl) (by kernel_rfl) (by kernel_rfl) (fun _ _ _ h => h) ⟨by rfl, ?_⟩ hS ?_
      rotate_left
      · intro wq hSw; go_simp; try rfl
      simp only [Act.put, List.setIfInBounds_toArray, List.set_cons_zero, List.set_cons_succ]
      refine take_at 11 (some 9) (v := ?_) rfl rfl (by kernel_rfl) (by kernel_rfl) (by kernel_rfl) (fun _ _ _ h => h) ⟨by rfl, ?_⟩ hS ?_
      rotate_left
      · intro wq hSw; go_simp; try rfl
      simp only [Act.put, List.setIfInBounds_toArray, List.set_cons_zero, List.set_cons_succ]
      clear hS
      refine wpAnyH_done (by kernel_rfl) ?_ _
      clear y0 z0 y1 z1 y2 z2 y3 z3
      have JF := hide (J2.out.keep HK8.out (fun ad q => NQ.out ad (.inl q)) (fun ad q => NQ.out ad (.inr q)))
      go_wp2_with fail
      go_meet
      exact ⟨qb, u, rfl, rfl, rfl, HC8.out, JF.out, fun ad q => Nat.lt_of_lt_of_le (UBx.out ad q) HK8.out.size, S8.out⟩
  case rest =>
    obtain ⟨qb, u, rfl, rfl, rfl, hc, hi, hub0, hb⟩ := hcut
    have UBW := hide hub0
    clear hub0
    have Q6 := hide hc
    have I6 := hide hi
    have C6 := hide (C5.out.below hb)
    have R6 := hide (R5.out.below hb)
    have B6 := hide (B5.out.trans (hb.mono B5.out.size))
    have NLT := hide (show N + 1 < wc.heap.size from R6.out.lt)
    clear hc hi hb C5 R5 I5 B5 KD KL w5
    have f0 := Q0.out _ _ R6.out
    by_cases he : E = 0
    · have hb0 : (E == 0) = true := by simpa using he
      cases Y with
      | false =>
        clear HE HY HP he
        go_wp2_with fail
        exact bodyPost_ret (v := .bool true) (by simp [results, Try.results4, go_sem]) rfl ⟨rfl, B6.out⟩
      | true =>
        have hd := HY.out.symm
        obtain ⟨c1, -⟩ := did_chg hd
        obtain ⟨-, l1, l2, -⟩ := ck_zero c1
        by_cases hm : decide (more < 1) = true
        · clear HE HY HP he hd c1 l1 l2
          go_wp2_with fail
          exact bodyPost_ret (v := .bool true) (by simp [results, Try.results4, go_sem]) rfl ⟨rfl, B6.out⟩
        · have hm' : decide (more < 1) = false := by simpa using hm
          have m1 := of_decide_eq_false hm'
          have hw1 : wrap64 (2147483647 - q.lsn) = 2147483647 - q.lsn := by unfold wrap64; omega
          by_cases hx : decide (2147483647 - q.lsn < more) = true
          · clear HE HY HP he hd c1 l1 l2 m1 hm
            go_wp2_with fail
            exact bodyPost_ret (v := .bool true) (by simp [results, Try.results4, go_sem]) rfl ⟨rfl, B6.out⟩
          · have hx' : decide (2147483647 - q.lsn < more) = false := by simpa using hx
            have x1 := of_decide_eq_false hx'
            obtain ⟨n, hn⟩ : ∃ n, n = q.lsn + more := ⟨_, rfl⟩
            have hw2 : wrap64 (q.lsn + more) = n := by rw [hn]; unfold wrap64; omega
            obtain ⟨b1, b2, b3, b4⟩ := do_back (n := n) HCF.out HQ3.out hd (by omega) (by omega)
            rw [← HP.out] at b1 b2 b3 b4
            have KV := KU n
            rw [b1, b2] at KV
            obtain ⟨X, hX⟩ : ∃ X, X = doP P (asK q 4 n) := ⟨_, rfl⟩
            rw [← hX] at KV b3 b4
            have XC : X = setL C n := by
              obtain ⟨xn, xl, xc, xg⟩ := X
              simp only [setL] at b3 b4
              rw [← b4, b3]
              rfl
            subst XC
            obtain ⟨UA, hUA⟩ : ∃ UA, UA = recA (asK q 4 n) := ⟨_, rfl⟩
            have QUn := hide ((QU.out n).trans hUA.symm)
            have SU := hide (show UA.size = 17 by rw [hUA]; rfl)
            have U0 := hide (show ∀ (x : World) (m : Nat), RBox x m 38 UA → x.cell? ⟨m, 0, none⟩ = some (.int .i64 n) from fun x m z => by subst hUA; exact (z.cells.get 0 _ rfl).1)
            rw [← hUA] at KV
            have hb1 : ((0 : Int) == 0) = true := rfl
            rw [hb1] at KV
            clear hn HE HY HP he hd c1 l1 l2 m1 x1 hm hx hX hUA hb1 b1 b2 b3 b4 KU QU HCF HQ3
            go_upto_region 9 with (first | refine wpList_load38 R6.out SQ.out rfl ?_ | (refine wpList_store38 (RBox.new _ #[.int .i64 0, .int .i64 0, .int .i64 0, .int .i64 0, .int .i64 0, .int .i64 0, .int .i64 0, .int .i64 0, .int .i64 0, .int .i64 0, .int .i64 0, .int .i64 0, .int .i64 0, .int .i64 0, .slice none 0 0, .slice none 0 0, .int .i64 0] 38) rfl SQ.out ONQ.out rfl rfl ?_; intro w7 hx hk))
            obtain ⟨ub, hub⟩ : ∃ ub, ub = wc.heap.size := ⟨_, rfl⟩
            have b67 : Below wc.heap.size wc w7 := (alloc_below wc _).trans (hk.below (by simp) (fun k hk q => by omega))
            have U7 := hide (show RBox w7 ub 38 QA by rw [hub]; exact hx)
            have Q7 := hide (Q6.out.below b67)
            have I7 := hide (I6.out.below b67)
            have C7 := hide (C6.out.below b67)
            have R7 := hide (R6.out.below b67)
            have B7 := hide (B6.out.trans (b67.mono B6.out.size))
            have NE := hide (show qb < ub ∧ N + 1 < ub by have := Q6.out.1; have := NLT.out; omega)
            rw [← hub]
            have LB := hide (show w.heap.size ≤ ub by rw [hub]; exact B6.out.size)
            have UBL := hide (show ∀ ad : Addr, (u.a = some ad ∨ u.b = some ad) → ad.block < ub by rw [hub]; exact UBW.out)
            clear hx hk hub b67 f0 Q6 I6 C6 R6 B6
            obtain ⟨rk, hrk⟩ : ∃ v, QA.toList[1]? = some v := ⟨_, List.getElem?_eq_getElem (show 1 < QA.toList.length by have := SQ.out; simp; omega)⟩
            obtain ⟨k1, l1⟩ := U7.out.cells.get 1 rk hrk
            clear hrk
            go_upto_region 10 with fail
            refine named (P := Code.wp _ _ _ _) ?_
            intro w8 hw8
            have K8 : Keep (fun i => i = ub) w7 w8 := by rw [hw8]; exact (Keep.refl (fun i => i = ub) w7).setCell (g := ub) (j := 1) (fun _ => rfl) _
            have U8 := hide (show RBox w8 ub 38 (QA.setIfInBounds 1 (.int .i64 4)) by rw [hw8]; exact U7.out.setCell 1 _)
            have f0 := Q0.out _ _ (R7.out.keep K8 (by have := NE.out; omega))
            obtain ⟨rz, hrz⟩ : ∃ v, (QA.setIfInBounds 1 (.int .i64 4)).toList[0]? = some v := ⟨_, List.getElem?_eq_getElem (show 0 < (QA.setIfInBounds 1 (.int .i64 4)).toList.length by have := SQ.out; simp; omega)⟩
            obtain ⟨k0, l0⟩ := U8.out.cells.get 0 rz hrz
            have HK8 := hide K8
            clear hw8 K8 hrz k1 l1 U7
            go_upto_region 11 with fail
            refine named (P := Code.wp _ _ _ _) ?_
            intro w9 hw9
            have K9 : Keep (fun i => i = ub) w8 w9 := by rw [hw9]; exact (Keep.refl (fun i => i = ub) w8).setCell (g := ub) (j := 0) (fun _ => rfl) _
            have KK : Keep (fun i => i = ub) w7 w9 := HK8.out.trans K9 (fun _ _ q => q)
            have U9 := hide (show RBox w9 ub 38 UA by rw [hw9, ← QUn.out]; exact U8.out.setCell 0 _)
            have Q9 := hide (Q7.out.keep KK (by have := NE.out; omega))
            have I9 := hide (I7.out.keep KK (fun ad q => by have := UBL.out ad (.inl q); omega) (fun ad q => by have := UBL.out ad (.inr q); omega))
            have C9 := hide (C7.out.keep KK (by have := NE.out; omega))
            have B9 := hide (B7.out.trans (KK.below B7.out.size (fun i hi q => by have := LB.out; omega)))
            clear hw9 K9 KK HK8 f0 k0 l0 U8 Q7 I7 C7 R7 B7
            obtain ⟨p0, -⟩ := Q9.out.get 0 _ rfl
            obtain ⟨p1, -⟩ := Q9.out.get 1 _ rfl
            obtain ⟨p2, -⟩ := Q9.out.get 2 _ rfl
            obtain ⟨p3, -⟩ := Q9.out.get 3 _ rfl
            go_upto_region 12 with (first | refine wpList_load38 U9.out SU.out rfl ?_ | (go_at_call 9; refine (KV _ _ I9.out).mono ?_; rintro e wd ⟨v, rfl, id, vb, hd⟩))
            refine named (P := Code.wp _ _ _ _) ?_
            intro we hwe
            obtain ⟨xb, hxb⟩ : ∃ xb, xb = wd.heap.size := ⟨_, rfl⟩
            have al : Below wd.heap.size wd we := by rw [hwe]; exact alloc_below _ _
            have b9e := hd.trans (al.mono hd.size)
            have Xe := hide (show Cells we xb [.int .i64 C.num, .int .i64 n, .slice v.a C.cs.length v.c, .slice v.b C.gs.length v.d] by rw [hwe, hxb]; exact Cells.new wd #[.int .i64 C.num, .int .i64 n, .slice v.a C.cs.length v.c, .slice v.b C.gs.length v.d] 40)
            have Ve := hide (id.below al)
            have VN := hide (show ∀ ad : Addr, (v.a = some ad ∨ v.b = some ad) → ¬ ad.block = xb from fun ad q => by have := (vb ad q).2; omega)
            have Ce := hide (C9.out.below b9e)
            have Ue := hide (U9.out.below b9e)
            have Be := hide (B9.out.trans (b9e.mono B9.out.size))
            have NX := hide (show N < xb ∧ w.heap.size ≤ xb by have := C9.out.1; have := hd.size; have := B9.out.size; omega)
            rw [← hxb]
            clear hwe hxb al b9e id vb hd p0 p1 p2 p3 Q9 I9 C9 U9 B9 KV
            have u0 := U0.out _ _ Ue.out
            obtain ⟨x1, x2⟩ := Xe.out.get 1 _ rfl
            obtain ⟨cl, -⟩ := Ce.out.get 1 _ rfl
            go_upto_region 15 with fail
            refine named (P := Code.wp _ _ _ _) ?_
            intro wf hwf
            have Kf : Keep (fun i => i = xb) we wf := by rw [hwf]; exact (Keep.refl (fun i => i = xb) we).setCell (g := xb) (j := 1) (fun _ => rfl) _
            have Xf := hide (show Cells wf xb [.int .i64 C.num, .int .i64 C.lsn, .slice v.a C.cs.length v.c, .slice v.b C.gs.length v.d] by rw [hwf]; exact Xe.out.stored (j := 1) (by simp) _)
            have Vf := hide (show PIn wf C v from ((Ve.out).keep Kf (fun ad q => VN.out ad (.inl q)) (fun ad q => VN.out ad (.inr q))).as)
            have Cf := hide (Ce.out.keep Kf (by have := NX.out; omega))
            have Bf := hide (Be.out.trans (Kf.below Be.out.size (fun i hi q => by have := NX.out; omega)))
            have If := hide (IC.out _ (PARG.out _ Bf.out))
            clear hwf Kf u0 x1 x2 cl Xe Ve Ce Ue Be
            have KB := fun w' => back_any C v w'
            refine wp_region_held_drew (S := fun wq => Below wf.heap.size wf wq) (by kernel_rfl) (Below.refl _ _).drew (fun hS => ?_)
            refine take_at 0 (some 74) (v := ?_) rfl rfl (by kernel_rfl) (by kernel_rfl) (by kernel_rfl) (fun _ _ _ h => h) ⟨by rfl, ?_⟩ hS ?_
            rotate_left
            · intro wq hSw; have qq := Xf.out.below hSw; obtain ⟨q0, _⟩ := qq.get 0 _ rfl; obtain ⟨q1, _⟩ := qq.get 1 _ rfl; obtain ⟨q2, _⟩ := qq.get 2 _ rfl; obtain ⟨q3, _⟩ := qq.get 3 _ rfl; clear qq; go_simp; try rfl
            simp only [Act.put, List.setIfInBounds_toArray, List.set_cons_zero, List.set_cons_succ]
            refine take_at 2 (some 76) (v := ?_) rfl rfl (by kernel_rfl) (by kernel_rfl) (by kernel_rfl) (fun _ _ _ h => h) ⟨by rfl, ?_⟩ hS ?_
            rotate_left
            · intro wq hSw; have qq := Cf.out.below hSw; obtain ⟨q0, _⟩ := qq.get 0 _ rfl; obtain ⟨q1, _⟩ := qq.get 1 _ rfl; obtain ⟨q2, _⟩ := qq.get 2 _ rfl; obtain ⟨q3, _⟩ := qq.get 3 _ rfl; clear qq; go_simp; try rfl
            simp only [Act.put, List.setIfInBounds_toArray, List.set_cons_zero, List.set_cons_succ]
            refine wpAnyH_ready (rs := [1]) (by kernel_rfl) (by simp) ?_
            refine AllReadyH.cons rfl (fun K hK => ?_) AllReadyH.nil
            go_simp
            go_wp2_with fail
            refine (KB _).mono ?_
            rintro e x1 ⟨rfl, hh⟩
            have s_x1 : Below wf.heap.size wf x1 := hS.trans (hh.mono hS.size)
            clear hh hS
            go_wp2_with fail
            refine hK.out _ _ s_x1 (fun hS => ?_)
            clear hK K s_x1
            (try simp only [Act.put, List.setIfInBounds_toArray, List.set_cons_zero, List.set_cons_succ])
            refine wpAnyH_ready (rs := [3]) (by kernel_rfl) (by simp) ?_
            refine AllReadyH.cons rfl (fun K hK => ?_) AllReadyH.nil
            go_simp
            go_wp2_with fail
            refine (KSC _ _ _ (Vf.out.below hS) (If.out.below hS)).mono ?_
            rintro e x2 ⟨rfl, hh⟩
            have s_x2 : Below wf.heap.size wf x2 := hS.trans (hh.mono hS.size)
            clear hh hS
            go_wp2_with fail
            refine hK.out _ _ s_x2 (fun hS => ?_)
            clear hK K s_x2
            (try simp only [Act.put, List.setIfInBounds_toArray, List.set_cons_zero, List.set_cons_succ])
            refine take_at 4 (some 6) (v := ?_) rfl rfl (by kernel_rfl) (by kernel_rfl) (by kernel_rfl) (fun _ _ _ h => h) ⟨by rfl, ?_⟩ hS ?_
            rotate_left
            · intro wq hSw; go_simp; try rfl
            simp only [Act.put, List.setIfInBounds_toArray, List.set_cons_zero, List.set_cons_succ]
            have F7 := hide hS
            clear hS
            refine wpAnyH_done (by kernel_rfl) ?_ _
            go_wp2_with fail
            exact bodyPost_ret (v := .bool true) (by simp [results, Try.results4, go_sem]) rfl ⟨rfl, Bf.out.trans (F7.out.mono Bf.out.size)⟩
    · have hb0 : (E == 0) = false := by simpa using he
      clear HE HY HP he
      go_wp2_with fail
      exact bodyPost_ret (v := .bool true) (by simp [results, Try.results4, go_sem]) rfl ⟨rfl, B6.out⟩
end Go.Proofs.Ytoocbpbaieedmaa
