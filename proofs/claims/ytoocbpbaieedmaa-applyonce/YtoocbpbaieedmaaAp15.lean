import Derived.Test.YtoocbpbaieedmaaAp14
namespace Go.Proofs.Ytoocbpbaieedmaa
open Go.RowKit Go.QK Quota
set_option maxRecDepth 100000
set_option maxHeartbeats 16000000 in
theorem law_once (p : Pg) (t : At) (r o : Rc) (w : World) (h : PIn w p t) (hp : p.Num) (hr : r.Fit) (ho : o.Fit) : Calls Try.prog 3 #[pgV p t, recV r, recV o] w fun e w' => e = .returned (.bool true) ∧ Below w.heap.size w w' := by
  obtain ⟨RA, hRA⟩ : ∃ RA, RA = recA r := ⟨_, rfl⟩
  obtain ⟨OA, hOA⟩ : ∃ OA, OA = recA o := ⟨_, rfl⟩
  have SR := hide (show RA.size = 17 by rw [hRA]; rfl)
  have SO := hide (show OA.size = 17 by rw [hOA]; rfl)
  have R0 := hide (show ∀ (x : World) (n : Nat), RBox x n 38 RA → x.cell? ⟨n, 0, none⟩ = some (.int .i64 r.lsn) from fun x n q => by subst hRA; exact (q.cells.get 0 _ rfl).1)
  have O0 := hide (show ∀ (x : World) (n : Nat), RBox x n 38 OA → x.cell? ⟨n, 0, none⟩ = some (.int .i64 o.lsn) from fun x n q => by subst hOA; exact (q.cells.get 0 _ rfl).1)
  obtain ⟨C, hC⟩ : ∃ C, C = cutP p := ⟨_, rfl⟩
  obtain ⟨P, hP⟩ : ∃ P, P = doP C r := ⟨_, rfl⟩
  have hcf : C.Fit := by rw [hC]; exact hp.cut
  have hpf : P.Fit := by rw [hP]; exact hcf.do_ hr
  have KC := fun w' (h : PIn w' p t) => cut_any p t w' h
  have IC := hide (show ∀ w', PIn w' p t → PIn w' C t from fun w' q => by rw [hC]; exact q.cut)
  have KL := fun w' h => lent_at C t w' h hcf
  have KD := fun u w' h => done_at C u r w' h hcf hr
  have KD2 := fun u w' h => done_at P u r w' h hpf hr
  have KO := fun u w' h => do_any P u o w' h hpf ho
  have KSC := fun u v w' h1 h2 => same_at C u v w' hcf h1 h2
  have KSP := fun u v w' h1 h2 => same_at P u v w' hpf h1 h2
  have KB := fun u w' => back_any P u w'
  unfold DoPost at KO
  simp only [recV] at KD KD2 KO
  show Calls Try.prog 3 #[.agg (pgA p.num p.lsn (.slice t.a p.cs.length t.c) (.slice t.b p.gs.length t.d)), .agg (recA r), .agg (recA o)] w _
  rw [← hRA] at KD KD2 ⊢
  rw [← hOA] at KO ⊢
  rw [← hC] at KC
  rw [← hP] at KD
  obtain ⟨E, hE⟩ : ∃ E, E = doE C r := ⟨_, rfl⟩
  obtain ⟨Y, hY⟩ : ∃ Y, Y = didB C r := ⟨_, rfl⟩
  rw [← hE, ← hY] at KD
  have HE := hide hE
  have HY := hide hY
  have HP := hide hP
  have HIN := hide h
  clear hRA hOA hC hp hr ho h hE hY hP hcf hpf
  go_enter Try.func3, Try.ntmps3
  go_upto_region 1 with fail
  refine named (P := Code.wp _ _ _ _) ?_
  intro w1 hw1
  obtain ⟨N, hN⟩ : ∃ N, N = w.heap.size := ⟨_, rfl⟩
  have b1 : Below w.heap.size w w1 := by rw [hw1]; exact bnext (bnext (alloc_below _ _) (alloc_below _ _) (Nat.le_refl _)) (alloc_below _ _) (Nat.le_refl _)
  have c1 : Cells w1 N [.int .i64 p.num, .int .i64 p.lsn, .slice t.a p.cs.length t.c, .slice t.b p.gs.length t.d] := by rw [hw1, hN]; exact ((Cells.new w (pgA p.num p.lsn (.slice t.a p.cs.length t.c) (.slice t.b p.gs.length t.d)) 25).below (alloc_below _ _)).below (alloc_below _ _)
  have d1 : RBox w1 (N + 1) 38 RA := by
    rw [hw1, hN]
    have q := RBox.new (w.alloc (.cells (pgA p.num p.lsn (.slice t.a p.cs.length t.c) (.slice t.b p.gs.length t.d)) 25)) RA 38
    rw [World.size_alloc] at q
    exact q.below (alloc_below _ _)
  have e1 : RBox w1 (N + 2) 38 OA := by
    rw [hw1, hN]
    have q := RBox.new ((w.alloc (.cells (pgA p.num p.lsn (.slice t.a p.cs.length t.c) (.slice t.b p.gs.length t.d)) 25)).alloc (.cells RA 38)) OA 38
    rw [World.size_alloc, World.size_alloc] at q
    exact q
  rw [← hN]
  clear hN hw1
  go_upto_region 3 with (go_at_call 8; refine (awake_any _).mono ?_; rintro e w2 ⟨rfl, h2⟩)
  have B2 := hide (b1.trans (h2.mono b1.size))
  have C2 := hide (c1.below h2)
  have R2 := hide (d1.below h2)
  have O2 := hide (e1.below h2)
  have I2 := hide (HIN.out.below B2.out)
  clear b1 c1 d1 e1 h2 HIN w1
  go_cut [7, 8, 9] (fun v7 v8 v9 w' => ∃ qb u, v7 = ptr qb ∧ v8 = .bool Y ∧ v9 = .bool (E == 0) ∧ Cells w' qb [.int .i64 P.num, .int .i64 P.lsn, .slice u.a P.cs.length u.c, .slice u.b P.gs.length u.d] ∧ PIn w' P u ∧ Below w2.heap.size w2 w')
  case first =>
    refine wp_region_held_drew (S := fun wq => Below w2.heap.size w2 wq) (by kernel_rfl) (Below.refl _ _).drew (fun hS => ?_)
    generalize w2.drew = y0 at *
    refine take_at 0 (some 19) (v := ?_) rfl rfl (by kernel_rfl) (by kernel_rfl) (by kernel_rfl) (fun _ _ _ h => h) ⟨by rfl, ?_⟩ hS ?_
    rotate_left
    · intro wq hSw; have qq := C2.out.below hSw; obtain ⟨q0, _⟩ := qq.get 0 _ rfl; obtain ⟨q1, _⟩ := qq.get 1 _ rfl; obtain ⟨q2, _⟩ := qq.get 2 _ rfl; obtain ⟨q3, _⟩ := qq.get 3 _ rfl; clear qq; go_simp; try rfl
    simp only [Act.put, List.setIfInBounds_toArray, List.set_cons_zero, List.set_cons_succ]
    refine take_at 3 (some 22) (v := .agg RA) rfl rfl (by kernel_rfl) (by kernel_rfl) (by kernel_rfl) (fun _ _ _ h => h) ⟨by rfl, fun wq hSw => exec_load38 rfl rfl (rb_at (R2.out.below hSw)) SR.out⟩ hS ?_
    simp only [Act.put, List.setIfInBounds_toArray, List.set_cons_zero, List.set_cons_succ]
    have LO := hide hS.size
    refine wpAnyH_ready (rs := [1, 9]) (by kernel_rfl) (by simp) ?_
    refine AllReadyH.cons rfl (fun K hK => ?_) (AllReadyH.cons rfl (fun K hK => ?_) AllReadyH.nil)
    · clear LO
      go_simp
      go_wp2_with fail
      refine (KC _ (I2.out.below hS)).mono ?_
      rintro e x1 ⟨rfl, hh⟩
      have s_x1 : Below w2.heap.size w2 x1 := hS.trans (hh.mono hS.size)
      clear hh hS
      go_wp2_with fail
      refine hK.out _ _ s_x1 (fun hS => ?_)
      clear hK K s_x1
      (try simp only [Act.put, List.setIfInBounds_toArray, List.set_cons_zero, List.set_cons_succ])
      have LO := hide hS.size
      refine wpAnyH_ready (rs := [2, 9]) (by kernel_rfl) (by simp) ?_
      refine AllReadyH.cons rfl (fun K hK => ?_) (AllReadyH.cons rfl (fun K hK => ?_) AllReadyH.nil)
      · clear LO
        go_simp
        go_wp2_with fail
        refine (KL _ (IC.out _ (I2.out.below hS))).mono ?_
        rintro e x2 ⟨u1, rfl, i1, hh⟩
        have s_x2 : Below w2.heap.size w2 x2 := hS.trans (hh.mono hS.size)
        have J1 := hide i1
        clear i1
        clear hh hS
        go_wp2_with fail
        refine hK.out _ _ s_x2 (fun hS => ?_)
        clear hK K s_x2
        (try simp only [Act.put, List.setIfInBounds_toArray, List.set_cons_zero, List.set_cons_succ])
        have LO := hide hS.size
        refine wpAnyH_ready (rs := [4, 9]) (by kernel_rfl) (by simp) ?_
        refine AllReadyH.cons rfl (fun K hK => ?_) (AllReadyH.cons rfl (fun K hK => ?_) AllReadyH.nil)
        · clear LO
          go_simp
          go_wp2_with fail
          refine (KD _ _ J1.out).mono ?_
          rintro e x3 ⟨u, rfl, i2, ub, hh⟩
          have s_x3 : Below w2.heap.size w2 x3 := hS.trans (hh.mono hS.size)
          have J2 := hide i2
          clear i2 J1
          have UB := hide ub
          clear ub
          clear hh hS
          go_wp2_with fail
          refine hK.out _ _ s_x3 (fun hS => ?_)
          clear hK K s_x3
          (try simp only [Act.put, List.setIfInBounds_toArray, List.set_cons_zero, List.set_cons_succ])
          refine take_at 5 (some 18) (v := ?_) rfl rfl (by kernel_rfl) (by kernel_rfl) (by kernel_rfl) (fun _ _ _ h => h) ⟨by rfl, ?_⟩ hS ?_
          rotate_left
          · intro wq hSw; go_simp; try rfl
          simp only [Act.put, List.setIfInBounds_toArray, List.set_cons_zero, List.set_cons_succ]
          refine take_at 6 (some 24) (v := ?_) rfl rfl (by kernel_rfl) (by kernel_rfl) (by kernel_rfl) (fun _ _ _ h => h) ⟨by rfl, ?_⟩ hS ?_
          rotate_left
          · intro wq hSw; go_simp; try rfl
          simp only [Act.put, List.setIfInBounds_toArray, List.set_cons_zero, List.set_cons_succ]
          refine take_at 7 (some 25) (v := ?_) rfl rfl (by kernel_rfl) (by kernel_rfl) (by kernel_rfl) (fun _ _ _ h => h) ⟨by rfl, ?_⟩ hS ?_
          rotate_left
          · intro wq hSw; go_simp; try rfl
          simp only [Act.put, List.setIfInBounds_toArray, List.set_cons_zero, List.set_cons_succ]
          refine take_at 8 (some 26) (v := ?_) rfl rfl (by kernel_rfl) (by kernel_rfl) (by kernel_rfl) (fun _ _ _ h => h) ⟨by rfl, ?_⟩ hS ?_
          rotate_left
          · intro wq hSw; go_simp; try rfl
          simp only [Act.put, List.setIfInBounds_toArray, List.set_cons_zero, List.set_cons_succ]
          have iu0 := J2
          clear J2
          have LO := hide hS.size
          refine wpAnyH_ready (rs := [9]) (by kernel_rfl) (by simp) ?_
          refine AllReadyH.cons rfl (fun K hK => ?_) AllReadyH.nil
          go_simp
          go_wp2_with fail
          refine hK.out _ _ (hS.alloc hS.size _) (fun hS => ?_)
          clear hK K
          (try simp only [Act.put, List.setIfInBounds_toArray, List.set_cons_zero, List.set_cons_succ])
          refine named (P := wpAnyH _ _ _ _ _ _ _ _) ?_
          intro xa hxa
          rw [← hxa] at hS
          obtain ⟨qb, hqb⟩ : ∃ qb, qb = x3.heap.size := ⟨_, rfl⟩
          have al : Below x3.heap.size x3 xa := by rw [hxa]; exact alloc_below _ _
          have Z := hide (show Cells xa qb [.int .i64 0, .int .i64 0, .slice none 0 0, .slice none 0 0] by rw [hxa, hqb]; exact Cells.new _ _ _)
          have J2 := hide (iu0.out.below al)
          have NQ := hide (show ∀ ad : Addr, (u.a = some ad ∨ u.b = some ad) → ¬ ad.block = qb from fun ad q => by have := (UB.out ad q).2; omega)
          have QB := hide (show w2.heap.size ≤ qb by rw [hqb]; exact LO.out)
          rw [← hqb]
          clear hxa hqb al iu0 LO
          have K8 := ((((Keep.refl (fun i => i = qb) xa).setCell (g := qb) (j := 0) (fun _ => rfl) (.int .i64 P.num)).setCell (g := qb) (j := 1) (fun _ => rfl) (.int .i64 P.lsn)).setCell (g := qb) (j := 2) (fun _ => rfl) (.slice u.a P.cs.length u.c)).setCell (g := qb) (j := 3) (fun _ => rfl) (.slice u.b P.gs.length u.d)
          have C8 := (((Z.out.stored (j := 0) (by simp) (.int .i64 P.num)).stored (j := 1) (by simp) (.int .i64 P.lsn)).stored (j := 2) (by simp) (.slice u.a P.cs.length u.c)).stored (j := 3) (by simp) (.slice u.b P.gs.length u.d)
          obtain ⟨y0, z0⟩ := Z.out.get 0 _ rfl
          obtain ⟨y1, z1⟩ := Z.out.get 1 _ rfl
          obtain ⟨y2, z2⟩ := Z.out.get 2 _ rfl
          obtain ⟨y3, z3⟩ := Z.out.get 3 _ rfl
          have HK8 := hide K8
          have HC8 := hide C8
          clear K8 C8
          have QLT := hide (Z.out.1)
          have S8 := hide (hS.trans (HK8.out.below hS.size (fun i hi q => by have := QB.out; omega)))
          clear hS
          refine wpAnyH_ready (rs := [10]) (by kernel_rfl) (by simp) ?_
          refine AllReadyH.cons rfl (fun K hK => ?_) AllReadyH.nil
          go_simp
          go_wp2_with fail
          refine hK.out _ _ S8.out (fun hS => ?_)
          clear hK K
          (try simp only [Act.put, List.setIfInBounds_toArray, List.set_cons_zero, List.set_cons_succ])
          refine take_at 11 (some 8) (v := ?_) rfl rfl (by kernel_rfl) (by kernel_rfl) (by kernel_rfl) (fun _ _ _ h => h) ⟨by rfl, ?_⟩ hS ?_
          rotate_left
          · intro wq hSw; go_simp; try rfl
          simp only [Act.put, List.setIfInBounds_toArray, List.set_cons_zero, List.set_cons_succ]
          refine take_at 12 (some 9) (v := ?_) rfl rfl (by kernel_rfl) (by kernel_rfl) (by kernel_rfl) (fun _ _ _ h => h) ⟨by rfl, ?_⟩ hS ?_
          rotate_left
          · intro wq hSw; go_simp; try rfl
          simp only [Act.put, List.setIfInBounds_toArray, List.set_cons_zero, List.set_cons_succ]
          clear hS
          refine wpAnyH_done (by kernel_rfl) ?_ _
          clear y0 z0 y1 z1 y2 z2 y3 z3
          have JF := hide (J2.out.keep HK8.out (fun ad q => NQ.out ad (.inl q)) (fun ad q => NQ.out ad (.inr q)))
          go_wp2_with fail
          go_meet
          exact ⟨qb, u, rfl, rfl, rfl, HC8.out, JF.out, S8.out⟩
        · go_simp
          go_wp2_with fail
          refine hK.out _ _ (hS.alloc hS.size _) (fun hS => ?_)
          clear hK K
          (try simp only [Act.put, List.setIfInBounds_toArray, List.set_cons_zero, List.set_cons_succ])
          refine named (P := wpAnyH _ _ _ _ _ _ _ _) ?_
          intro xa hxa
          rw [← hxa] at hS
          obtain ⟨qb, hqb⟩ : ∃ qb, qb = x2.heap.size := ⟨_, rfl⟩
          have al : Below x2.heap.size x2 xa := by rw [hxa]; exact alloc_below _ _
          have Z := hide (show Cells xa qb [.int .i64 0, .int .i64 0, .slice none 0 0, .slice none 0 0] by rw [hxa, hqb]; exact Cells.new _ _ _)
          have J1x := hide (J1.out.below al)
          clear J1
          have J1 := J1x
          clear J1x
          have QB := hide (show w2.heap.size ≤ qb by rw [hqb]; exact LO.out)
          rw [← hqb]
          clear hxa hqb al
          refine wpAnyH_ready (rs := [4]) (by kernel_rfl) (by simp) ?_
          refine AllReadyH.cons rfl (fun K hK => ?_) AllReadyH.nil
          go_simp
          go_wp2_with fail
          refine (KD _ _ J1.out).mono ?_
          rintro e x3 ⟨u, rfl, i2, ub, hh⟩
          have s_x3 : Below w2.heap.size w2 x3 := hS.trans (hh.mono hS.size)
          have Zx3 := hide (Z.out.below hh)
          have J2 := hide i2
          clear i2 J1
          have NQ := hide (show ∀ ad : Addr, (u.a = some ad ∨ u.b = some ad) → ¬ ad.block = qb from fun ad q => by have := (ub ad q).1; have := Z.out.1; omega)
          clear ub
          clear Z
          have Z := Zx3
          clear Zx3
          clear hh hS
          go_wp2_with fail
          refine hK.out _ _ s_x3 (fun hS => ?_)
          clear hK K s_x3
          (try simp only [Act.put, List.setIfInBounds_toArray, List.set_cons_zero, List.set_cons_succ])
          refine take_at 5 (some 18) (v := ?_) rfl rfl (by kernel_rfl) (by kernel_rfl) (by kernel_rfl) (fun _ _ _ h => h) ⟨by rfl, ?_⟩ hS ?_
          rotate_left
          · intro wq hSw; go_simp; try rfl
          simp only [Act.put, List.setIfInBounds_toArray, List.set_cons_zero, List.set_cons_succ]
          refine take_at 6 (some 24) (v := ?_) rfl rfl (by kernel_rfl) (by kernel_rfl) (by kernel_rfl) (fun _ _ _ h => h) ⟨by rfl, ?_⟩ hS ?_
          rotate_left
          · intro wq hSw; go_simp; try rfl
          simp only [Act.put, List.setIfInBounds_toArray, List.set_cons_zero, List.set_cons_succ]
          refine take_at 7 (some 25) (v := ?_) rfl rfl (by kernel_rfl) (by kernel_rfl) (by kernel_rfl) (fun _ _ _ h => h) ⟨by rfl, ?_⟩ hS ?_
          rotate_left
          · intro wq hSw; go_simp; try rfl
          simp only [Act.put, List.setIfInBounds_toArray, List.set_cons_zero, List.set_cons_succ]
          refine take_at 8 (some 26) (v := ?_) rfl rfl (by kernel_rfl) (by kernel_rfl) (by kernel_rfl) (fun _ _ _ h => h) ⟨by rfl, ?_⟩ hS ?_
          rotate_left
          · intro wq hSw; go_simp; try rfl
          simp only [Act.put, List.setIfInBounds_toArray, List.set_cons_zero, List.set_cons_succ]
          have K8 := ((((Keep.refl (fun i => i = qb) x3).setCell (g := qb) (j := 0) (fun _ => rfl) (.int .i64 P.num)).setCell (g := qb) (j := 1) (fun _ => rfl) (.int .i64 P.lsn)).setCell (g := qb) (j := 2) (fun _ => rfl) (.slice u.a P.cs.length u.c)).setCell (g := qb) (j := 3) (fun _ => rfl) (.slice u.b P.gs.length u.d)
          have C8 := (((Z.out.stored (j := 0) (by simp) (.int .i64 P.num)).stored (j := 1) (by simp) (.int .i64 P.lsn)).stored (j := 2) (by simp) (.slice u.a P.cs.length u.c)).stored (j := 3) (by simp) (.slice u.b P.gs.length u.d)
          obtain ⟨y0, z0⟩ := Z.out.get 0 _ rfl
          obtain ⟨y1, z1⟩ := Z.out.get 1 _ rfl
          obtain ⟨y2, z2⟩ := Z.out.get 2 _ rfl
          obtain ⟨y3, z3⟩ := Z.out.get 3 _ rfl
          have HK8 := hide K8
          have HC8 := hide C8
          clear K8 C8
          have QLT := hide (Z.out.1)
          have S8 := hide (hS.trans (HK8.out.below hS.size (fun i hi q => by have := QB.out; omega)))
          clear hS
          refine wpAnyH_ready (rs := [10]) (by kernel_rfl) (by simp) ?_
          refine AllReadyH.cons rfl (fun K hK => ?_) AllReadyH.nil
          go_simp
          go_wp2_with fail
          refine hK.out _ _ S8.out (fun hS => ?_)
          clear hK K
          (try simp only [Act.put, List.setIfInBounds_toArray, List.set_cons_zero, List.set_cons_succ])
          refine take_at 11 (some 8) (v := ?_) rfl rfl (by kernel_rfl) (by kernel_rfl) (by kernel_rfl) (fun _ _ _ h => h) ⟨by rfl, ?_⟩ hS ?_
          rotate_left
          · intro wq hSw; go_simp; try rfl
          simp only [Act.put, List.setIfInBounds_toArray, List.set_cons_zero, List.set_cons_succ]
          refine take_at 12 (some 9) (v := ?_) rfl rfl (by kernel_rfl) (by kernel_rfl) (by kernel_rfl) (fun _ _ _ h => h) ⟨by rfl, ?_⟩ hS ?_
          rotate_left
          · intro wq hSw; go_simp; try rfl
          simp only [Act.put, List.setIfInBounds_toArray, List.set_cons_zero, List.set_cons_succ]
          clear hS
          refine wpAnyH_done (by kernel_rfl) ?_ _
          clear y0 z0 y1 z1 y2 z2 y3 z3
          have JF := hide (J2.out.keep HK8.out (fun ad q => NQ.out ad (.inl q)) (fun ad q => NQ.out ad (.inr q)))
          go_wp2_with fail
          go_meet
          exact ⟨qb, u, rfl, rfl, rfl, HC8.out, JF.out, S8.out⟩
      · go_simp
        go_wp2_with fail
        refine hK.out _ _ (hS.alloc hS.size _) (fun hS => ?_)
        clear hK K
        (try simp only [Act.put, List.setIfInBounds_toArray, List.set_cons_zero, List.set_cons_succ])
        refine named (P := wpAnyH _ _ _ _ _ _ _ _) ?_
        intro xa hxa
        rw [← hxa] at hS
        obtain ⟨qb, hqb⟩ : ∃ qb, qb = x1.heap.size := ⟨_, rfl⟩
        have al : Below x1.heap.size x1 xa := by rw [hxa]; exact alloc_below _ _
        have Z := hide (show Cells xa qb [.int .i64 0, .int .i64 0, .slice none 0 0, .slice none 0 0] by rw [hxa, hqb]; exact Cells.new _ _ _)
        have QB := hide (show w2.heap.size ≤ qb by rw [hqb]; exact LO.out)
        rw [← hqb]
        clear hxa hqb al
        refine wpAnyH_ready (rs := [2]) (by kernel_rfl) (by simp) ?_
        refine AllReadyH.cons rfl (fun K hK => ?_) AllReadyH.nil
        go_simp
        go_wp2_with fail
        refine (KL _ (IC.out _ (I2.out.below hS))).mono ?_
        rintro e x2 ⟨u1, rfl, i1, hh⟩
        have s_x2 : Below w2.heap.size w2 x2 := hS.trans (hh.mono hS.size)
        have Zx2 := hide (Z.out.below hh)
        have J1 := hide i1
        clear i1
        clear Z
        have Z := Zx2
        clear Zx2
        clear hh hS
        go_wp2_with fail
        refine hK.out _ _ s_x2 (fun hS => ?_)
        clear hK K s_x2
        (try simp only [Act.put, List.setIfInBounds_toArray, List.set_cons_zero, List.set_cons_succ])
        refine wpAnyH_ready (rs := [4]) (by kernel_rfl) (by simp) ?_
        refine AllReadyH.cons rfl (fun K hK => ?_) AllReadyH.nil
        go_simp
        go_wp2_with fail
        refine (KD _ _ J1.out).mono ?_
        rintro e x3 ⟨u, rfl, i2, ub, hh⟩
        have s_x3 : Below w2.heap.size w2 x3 := hS.trans (hh.mono hS.size)
        have Zx3 := hide (Z.out.below hh)
        have J2 := hide i2
        clear i2 J1
        have NQ := hide (show ∀ ad : Addr, (u.a = some ad ∨ u.b = some ad) → ¬ ad.block = qb from fun ad q => by have := (ub ad q).1; have := Z.out.1; omega)
        clear ub
        clear Z
        have Z := Zx3
        clear Zx3
        clear hh hS
        go_wp2_with fail
        refine hK.out _ _ s_x3 (fun hS => ?_)
        clear hK K s_x3
        (try simp only [Act.put, List.setIfInBounds_toArray, List.set_cons_zero, List.set_cons_succ])
        refine take_at 5 (some 18) (v := ?_) rfl rfl (by kernel_rfl) (by kernel_rfl) (by kernel_rfl) (fun _ _ _ h => h) ⟨by rfl, ?_⟩ hS ?_
        rotate_left
        · intro wq hSw; go_simp; try rfl
        simp only [Act.put, List.setIfInBounds_toArray, List.set_cons_zero, List.set_cons_succ]
        refine take_at 6 (some 24) (v := ?_) rfl rfl (by kernel_rfl) (by kernel_rfl) (by kernel_rfl) (fun _ _ _ h => h) ⟨by rfl, ?_⟩ hS ?_
        rotate_left
        · intro wq hSw; go_simp; try rfl
        simp only [Act.put, List.setIfInBounds_toArray, List.set_cons_zero, List.set_cons_succ]
        refine take_at 7 (some 25) (v := ?_) rfl rfl (by kernel_rfl) (by kernel_rfl) (by kernel_rfl) (fun _ _ _ h => h) ⟨by rfl, ?_⟩ hS ?_
        rotate_left
        · intro wq hSw; go_simp; try rfl
        simp only [Act.put, List.setIfInBounds_toArray, List.set_cons_zero, List.set_cons_succ]
        refine take_at 8 (some 26) (v := ?_) rfl rfl (by kernel_rfl) (by kernel_rfl) (by kernel_rfl) (fun _ _ _ h => h) ⟨by rfl, ?_⟩ hS ?_
        rotate_left
        · intro wq hSw; go_simp; try rfl
        simp only [Act.put, List.setIfInBounds_toArray, List.set_cons_zero, List.set_cons_succ]
        have K8 := ((((Keep.refl (fun i => i = qb) x3).setCell (g := qb) (j := 0) (fun _ => rfl) (.int .i64 P.num)).setCell (g := qb) (j := 1) (fun _ => rfl) (.int .i64 P.lsn)).setCell (g := qb) (j := 2) (fun _ => rfl) (.slice u.a P.cs.length u.c)).setCell (g := qb) (j := 3) (fun _ => rfl) (.slice u.b P.gs.length u.d)
        have C8 := (((Z.out.stored (j := 0) (by simp) (.int .i64 P.num)).stored (j := 1) (by simp) (.int .i64 P.lsn)).stored (j := 2) (by simp) (.slice u.a P.cs.length u.c)).stored (j := 3) (by simp) (.slice u.b P.gs.length u.d)
        obtain ⟨y0, z0⟩ := Z.out.get 0 _ rfl
        obtain ⟨y1, z1⟩ := Z.out.get 1 _ rfl
        obtain ⟨y2, z2⟩ := Z.out.get 2 _ rfl
        obtain ⟨y3, z3⟩ := Z.out.get 3 _ rfl
        have HK8 := hide K8
        have HC8 := hide C8
        clear K8 C8
        have QLT := hide (Z.out.1)
        have S8 := hide (hS.trans (HK8.out.below hS.size (fun i hi q => by have := QB.out; omega)))
        clear hS
        refine wpAnyH_ready (rs := [10]) (by kernel_rfl) (by simp) ?_
        refine AllReadyH.cons rfl (fun K hK => ?_) AllReadyH.nil
        go_simp
        go_wp2_with fail
        refine hK.out _ _ S8.out (fun hS => ?_)
        clear hK K
        (try simp only [Act.put, List.setIfInBounds_toArray, List.set_cons_zero, List.set_cons_succ])
        refine take_at 11 (some 8) (v := ?_) rfl rfl (by kernel_rfl) (by kernel_rfl) (by kernel_rfl) (fun _ _ _ h => h) ⟨by rfl, ?_⟩ hS ?_
        rotate_left
        · intro wq hSw; go_simp; try rfl
        simp only [Act.put, List.setIfInBounds_toArray, List.set_cons_zero, List.set_cons_succ]
        refine take_at 12 (some 9) (v := ?_) rfl rfl (by kernel_rfl) (by kernel_rfl) (by kernel_rfl) (fun _ _ _ h => h) ⟨by rfl, ?_⟩ hS ?_
        rotate_left
        · intro wq hSw; go_simp; try rfl
        simp only [Act.put, List.setIfInBounds_toArray, List.set_cons_zero, List.set_cons_succ]
        clear hS
        refine wpAnyH_done (by kernel_rfl) ?_ _
        clear y0 z0 y1 z1 y2 z2 y3 z3
        have JF := hide (J2.out.keep HK8.out (fun ad q => NQ.out ad (.inl q)) (fun ad q => NQ.out ad (.inr q)))
        go_wp2_with fail
        go_meet
        exact ⟨qb, u, rfl, rfl, rfl, HC8.out, JF.out, S8.out⟩
    · go_simp
      go_wp2_with fail
      refine hK.out _ _ (hS.alloc hS.size _) (fun hS => ?_)
      clear hK K
      (try simp only [Act.put, List.setIfInBounds_toArray, List.set_cons_zero, List.set_cons_succ])
      refine named (P := wpAnyH _ _ _ _ _ _ _ _) ?_
      intro xa hxa
      rw [← hxa] at hS
      obtain ⟨qb, hqb⟩ : ∃ qb, qb = y0.heap.size := ⟨_, rfl⟩
      have al : Below y0.heap.size y0 xa := by rw [hxa]; exact alloc_below _ _
      have Z := hide (show Cells xa qb [.int .i64 0, .int .i64 0, .slice none 0 0, .slice none 0 0] by rw [hxa, hqb]; exact Cells.new _ _ _)
      have QB := hide (show w2.heap.size ≤ qb by rw [hqb]; exact LO.out)
      rw [← hqb]
      clear hxa hqb al
      refine wpAnyH_ready (rs := [1]) (by kernel_rfl) (by simp) ?_
      refine AllReadyH.cons rfl (fun K hK => ?_) AllReadyH.nil
      go_simp
      go_wp2_with fail
      refine (KC _ (I2.out.below hS)).mono ?_
      rintro e x1 ⟨rfl, hh⟩
      have s_x1 : Below w2.heap.size w2 x1 := hS.trans (hh.mono hS.size)
      have Zx1 := hide (Z.out.below hh)
      clear Z
      have Z := Zx1
      clear Zx1
      clear hh hS
      go_wp2_with fail
      refine hK.out _ _ s_x1 (fun hS => ?_)
      clear hK K s_x1
      (try simp only [Act.put, List.setIfInBounds_toArray, List.set_cons_zero, List.set_cons_succ])
      refine wpAnyH_ready (rs := [2]) (by kernel_rfl) (by simp) ?_
      refine AllReadyH.cons rfl (fun K hK => ?_) AllReadyH.nil
      go_simp
      go_wp2_with fail
      refine (KL _ (IC.out _ (I2.out.below hS))).mono ?_
      rintro e x2 ⟨u1, rfl, i1, hh⟩
      have s_x2 : Below w2.heap.size w2 x2 := hS.trans (hh.mono hS.size)
      have Zx2 := hide (Z.out.below hh)
      have J1 := hide i1
      clear i1
      clear Z
      have Z := Zx2
      clear Zx2
      clear hh hS
      go_wp2_with fail
      refine hK.out _ _ s_x2 (fun hS => ?_)
      clear hK K s_x2
      (try simp only [Act.put, List.setIfInBounds_toArray, List.set_cons_zero, List.set_cons_succ])
      refine wpAnyH_ready (rs := [4]) (by kernel_rfl) (by simp) ?_
      refine AllReadyH.cons rfl (fun K hK => ?_) AllReadyH.nil
      go_simp
      go_wp2_with fail
      refine (KD _ _ J1.out).mono ?_
      rintro e x3 ⟨u, rfl, i2, ub, hh⟩
      have s_x3 : Below w2.heap.size w2 x3 := hS.trans (hh.mono hS.size)
      have Zx3 := hide (Z.out.below hh)
      have J2 := hide i2
      clear i2 J1
      have NQ := hide (show ∀ ad : Addr, (u.a = some ad ∨ u.b = some ad) → ¬ ad.block = qb from fun ad q => by have := (ub ad q).1; have := Z.out.1; omega)
      clear ub
      clear Z
      have Z := Zx3
      clear Zx3
      clear hh hS
      go_wp2_with fail
      refine hK.out _ _ s_x3 (fun hS => ?_)
      clear hK K s_x3
      (try simp only [Act.put, List.setIfInBounds_toArray, List.set_cons_zero, List.set_cons_succ])
      refine take_at 5 (some 18) (v := ?_) rfl rfl (by kernel_rfl) (by kernel_rfl) (by kernel_rfl) (fun _ _ _ h => h) ⟨by rfl, ?_⟩ hS ?_
      rotate_left
      · intro wq hSw; go_simp; try rfl
      simp only [Act.put, List.setIfInBounds_toArray, List.set_cons_zero, List.set_cons_succ]
      refine take_at 6 (some 24) (v := ?_) rfl rfl (by kernel_rfl) (by kernel_rfl) (by kernel_rfl) (fun _ _ _ h => h) ⟨by rfl, ?_⟩ hS ?_
      rotate_left
      · intro wq hSw; go_simp; try rfl
      simp only [Act.put, List.setIfInBounds_toArray, List.set_cons_zero, List.set_cons_succ]
      refine take_at 7 (some 25) (v := ?_) rfl rfl (by kernel_rfl) (by kernel_rfl) (by kernel_rfl) (fun _ _ _ h => h) ⟨by rfl, ?_⟩ hS ?_
      rotate_left
      · intro wq hSw; go_simp; try rfl
      simp only [Act.put, List.setIfInBounds_toArray, List.set_cons_zero, List.set_cons_succ]
      refine take_at 8 (some 26) (v := ?_) rfl rfl (by kernel_rfl) (by kernel_rfl) (by kernel_rfl) (fun _ _ _ h => h) ⟨by rfl, ?_⟩ hS ?_
      rotate_left
      · intro wq hSw; go_simp; try rfl
      simp only [Act.put, List.setIfInBounds_toArray, List.set_cons_zero, List.set_cons_succ]
      have K8 := ((((Keep.refl (fun i => i = qb) x3).setCell (g := qb) (j := 0) (fun _ => rfl) (.int .i64 P.num)).setCell (g := qb) (j := 1) (fun _ => rfl) (.int .i64 P.lsn)).setCell (g := qb) (j := 2) (fun _ => rfl) (.slice u.a P.cs.length u.c)).setCell (g := qb) (j := 3) (fun _ => rfl) (.slice u.b P.gs.length u.d)
      have C8 := (((Z.out.stored (j := 0) (by simp) (.int .i64 P.num)).stored (j := 1) (by simp) (.int .i64 P.lsn)).stored (j := 2) (by simp) (.slice u.a P.cs.length u.c)).stored (j := 3) (by simp) (.slice u.b P.gs.length u.d)
      obtain ⟨y0, z0⟩ := Z.out.get 0 _ rfl
      obtain ⟨y1, z1⟩ := Z.out.get 1 _ rfl
      obtain ⟨y2, z2⟩ := Z.out.get 2 _ rfl
      obtain ⟨y3, z3⟩ := Z.out.get 3 _ rfl
      have HK8 := hide K8
      have HC8 := hide C8
      clear K8 C8
      have QLT := hide (Z.out.1)
      have S8 := hide (hS.trans (HK8.out.below hS.size (fun i hi q => by have := QB.out; omega)))
      clear hS
      refine wpAnyH_ready (rs := [10]) (by kernel_rfl) (by simp) ?_
      refine AllReadyH.cons rfl (fun K hK => ?_) AllReadyH.nil
      go_simp
      go_wp2_with fail
      refine hK.out _ _ S8.out (fun hS => ?_)
      clear hK K
      (try simp only [Act.put, List.setIfInBounds_toArray, List.set_cons_zero, List.set_cons_succ])
      refine take_at 11 (some 8) (v := ?_) rfl rfl (by kernel_rfl) (by kernel_rfl) (by kernel_rfl) (fun _ _ _ h => h) ⟨by rfl, ?_⟩ hS ?_
      rotate_left
      · intro wq hSw; go_simp; try rfl
      simp only [Act.put, List.setIfInBounds_toArray, List.set_cons_zero, List.set_cons_succ]
      refine take_at 12 (some 9) (v := ?_) rfl rfl (by kernel_rfl) (by kernel_rfl) (by kernel_rfl) (fun _ _ _ h => h) ⟨by rfl, ?_⟩ hS ?_
      rotate_left
      · intro wq hSw; go_simp; try rfl
      simp only [Act.put, List.setIfInBounds_toArray, List.set_cons_zero, List.set_cons_succ]
      clear hS
      refine wpAnyH_done (by kernel_rfl) ?_ _
      clear y0 z0 y1 z1 y2 z2 y3 z3
      have JF := hide (J2.out.keep HK8.out (fun ad q => NQ.out ad (.inl q)) (fun ad q => NQ.out ad (.inr q)))
      go_wp2_with fail
      go_meet
      exact ⟨qb, u, rfl, rfl, rfl, HC8.out, JF.out, S8.out⟩
  case rest =>
    obtain ⟨qb, u, rfl, rfl, rfl, hc, hi, hb⟩ := hcut
    have Q3 := hide hc
    have I3 := hide hi
    have C3 := hide (C2.out.below hb)
    have R3 := hide (R2.out.below hb)
    have O3 := hide (O2.out.below hb)
    have IP3 := hide (I2.out.below hb)
    have B3 := hide (B2.out.trans (hb.mono B2.out.size))
    clear hc hi hb C2 R2 O2 I2 B2 KD KL w2
    by_cases he : E = 0
    · have hb0 : (E == 0) = true := by simpa using he
      obtain ⟨a1, a2, a3⟩ := do_again (p := C) (r := r) (by rw [← HE.out]; exact he)
      rw [← HP.out] at a1 a2 a3
      rw [a1, a2, a3] at KD2
      have LS := hide (show Y = true → P.lsn = r.lsn from fun q => by rw [HP.out]; exact (doP_lsn (by rw [← HE.out]; exact he)).2.2 (by rw [← HY.out]; exact q))
      have NS := hide (show Y = false → P = C from fun q => by rw [HP.out]; exact doP_not (by rw [← HE.out]; exact he) (by rw [← HY.out]; exact q))
      have hb1 : ((0 : Int) == 0) = true := rfl
      rw [hb1] at KD2
      clear a1 a2 a3 HE HY HP he hb1
      obtain ⟨p0, -⟩ := Q3.out.get 0 _ rfl
      obtain ⟨p1, -⟩ := Q3.out.get 1 _ rfl
      obtain ⟨p2, -⟩ := Q3.out.get 2 _ rfl
      obtain ⟨p3, -⟩ := Q3.out.get 3 _ rfl
      go_upto_region 7 with (first | refine wpList_load38 R3.out SR.out rfl ?_ | (go_at_call 9; refine (KD2 _ _ I3.out).mono ?_; rintro e w4 ⟨v, rfl, i4, -, h4⟩))
      refine named (P := Code.wp _ _ _ _) ?_
      intro w5 hw5
      obtain ⟨ab, hab⟩ : ∃ ab, ab = w4.heap.size := ⟨_, rfl⟩
      have al : Below w4.heap.size w4 w5 := by rw [hw5]; exact alloc_below _ _
      have b35 := h4.trans (al.mono h4.size)
      have A5 := hide (show Cells w5 ab [.int .i64 P.num, .int .i64 P.lsn, .slice v.a P.cs.length v.c, .slice v.b P.gs.length v.d] by rw [hw5, hab]; exact Cells.new _ _ _)
      have V5 := hide (i4.below al)
      have Q5 := hide (Q3.out.below b35)
      have I5 := hide (I3.out.below b35)
      have C5 := hide (C3.out.below b35)
      have R5 := hide (R3.out.below b35)
      have O5 := hide (O3.out.below b35)
      have IP5 := hide (IP3.out.below b35)
      have B5 := hide (B3.out.trans (b35.mono B3.out.size))
      rw [← hab]
      clear hw5 hab al b35 h4 i4 p0 p1 p2 p3 Q3 I3 C3 R3 O3 IP3 B3 KD2 w4
      go_cut [78] (fun v' w' => v' = .bool false ∧ Below w5.heap.size w5 w')
      case first =>
        cases Y with
        | true =>
          have ll := LS.out rfl
          have hl2 : (P.lsn != r.lsn) = false := by simpa using ll
          clear LS NS ll KC KSC
          refine wp_region_held_drew (S := fun wq => Below w5.heap.size w5 wq) (by kernel_rfl) (Below.refl _ _).drew (fun hS => ?_)
          refine take_at 0 (some 44) (v := ?_) rfl rfl (by kernel_rfl) (by kernel_rfl) (by kernel_rfl) (fun _ _ _ h => h) ⟨by rfl, ?_⟩ hS ?_
          rotate_left
          · intro wq hSw; go_simp; try rfl
          simp only [Act.put, List.setIfInBounds_toArray, List.set_cons_zero, List.set_cons_succ]
          refine take_at 1 (some 45) (v := ?_) rfl rfl (by kernel_rfl) (by kernel_rfl) (by kernel_rfl) (fun _ _ _ h => h) ⟨by rfl, ?_⟩ hS ?_
          rotate_left
          · intro wq hSw; go_simp; try rfl
          simp only [Act.put, List.setIfInBounds_toArray, List.set_cons_zero, List.set_cons_succ]
          refine take_at 2 (some 46) (v := ?_) rfl rfl (by kernel_rfl) (by kernel_rfl) (by kernel_rfl) (fun _ _ _ h => h) ⟨by rfl, ?_⟩ hS ?_
          rotate_left
          · intro wq hSw; go_simp; try rfl
          simp only [Act.put, List.setIfInBounds_toArray, List.set_cons_zero, List.set_cons_succ]
          refine take_at 3 (some 47) (v := ?_) rfl rfl (by kernel_rfl) (by kernel_rfl) (by kernel_rfl) (fun _ _ _ h => h) ⟨by rfl, ?_⟩ hS ?_
          rotate_left
          · intro wq hSw; go_simp; try rfl
          simp only [Act.put, List.setIfInBounds_toArray, List.set_cons_zero, List.set_cons_succ]
          refine take_at 4 (some 48) (v := ?_) rfl rfl (by kernel_rfl) (by kernel_rfl) (by kernel_rfl) (fun _ _ _ h => h) ⟨by rfl, ?_⟩ hS ?_
          rotate_left
          · intro wq hSw; go_simp; try rfl
          simp only [Act.put, List.setIfInBounds_toArray, List.set_cons_zero, List.set_cons_succ]
          refine take_at 5 (some 49) (v := ?_) rfl rfl (by kernel_rfl) (by kernel_rfl) (by kernel_rfl) (fun _ _ _ h => h) ⟨by rfl, ?_⟩ hS ?_
          rotate_left
          · intro wq hSw; go_simp; try rfl
          simp only [Act.put, List.setIfInBounds_toArray, List.set_cons_zero, List.set_cons_succ]
          refine take_at 6 (some 50) (v := ?_) rfl rfl (by kernel_rfl) (by kernel_rfl) (by kernel_rfl) (fun _ _ _ h => h) ⟨by rfl, ?_⟩ hS ?_
          rotate_left
          · intro wq hSw; have qq := A5.out.below hSw; obtain ⟨q0, _⟩ := qq.get 0 _ rfl; obtain ⟨q1, _⟩ := qq.get 1 _ rfl; obtain ⟨q2, _⟩ := qq.get 2 _ rfl; obtain ⟨q3, _⟩ := qq.get 3 _ rfl; clear qq; go_simp; try rfl
          simp only [Act.put, List.setIfInBounds_toArray, List.set_cons_zero, List.set_cons_succ]
          refine take_at 8 (some 52) (v := ?_) rfl rfl (by kernel_rfl) (by kernel_rfl) (by kernel_rfl) (fun _ _ _ h => h) ⟨by rfl, ?_⟩ hS ?_
          rotate_left
          · intro wq hSw; have qq := Q5.out.below hSw; obtain ⟨q0, _⟩ := qq.get 0 _ rfl; obtain ⟨q1, _⟩ := qq.get 1 _ rfl; obtain ⟨q2, _⟩ := qq.get 2 _ rfl; obtain ⟨q3, _⟩ := qq.get 3 _ rfl; clear qq; go_simp; try rfl
          simp only [Act.put, List.setIfInBounds_toArray, List.set_cons_zero, List.set_cons_succ]
          refine wpAnyH_ready (rs := [7]) (by kernel_rfl) (by simp) ?_
          refine AllReadyH.cons rfl (fun K hK => ?_) AllReadyH.nil
          go_simp
          go_wp2_with fail
          refine (KB _ _).mono ?_
          rintro e x1 ⟨rfl, hh⟩
          have s_x1 : Below w5.heap.size w5 x1 := hS.trans (hh.mono hS.size)
          clear hh hS
          go_wp2_with fail
          refine hK.out _ _ s_x1 (fun hS => ?_)
          clear hK K s_x1
          (try simp only [Act.put, List.setIfInBounds_toArray, List.set_cons_zero, List.set_cons_succ])
          refine wpAnyH_ready (rs := [9]) (by kernel_rfl) (by simp) ?_
          refine AllReadyH.cons rfl (fun K hK => ?_) AllReadyH.nil
          go_simp
          go_wp2_with fail
          refine (KB _ _).mono ?_
          rintro e x2 ⟨rfl, hh⟩
          have s_x2 : Below w5.heap.size w5 x2 := hS.trans (hh.mono hS.size)
          clear hh hS
          go_wp2_with fail
          refine hK.out _ _ s_x2 (fun hS => ?_)
          clear hK K s_x2
          (try simp only [Act.put, List.setIfInBounds_toArray, List.set_cons_zero, List.set_cons_succ])
          refine wpAnyH_ready (rs := [10]) (by kernel_rfl) (by simp) ?_
          refine AllReadyH.cons rfl (fun K hK => ?_) AllReadyH.nil
          go_simp
          go_wp2_with fail
          refine (KSP _ _ _ (V5.out.below hS) (I5.out.below hS)).mono ?_
          rintro e x3 ⟨rfl, hh⟩
          have s_x3 : Below w5.heap.size w5 x3 := hS.trans (hh.mono hS.size)
          clear hh hS
          go_wp2_with fail
          refine hK.out _ _ s_x3 (fun hS => ?_)
          clear hK K s_x3
          (try simp only [Act.put, List.setIfInBounds_toArray, List.set_cons_zero, List.set_cons_succ])
          refine take_at 11 (some 55) (v := ?_) rfl rfl (by kernel_rfl) (by kernel_rfl) (by kernel_rfl) (fun _ _ _ h => h) ⟨by rfl, ?_⟩ hS ?_
          rotate_left
          · intro wq hSw; go_simp; try rfl
          simp only [Act.put, List.setIfInBounds_toArray, List.set_cons_zero, List.set_cons_succ]
          refine take_at 12 (some 56) (v := ?_) rfl rfl (by kernel_rfl) (by kernel_rfl) (by kernel_rfl) (fun _ _ _ h => h) ⟨by rfl, ?_⟩ hS ?_
          rotate_left
          · intro wq hSw; go_simp; try rfl
          simp only [Act.put, List.setIfInBounds_toArray, List.set_cons_zero, List.set_cons_succ]
          refine take_at 13 (some 57) (v := ?_) rfl rfl (by kernel_rfl) (by kernel_rfl) (by kernel_rfl) (fun _ _ _ h => h) ⟨by rfl, ?_⟩ hS ?_
          rotate_left
          · intro wq hSw; go_simp; try rfl
          simp only [Act.put, List.setIfInBounds_toArray, List.set_cons_zero, List.set_cons_succ]
          refine take_at 14 (some 58) (v := ?_) rfl rfl (by kernel_rfl) (by kernel_rfl) (by kernel_rfl) (fun _ _ _ h => h) ⟨by rfl, ?_⟩ hS ?_
          rotate_left
          · intro wq hSw; go_simp; try rfl
          simp only [Act.put, List.setIfInBounds_toArray, List.set_cons_zero, List.set_cons_succ]
          refine take_at 15 (some 59) (v := ?_) rfl rfl (by kernel_rfl) (by kernel_rfl) (by kernel_rfl) (fun _ _ _ h => h) ⟨by rfl, ?_⟩ hS ?_
          rotate_left
          · intro wq hSw; go_simp; try rfl
          simp only [Act.put, List.setIfInBounds_toArray, List.set_cons_zero, List.set_cons_succ]
          refine take_at 16 (some 60) (v := ?_) rfl rfl (by kernel_rfl) (by kernel_rfl) (by kernel_rfl) (fun _ _ _ h => h) ⟨by rfl, ?_⟩ hS ?_
          rotate_left
          · intro wq hSw; go_simp; try rfl
          simp only [Act.put, List.setIfInBounds_toArray, List.set_cons_zero, List.set_cons_succ]
          refine take_at 17 (some 61) (v := ?_) rfl rfl (by kernel_rfl) (by kernel_rfl) (by kernel_rfl) (fun _ _ _ h => h) ⟨by rfl, ?_⟩ hS ?_
          rotate_left
          · intro wq hSw; obtain ⟨q1, _⟩ := (Q5.out.below hSw).get 1 _ rfl; go_simp; try rfl
          simp only [Act.put, List.setIfInBounds_toArray, List.set_cons_zero, List.set_cons_succ]
          refine take_at 18 (some 62) (v := ?_) rfl rfl (by kernel_rfl) (by kernel_rfl) (by kernel_rfl) (fun _ _ _ h => h) ⟨by rfl, ?_⟩ hS ?_
          rotate_left
          · intro wq hSw; go_simp; try rfl
          simp only [Act.put, List.setIfInBounds_toArray, List.set_cons_zero, List.set_cons_succ]
          refine take_at 19 (some 63) (v := ?_) rfl rfl (by kernel_rfl) (by kernel_rfl) (by kernel_rfl) (fun _ _ _ h => h) ⟨by rfl, ?_⟩ hS ?_
          rotate_left
          · intro wq hSw; have q0 := R0.out _ _ (R5.out.below hSw); go_simp; try rfl
          simp only [Act.put, List.setIfInBounds_toArray, List.set_cons_zero, List.set_cons_succ]
          refine take_at 20 (some 64) (v := ?_) rfl rfl (by kernel_rfl) (by kernel_rfl) (by kernel_rfl) (fun _ _ _ h => h) ⟨by rfl, ?_⟩ hS ?_
          rotate_left
          · intro wq hSw; go_simp; try rfl
          simp only [Act.put, List.setIfInBounds_toArray, List.set_cons_zero, List.set_cons_succ]
          refine take_at 21 (some 65) (v := ?_) rfl rfl (by kernel_rfl) (by kernel_rfl) (by kernel_rfl) (fun _ _ _ h => h) ⟨by rfl, ?_⟩ hS ?_
          rotate_left
          · intro wq hSw; go_simp; try rfl
          simp only [Act.put, List.setIfInBounds_toArray, List.set_cons_zero, List.set_cons_succ]
          refine take_at 22 (some 66) (v := ?_) rfl rfl (by kernel_rfl) (by kernel_rfl) (by kernel_rfl) (fun _ _ _ h => h) ⟨by rfl, ?_⟩ hS ?_
          rotate_left
          · intro wq hSw; go_simp; try rfl
          simp only [Act.put, List.setIfInBounds_toArray, List.set_cons_zero, List.set_cons_succ]
          refine take_at 23 (some 67) (v := ?_) rfl rfl (by kernel_rfl) (by kernel_rfl) (by kernel_rfl) (fun _ _ _ h => h) ⟨by rfl, ?_⟩ hS ?_
          rotate_left
          · intro wq hSw; go_simp; try rfl
          simp only [Act.put, List.setIfInBounds_toArray, List.set_cons_zero, List.set_cons_succ]
          refine take_at 24 (some 68) (v := ?_) rfl rfl (by kernel_rfl) (by kernel_rfl) (by kernel_rfl) (fun _ _ _ h => h) ⟨by rfl, ?_⟩ hS ?_
          rotate_left
          · intro wq hSw; go_simp; try rfl
          simp only [Act.put, List.setIfInBounds_toArray, List.set_cons_zero, List.set_cons_succ]
          refine take_at 25 (some 69) (v := ?_) rfl rfl (by kernel_rfl) (by kernel_rfl) (by kernel_rfl) (fun _ _ _ h => h) ⟨by rfl, ?_⟩ hS ?_
          rotate_left
          · intro wq hSw; go_simp; try rfl
          simp only [Act.put, List.setIfInBounds_toArray, List.set_cons_zero, List.set_cons_succ]
          refine take_at 26 (some 70) (v := ?_) rfl rfl (by kernel_rfl) (by kernel_rfl) (by kernel_rfl) (fun _ _ _ h => h) ⟨by rfl, ?_⟩ hS ?_
          rotate_left
          · intro wq hSw; go_simp; try rfl
          simp only [Act.put, List.setIfInBounds_toArray, List.set_cons_zero, List.set_cons_succ]
          refine pass_at 27 (some 71) rfl rfl (by kernel_rfl) (by kernel_rfl) (by kernel_rfl) (fun _ _ _ h => h) (by rfl) hS ?_
          simp only [Act.put, List.setIfInBounds_toArray, List.set_cons_zero, List.set_cons_succ]
          refine pass_at 28 (some 72) rfl rfl (by kernel_rfl) (by kernel_rfl) (by kernel_rfl) (fun _ _ _ h => h) (by rfl) hS ?_
          simp only [Act.put, List.setIfInBounds_toArray, List.set_cons_zero, List.set_cons_succ]
          refine pass_at 29 (some 73) rfl rfl (by kernel_rfl) (by kernel_rfl) (by kernel_rfl) (fun _ _ _ h => h) (by rfl) hS ?_
          simp only [Act.put, List.setIfInBounds_toArray, List.set_cons_zero, List.set_cons_succ]
          refine pass_at 30 (some 74) rfl rfl (by kernel_rfl) (by kernel_rfl) (by kernel_rfl) (fun _ _ _ h => h) (by rfl) hS ?_
          simp only [Act.put, List.setIfInBounds_toArray, List.set_cons_zero, List.set_cons_succ]
          refine pass_at 31 (some 75) rfl rfl (by kernel_rfl) (by kernel_rfl) (by kernel_rfl) (fun _ _ _ h => h) (by rfl) hS ?_
          simp only [Act.put, List.setIfInBounds_toArray, List.set_cons_zero, List.set_cons_succ]
          refine pass_at 32 (some 76) rfl rfl (by kernel_rfl) (by kernel_rfl) (by kernel_rfl) (fun _ _ _ h => h) (by rfl) hS ?_
          simp only [Act.put, List.setIfInBounds_toArray, List.set_cons_zero, List.set_cons_succ]
          refine take_at 33 (some 77) (v := ?_) rfl rfl (by kernel_rfl) (by kernel_rfl) (by kernel_rfl) (fun _ _ _ h => h) ⟨by rfl, ?_⟩ hS ?_
          rotate_left
          · intro wq hSw; go_simp; try rfl
          simp only [Act.put, List.setIfInBounds_toArray, List.set_cons_zero, List.set_cons_succ]
          refine take_at 34 (some 78) (v := ?_) rfl rfl (by kernel_rfl) (by kernel_rfl) (by kernel_rfl) (fun _ _ _ h => h) ⟨by rfl, ?_⟩ hS ?_
          rotate_left
          · intro wq hSw; go_simp; try rfl
          simp only [Act.put, List.setIfInBounds_toArray, List.set_cons_zero, List.set_cons_succ]
          have F7 := hide hS
          clear hS
          refine wpAnyH_done (by kernel_rfl) ?_ _
          go_wp2_with fail
          go_meet
          exact ⟨rfl, F7.out⟩
        | false =>
          have hpc := NS.out rfl
          clear LS NS
          subst hpc
          refine wp_region_held_drew (S := fun wq => Below w5.heap.size w5 wq) (by kernel_rfl) (Below.refl _ _).drew (fun hS => ?_)
          refine take_at 0 (some 44) (v := ?_) rfl rfl (by kernel_rfl) (by kernel_rfl) (by kernel_rfl) (fun _ _ _ h => h) ⟨by rfl, ?_⟩ hS ?_
          rotate_left
          · intro wq hSw; go_simp; try rfl
          simp only [Act.put, List.setIfInBounds_toArray, List.set_cons_zero, List.set_cons_succ]
          refine take_at 1 (some 45) (v := ?_) rfl rfl (by kernel_rfl) (by kernel_rfl) (by kernel_rfl) (fun _ _ _ h => h) ⟨by rfl, ?_⟩ hS ?_
          rotate_left
          · intro wq hSw; go_simp; try rfl
          simp only [Act.put, List.setIfInBounds_toArray, List.set_cons_zero, List.set_cons_succ]
          refine take_at 2 (some 46) (v := ?_) rfl rfl (by kernel_rfl) (by kernel_rfl) (by kernel_rfl) (fun _ _ _ h => h) ⟨by rfl, ?_⟩ hS ?_
          rotate_left
          · intro wq hSw; go_simp; try rfl
          simp only [Act.put, List.setIfInBounds_toArray, List.set_cons_zero, List.set_cons_succ]
          refine take_at 3 (some 47) (v := ?_) rfl rfl (by kernel_rfl) (by kernel_rfl) (by kernel_rfl) (fun _ _ _ h => h) ⟨by rfl, ?_⟩ hS ?_
          rotate_left
          · intro wq hSw; go_simp; try rfl
          simp only [Act.put, List.setIfInBounds_toArray, List.set_cons_zero, List.set_cons_succ]
          refine take_at 4 (some 48) (v := ?_) rfl rfl (by kernel_rfl) (by kernel_rfl) (by kernel_rfl) (fun _ _ _ h => h) ⟨by rfl, ?_⟩ hS ?_
          rotate_left
          · intro wq hSw; go_simp; try rfl
          simp only [Act.put, List.setIfInBounds_toArray, List.set_cons_zero, List.set_cons_succ]
          refine take_at 5 (some 49) (v := ?_) rfl rfl (by kernel_rfl) (by kernel_rfl) (by kernel_rfl) (fun _ _ _ h => h) ⟨by rfl, ?_⟩ hS ?_
          rotate_left
          · intro wq hSw; go_simp; try rfl
          simp only [Act.put, List.setIfInBounds_toArray, List.set_cons_zero, List.set_cons_succ]
          refine take_at 6 (some 50) (v := ?_) rfl rfl (by kernel_rfl) (by kernel_rfl) (by kernel_rfl) (fun _ _ _ h => h) ⟨by rfl, ?_⟩ hS ?_
          rotate_left
          · intro wq hSw; have qq := A5.out.below hSw; obtain ⟨q0, _⟩ := qq.get 0 _ rfl; obtain ⟨q1, _⟩ := qq.get 1 _ rfl; obtain ⟨q2, _⟩ := qq.get 2 _ rfl; obtain ⟨q3, _⟩ := qq.get 3 _ rfl; clear qq; go_simp; try rfl
          simp only [Act.put, List.setIfInBounds_toArray, List.set_cons_zero, List.set_cons_succ]
          refine take_at 8 (some 52) (v := ?_) rfl rfl (by kernel_rfl) (by kernel_rfl) (by kernel_rfl) (fun _ _ _ h => h) ⟨by rfl, ?_⟩ hS ?_
          rotate_left
          · intro wq hSw; have qq := Q5.out.below hSw; obtain ⟨q0, _⟩ := qq.get 0 _ rfl; obtain ⟨q1, _⟩ := qq.get 1 _ rfl; obtain ⟨q2, _⟩ := qq.get 2 _ rfl; obtain ⟨q3, _⟩ := qq.get 3 _ rfl; clear qq; go_simp; try rfl
          simp only [Act.put, List.setIfInBounds_toArray, List.set_cons_zero, List.set_cons_succ]
          refine wpAnyH_ready (rs := [7]) (by kernel_rfl) (by simp) ?_
          refine AllReadyH.cons rfl (fun K hK => ?_) AllReadyH.nil
          go_simp
          go_wp2_with fail
          refine (KB _ _).mono ?_
          rintro e x1 ⟨rfl, hh⟩
          have s_x1 : Below w5.heap.size w5 x1 := hS.trans (hh.mono hS.size)
          clear hh hS
          go_wp2_with fail
          refine hK.out _ _ s_x1 (fun hS => ?_)
          clear hK K s_x1
          (try simp only [Act.put, List.setIfInBounds_toArray, List.set_cons_zero, List.set_cons_succ])
          refine wpAnyH_ready (rs := [9]) (by kernel_rfl) (by simp) ?_
          refine AllReadyH.cons rfl (fun K hK => ?_) AllReadyH.nil
          go_simp
          go_wp2_with fail
          refine (KB _ _).mono ?_
          rintro e x2 ⟨rfl, hh⟩
          have s_x2 : Below w5.heap.size w5 x2 := hS.trans (hh.mono hS.size)
          clear hh hS
          go_wp2_with fail
          refine hK.out _ _ s_x2 (fun hS => ?_)
          clear hK K s_x2
          (try simp only [Act.put, List.setIfInBounds_toArray, List.set_cons_zero, List.set_cons_succ])
          refine wpAnyH_ready (rs := [10]) (by kernel_rfl) (by simp) ?_
          refine AllReadyH.cons rfl (fun K hK => ?_) AllReadyH.nil
          go_simp
          go_wp2_with fail
          refine (KSP _ _ _ (V5.out.below hS) (I5.out.below hS)).mono ?_
          rintro e x3 ⟨rfl, hh⟩
          have s_x3 : Below w5.heap.size w5 x3 := hS.trans (hh.mono hS.size)
          clear hh hS
          go_wp2_with fail
          refine hK.out _ _ s_x3 (fun hS => ?_)
          clear hK K s_x3
          (try simp only [Act.put, List.setIfInBounds_toArray, List.set_cons_zero, List.set_cons_succ])
          refine take_at 11 (some 55) (v := ?_) rfl rfl (by kernel_rfl) (by kernel_rfl) (by kernel_rfl) (fun _ _ _ h => h) ⟨by rfl, ?_⟩ hS ?_
          rotate_left
          · intro wq hSw; go_simp; try rfl
          simp only [Act.put, List.setIfInBounds_toArray, List.set_cons_zero, List.set_cons_succ]
          refine take_at 12 (some 56) (v := ?_) rfl rfl (by kernel_rfl) (by kernel_rfl) (by kernel_rfl) (fun _ _ _ h => h) ⟨by rfl, ?_⟩ hS ?_
          rotate_left
          · intro wq hSw; go_simp; try rfl
          simp only [Act.put, List.setIfInBounds_toArray, List.set_cons_zero, List.set_cons_succ]
          refine take_at 13 (some 57) (v := ?_) rfl rfl (by kernel_rfl) (by kernel_rfl) (by kernel_rfl) (fun _ _ _ h => h) ⟨by rfl, ?_⟩ hS ?_
          rotate_left
          · intro wq hSw; go_simp; try rfl
          simp only [Act.put, List.setIfInBounds_toArray, List.set_cons_zero, List.set_cons_succ]
          refine take_at 14 (some 58) (v := ?_) rfl rfl (by kernel_rfl) (by kernel_rfl) (by kernel_rfl) (fun _ _ _ h => h) ⟨by rfl, ?_⟩ hS ?_
          rotate_left
          · intro wq hSw; go_simp; try rfl
          simp only [Act.put, List.setIfInBounds_toArray, List.set_cons_zero, List.set_cons_succ]
          refine take_at 15 (some 59) (v := ?_) rfl rfl (by kernel_rfl) (by kernel_rfl) (by kernel_rfl) (fun _ _ _ h => h) ⟨by rfl, ?_⟩ hS ?_
          rotate_left
          · intro wq hSw; go_simp; try rfl
          simp only [Act.put, List.setIfInBounds_toArray, List.set_cons_zero, List.set_cons_succ]
          refine pass_at 16 (some 60) rfl rfl (by kernel_rfl) (by kernel_rfl) (by kernel_rfl) (fun _ _ _ h => h) (by rfl) hS ?_
          simp only [Act.put, List.setIfInBounds_toArray, List.set_cons_zero, List.set_cons_succ]
          refine pass_at 17 (some 61) rfl rfl (by kernel_rfl) (by kernel_rfl) (by kernel_rfl) (fun _ _ _ h => h) (by rfl) hS ?_
          simp only [Act.put, List.setIfInBounds_toArray, List.set_cons_zero, List.set_cons_succ]
          refine pass_at 18 (some 62) rfl rfl (by kernel_rfl) (by kernel_rfl) (by kernel_rfl) (fun _ _ _ h => h) (by rfl) hS ?_
          simp only [Act.put, List.setIfInBounds_toArray, List.set_cons_zero, List.set_cons_succ]
          refine pass_at 19 (some 63) rfl rfl (by kernel_rfl) (by kernel_rfl) (by kernel_rfl) (fun _ _ _ h => h) (by rfl) hS ?_
          simp only [Act.put, List.setIfInBounds_toArray, List.set_cons_zero, List.set_cons_succ]
          refine pass_at 20 (some 64) rfl rfl (by kernel_rfl) (by kernel_rfl) (by kernel_rfl) (fun _ _ _ h => h) (by rfl) hS ?_
          simp only [Act.put, List.setIfInBounds_toArray, List.set_cons_zero, List.set_cons_succ]
          refine take_at 21 (some 65) (v := ?_) rfl rfl (by kernel_rfl) (by kernel_rfl) (by kernel_rfl) (fun _ _ _ h => h) ⟨by rfl, ?_⟩ hS ?_
          rotate_left
          · intro wq hSw; go_simp; try rfl
          simp only [Act.put, List.setIfInBounds_toArray, List.set_cons_zero, List.set_cons_succ]
          refine take_at 22 (some 66) (v := ?_) rfl rfl (by kernel_rfl) (by kernel_rfl) (by kernel_rfl) (fun _ _ _ h => h) ⟨by rfl, ?_⟩ hS ?_
          rotate_left
          · intro wq hSw; go_simp; try rfl
          simp only [Act.put, List.setIfInBounds_toArray, List.set_cons_zero, List.set_cons_succ]
          refine take_at 23 (some 67) (v := ?_) rfl rfl (by kernel_rfl) (by kernel_rfl) (by kernel_rfl) (fun _ _ _ h => h) ⟨by rfl, ?_⟩ hS ?_
          rotate_left
          · intro wq hSw; go_simp; try rfl
          simp only [Act.put, List.setIfInBounds_toArray, List.set_cons_zero, List.set_cons_succ]
          refine take_at 24 (some 68) (v := ?_) rfl rfl (by kernel_rfl) (by kernel_rfl) (by kernel_rfl) (fun _ _ _ h => h) ⟨by rfl, ?_⟩ hS ?_
          rotate_left
          · intro wq hSw; go_simp; try rfl
          simp only [Act.put, List.setIfInBounds_toArray, List.set_cons_zero, List.set_cons_succ]
          refine take_at 25 (some 69) (v := ?_) rfl rfl (by kernel_rfl) (by kernel_rfl) (by kernel_rfl) (fun _ _ _ h => h) ⟨by rfl, ?_⟩ hS ?_
          rotate_left
          · intro wq hSw; go_simp; try rfl
          simp only [Act.put, List.setIfInBounds_toArray, List.set_cons_zero, List.set_cons_succ]
          refine take_at 26 (some 70) (v := ?_) rfl rfl (by kernel_rfl) (by kernel_rfl) (by kernel_rfl) (fun _ _ _ h => h) ⟨by rfl, ?_⟩ hS ?_
          rotate_left
          · intro wq hSw; go_simp; try rfl
          simp only [Act.put, List.setIfInBounds_toArray, List.set_cons_zero, List.set_cons_succ]
          refine take_at 27 (some 71) (v := ?_) rfl rfl (by kernel_rfl) (by kernel_rfl) (by kernel_rfl) (fun _ _ _ h => h) ⟨by rfl, ?_⟩ hS ?_
          rotate_left
          · intro wq hSw; have qq := Q5.out.below hSw; obtain ⟨q0, _⟩ := qq.get 0 _ rfl; obtain ⟨q1, _⟩ := qq.get 1 _ rfl; obtain ⟨q2, _⟩ := qq.get 2 _ rfl; obtain ⟨q3, _⟩ := qq.get 3 _ rfl; clear qq; go_simp; try rfl
          simp only [Act.put, List.setIfInBounds_toArray, List.set_cons_zero, List.set_cons_succ]
          refine take_at 29 (some 73) (v := ?_) rfl rfl (by kernel_rfl) (by kernel_rfl) (by kernel_rfl) (fun _ _ _ h => h) ⟨by rfl, ?_⟩ hS ?_
          rotate_left
          · intro wq hSw; have qq := C5.out.below hSw; obtain ⟨q0, _⟩ := qq.get 0 _ rfl; obtain ⟨q1, _⟩ := qq.get 1 _ rfl; obtain ⟨q2, _⟩ := qq.get 2 _ rfl; obtain ⟨q3, _⟩ := qq.get 3 _ rfl; clear qq; go_simp; try rfl
          simp only [Act.put, List.setIfInBounds_toArray, List.set_cons_zero, List.set_cons_succ]
          refine wpAnyH_ready (rs := [28]) (by kernel_rfl) (by simp) ?_
          refine AllReadyH.cons rfl (fun K hK => ?_) AllReadyH.nil
          go_simp
          go_wp2_with fail
          refine (KB _ _).mono ?_
          rintro e x4 ⟨rfl, hh⟩
          have s_x4 : Below w5.heap.size w5 x4 := hS.trans (hh.mono hS.size)
          clear hh hS
          go_wp2_with fail
          refine hK.out _ _ s_x4 (fun hS => ?_)
          clear hK K s_x4
          (try simp only [Act.put, List.setIfInBounds_toArray, List.set_cons_zero, List.set_cons_succ])
          refine wpAnyH_ready (rs := [30]) (by kernel_rfl) (by simp) ?_
          refine AllReadyH.cons rfl (fun K hK => ?_) AllReadyH.nil
          go_simp
          go_wp2_with fail
          refine (KC _ (IP5.out.below hS)).mono ?_
          rintro e x5 ⟨rfl, hh⟩
          have s_x5 : Below w5.heap.size w5 x5 := hS.trans (hh.mono hS.size)
          clear hh hS
          go_wp2_with fail
          refine hK.out _ _ s_x5 (fun hS => ?_)
          clear hK K s_x5
          (try simp only [Act.put, List.setIfInBounds_toArray, List.set_cons_zero, List.set_cons_succ])
          refine wpAnyH_ready (rs := [31]) (by kernel_rfl) (by simp) ?_
          refine AllReadyH.cons rfl (fun K hK => ?_) AllReadyH.nil
          go_simp
          go_wp2_with fail
          refine (KSP _ _ _ (I5.out.below hS) (IC.out _ (IP5.out.below hS))).mono ?_
          rintro e x6 ⟨rfl, hh⟩
          have s_x6 : Below w5.heap.size w5 x6 := hS.trans (hh.mono hS.size)
          clear hh hS
          go_wp2_with fail
          refine hK.out _ _ s_x6 (fun hS => ?_)
          clear hK K s_x6
          (try simp only [Act.put, List.setIfInBounds_toArray, List.set_cons_zero, List.set_cons_succ])
          refine take_at 32 (some 76) (v := ?_) rfl rfl (by kernel_rfl) (by kernel_rfl) (by kernel_rfl) (fun _ _ _ h => h) ⟨by rfl, ?_⟩ hS ?_
          rotate_left
          · intro wq hSw; go_simp; try rfl
          simp only [Act.put, List.setIfInBounds_toArray, List.set_cons_zero, List.set_cons_succ]
          refine take_at 33 (some 77) (v := ?_) rfl rfl (by kernel_rfl) (by kernel_rfl) (by kernel_rfl) (fun _ _ _ h => h) ⟨by rfl, ?_⟩ hS ?_
          rotate_left
          · intro wq hSw; go_simp; try rfl
          simp only [Act.put, List.setIfInBounds_toArray, List.set_cons_zero, List.set_cons_succ]
          refine take_at 34 (some 78) (v := ?_) rfl rfl (by kernel_rfl) (by kernel_rfl) (by kernel_rfl) (fun _ _ _ h => h) ⟨by rfl, ?_⟩ hS ?_
          rotate_left
          · intro wq hSw; go_simp; try rfl
          simp only [Act.put, List.setIfInBounds_toArray, List.set_cons_zero, List.set_cons_succ]
          have F7 := hide hS
          clear hS
          refine wpAnyH_done (by kernel_rfl) ?_ _
          go_wp2_with fail
          go_meet
          exact ⟨rfl, F7.out⟩
      case rest =>
        obtain ⟨rfl, hb⟩ := hcut
        have Q6 := hide (Q5.out.below hb)
        have I6 := hide (I5.out.below hb)
        have O6 := hide (O5.out.below hb)
        have B6 := hide (B5.out.trans (hb.mono B5.out.size))
        clear hb Q5 I5 C5 R5 O5 IP5 B5 A5 V5 KC KSC w5
        have o0 := O0.out _ _ O6.out
        obtain ⟨p1, -⟩ := Q6.out.get 1 _ rfl
        by_cases hol : decide (P.lsn < o.lsn) = true
        · go_wp2_with fail
          exact bodyPost_ret (v := .bool true) (by simp [results, Try.results3, go_sem]) rfl ⟨rfl, B6.out⟩
        · have hol' : decide (P.lsn < o.lsn) = false := by simpa using hol
          obtain ⟨d1, d2, d3⟩ := do_old (p := P) (r := o) (by have := of_decide_eq_false hol'; omega)
          rw [d2] at KO
          obtain ⟨E2, hE2⟩ : ∃ E2, E2 = doE P o := ⟨_, rfl⟩
          rw [← hE2] at KO d3
          obtain ⟨X, hX⟩ : ∃ X, X = doP P o := ⟨_, rfl⟩
          rw [← hX] at KO d3
          have D3 := hide d3
          clear d1 d2 d3 hE2 hX hol
          obtain ⟨p0, -⟩ := Q6.out.get 0 _ rfl
          obtain ⟨p2, -⟩ := Q6.out.get 2 _ rfl
          obtain ⟨p3, -⟩ := Q6.out.get 3 _ rfl
          go_upto_region 12 with (first | refine wpList_load38 O6.out SO.out rfl ?_ | (go_at_call 14; refine (KO _ _ I6.out).mono ?_; rintro e w7 ⟨v, rfl, g7, h7⟩; obtain ⟨v9, rfl, i7⟩ := g7.in_))
          refine named (P := Code.wp _ _ _ _) ?_
          intro w8 hw8
          obtain ⟨xb, hxb⟩ : ∃ xb, xb = w7.heap.size := ⟨_, rfl⟩
          have al : Below w7.heap.size w7 w8 := by rw [hw8]; exact alloc_below _ _
          have b68 := h7.trans (al.mono h7.size)
          have X8 := hide (show Cells w8 xb [.int .i64 X.num, .int .i64 X.lsn, .slice v9.a X.cs.length v9.c, .slice v9.b X.gs.length v9.d] by rw [hw8, hxb]; exact Cells.new _ _ _)
          have V8 := hide (i7.below al)
          have Q8 := hide (Q6.out.below b68)
          have I8 := hide (I6.out.below b68)
          have B8 := hide (B6.out.trans (b68.mono B6.out.size))
          rw [← hxb]
          clear hw8 hxb al b68 h7 i7 g7 p0 p1 p2 p3 o0 Q6 I6 B6 O6 KO hol' w7
          by_cases he2 : E2 = 0
          · have hx := D3.out he2
            subst hx
            have hn2 : (E2 != 0) = false := by simpa using he2
            clear D3 he2
            refine wp_region_held_drew (S := fun wq => Below w8.heap.size w8 wq) (by kernel_rfl) (Below.refl _ _).drew (fun hS => ?_)
            refine take_at 0 (some 91) (v := ?_) rfl rfl (by kernel_rfl) (by kernel_rfl) (by kernel_rfl) (fun _ _ _ h => h) ⟨by rfl, ?_⟩ hS ?_
            rotate_left
            · intro wq hSw; go_simp; try rfl
            simp only [Act.put, List.setIfInBounds_toArray, List.set_cons_zero, List.set_cons_succ]
            refine take_at 1 (some 92) (v := ?_) rfl rfl (by kernel_rfl) (by kernel_rfl) (by kernel_rfl) (fun _ _ _ h => h) ⟨by rfl, ?_⟩ hS ?_
            rotate_left
            · intro wq hSw; go_simp; try rfl
            simp only [Act.put, List.setIfInBounds_toArray, List.set_cons_zero, List.set_cons_succ]
            refine take_at 2 (some 93) (v := ?_) rfl rfl (by kernel_rfl) (by kernel_rfl) (by kernel_rfl) (fun _ _ _ h => h) ⟨by rfl, ?_⟩ hS ?_
            rotate_left
            · intro wq hSw; go_simp; try rfl
            simp only [Act.put, List.setIfInBounds_toArray, List.set_cons_zero, List.set_cons_succ]
            refine take_at 3 (some 94) (v := ?_) rfl rfl (by kernel_rfl) (by kernel_rfl) (by kernel_rfl) (fun _ _ _ h => h) ⟨by rfl, ?_⟩ hS ?_
            rotate_left
            · intro wq hSw; go_simp; try rfl
            simp only [Act.put, List.setIfInBounds_toArray, List.set_cons_zero, List.set_cons_succ]
            refine wpAnyH_ready (rs := [4]) (by kernel_rfl) (by simp) ?_
            refine AllReadyH.cons rfl (fun K hK => ?_) AllReadyH.nil
            go_simp
            go_wp2_with fail
            refine (num_any _ _).mono ?_
            rintro e wz ⟨rfl, rfl⟩
            go_wp2_with fail
            refine hK.out _ _ hS (fun hS => ?_)
            clear hK K
            (try simp only [Act.put, List.setIfInBounds_toArray, List.set_cons_zero, List.set_cons_succ])
            refine take_at 5 (some 96) (v := ?_) rfl rfl (by kernel_rfl) (by kernel_rfl) (by kernel_rfl) (fun _ _ _ h => h) ⟨by rfl, ?_⟩ hS ?_
            rotate_left
            · intro wq hSw; go_simp; try rfl
            simp only [Act.put, List.setIfInBounds_toArray, List.set_cons_zero, List.set_cons_succ]
            refine take_at 6 (some 97) (v := ?_) rfl rfl (by kernel_rfl) (by kernel_rfl) (by kernel_rfl) (fun _ _ _ h => h) ⟨by rfl, ?_⟩ hS ?_
            rotate_left
            · intro wq hSw; go_simp; try rfl
            simp only [Act.put, List.setIfInBounds_toArray, List.set_cons_zero, List.set_cons_succ]
            refine take_at 7 (some 98) (v := ?_) rfl rfl (by kernel_rfl) (by kernel_rfl) (by kernel_rfl) (fun _ _ _ h => h) ⟨by rfl, ?_⟩ hS ?_
            rotate_left
            · intro wq hSw; have qq := X8.out.below hSw; obtain ⟨q0, _⟩ := qq.get 0 _ rfl; obtain ⟨q1, _⟩ := qq.get 1 _ rfl; obtain ⟨q2, _⟩ := qq.get 2 _ rfl; obtain ⟨q3, _⟩ := qq.get 3 _ rfl; clear qq; go_simp; try rfl
            simp only [Act.put, List.setIfInBounds_toArray, List.set_cons_zero, List.set_cons_succ]
            refine take_at 9 (some 100) (v := ?_) rfl rfl (by kernel_rfl) (by kernel_rfl) (by kernel_rfl) (fun _ _ _ h => h) ⟨by rfl, ?_⟩ hS ?_
            rotate_left
            · intro wq hSw; have qq := Q8.out.below hSw; obtain ⟨q0, _⟩ := qq.get 0 _ rfl; obtain ⟨q1, _⟩ := qq.get 1 _ rfl; obtain ⟨q2, _⟩ := qq.get 2 _ rfl; obtain ⟨q3, _⟩ := qq.get 3 _ rfl; clear qq; go_simp; try rfl
            simp only [Act.put, List.setIfInBounds_toArray, List.set_cons_zero, List.set_cons_succ]
            refine wpAnyH_ready (rs := [8]) (by kernel_rfl) (by simp) ?_
            refine AllReadyH.cons rfl (fun K hK => ?_) AllReadyH.nil
            go_simp
            go_wp2_with fail
            refine (KB _ _).mono ?_
            rintro e x1 ⟨rfl, hh⟩
            have s_x1 : Below w8.heap.size w8 x1 := hS.trans (hh.mono hS.size)
            clear hh hS
            go_wp2_with fail
            refine hK.out _ _ s_x1 (fun hS => ?_)
            clear hK K s_x1
            (try simp only [Act.put, List.setIfInBounds_toArray, List.set_cons_zero, List.set_cons_succ])
            refine wpAnyH_ready (rs := [10]) (by kernel_rfl) (by simp) ?_
            refine AllReadyH.cons rfl (fun K hK => ?_) AllReadyH.nil
            go_simp
            go_wp2_with fail
            refine (KB _ _).mono ?_
            rintro e x2 ⟨rfl, hh⟩
            have s_x2 : Below w8.heap.size w8 x2 := hS.trans (hh.mono hS.size)
            clear hh hS
            go_wp2_with fail
            refine hK.out _ _ s_x2 (fun hS => ?_)
            clear hK K s_x2
            (try simp only [Act.put, List.setIfInBounds_toArray, List.set_cons_zero, List.set_cons_succ])
            refine wpAnyH_ready (rs := [11]) (by kernel_rfl) (by simp) ?_
            refine AllReadyH.cons rfl (fun K hK => ?_) AllReadyH.nil
            go_simp
            go_wp2_with fail
            refine (KSP _ _ _ (V8.out.below hS) (I8.out.below hS)).mono ?_
            rintro e x3 ⟨rfl, hh⟩
            have s_x3 : Below w8.heap.size w8 x3 := hS.trans (hh.mono hS.size)
            clear hh hS
            go_wp2_with fail
            refine hK.out _ _ s_x3 (fun hS => ?_)
            clear hK K s_x3
            (try simp only [Act.put, List.setIfInBounds_toArray, List.set_cons_zero, List.set_cons_succ])
            refine take_at 12 (some 103) (v := ?_) rfl rfl (by kernel_rfl) (by kernel_rfl) (by kernel_rfl) (fun _ _ _ h => h) ⟨by rfl, ?_⟩ hS ?_
            rotate_left
            · intro wq hSw; go_simp; try rfl
            simp only [Act.put, List.setIfInBounds_toArray, List.set_cons_zero, List.set_cons_succ]
            refine take_at 13 (some 104) (v := ?_) rfl rfl (by kernel_rfl) (by kernel_rfl) (by kernel_rfl) (fun _ _ _ h => h) ⟨by rfl, ?_⟩ hS ?_
            rotate_left
            · intro wq hSw; go_simp; try rfl
            simp only [Act.put, List.setIfInBounds_toArray, List.set_cons_zero, List.set_cons_succ]
            refine take_at 14 (some 6) (v := ?_) rfl rfl (by kernel_rfl) (by kernel_rfl) (by kernel_rfl) (fun _ _ _ h => h) ⟨by rfl, ?_⟩ hS ?_
            rotate_left
            · intro wq hSw; go_simp; try rfl
            simp only [Act.put, List.setIfInBounds_toArray, List.set_cons_zero, List.set_cons_succ]
            have F7 := hide hS
            clear hS
            refine wpAnyH_done (by kernel_rfl) ?_ _
            go_wp2_with fail
            exact bodyPost_ret (v := .bool true) (by simp [results, Try.results3, go_sem]) rfl ⟨rfl, B8.out.trans (F7.out.mono B8.out.size)⟩
          · have hn2 : (E2 != 0) = true := by simpa using he2
            clear D3 he2
            refine wp_region_held_drew (S := fun wq => Below w8.heap.size w8 wq) (by kernel_rfl) (Below.refl _ _).drew (fun hS => ?_)
            refine take_at 0 (some 91) (v := ?_) rfl rfl (by kernel_rfl) (by kernel_rfl) (by kernel_rfl) (fun _ _ _ h => h) ⟨by rfl, ?_⟩ hS ?_
            rotate_left
            · intro wq hSw; go_simp; try rfl
            simp only [Act.put, List.setIfInBounds_toArray, List.set_cons_zero, List.set_cons_succ]
            refine take_at 1 (some 92) (v := ?_) rfl rfl (by kernel_rfl) (by kernel_rfl) (by kernel_rfl) (fun _ _ _ h => h) ⟨by rfl, ?_⟩ hS ?_
            rotate_left
            · intro wq hSw; go_simp; try rfl
            simp only [Act.put, List.setIfInBounds_toArray, List.set_cons_zero, List.set_cons_succ]
            refine take_at 2 (some 93) (v := ?_) rfl rfl (by kernel_rfl) (by kernel_rfl) (by kernel_rfl) (fun _ _ _ h => h) ⟨by rfl, ?_⟩ hS ?_
            rotate_left
            · intro wq hSw; go_simp; try rfl
            simp only [Act.put, List.setIfInBounds_toArray, List.set_cons_zero, List.set_cons_succ]
            refine take_at 3 (some 94) (v := ?_) rfl rfl (by kernel_rfl) (by kernel_rfl) (by kernel_rfl) (fun _ _ _ h => h) ⟨by rfl, ?_⟩ hS ?_
            rotate_left
            · intro wq hSw; go_simp; try rfl
            simp only [Act.put, List.setIfInBounds_toArray, List.set_cons_zero, List.set_cons_succ]
            refine wpAnyH_ready (rs := [4]) (by kernel_rfl) (by simp) ?_
            refine AllReadyH.cons rfl (fun K hK => ?_) AllReadyH.nil
            go_simp
            go_wp2_with fail
            refine (num_any _ _).mono ?_
            rintro e wz ⟨rfl, rfl⟩
            go_wp2_with fail
            refine hK.out _ _ hS (fun hS => ?_)
            clear hK K
            (try simp only [Act.put, List.setIfInBounds_toArray, List.set_cons_zero, List.set_cons_succ])
            refine take_at 5 (some 96) (v := ?_) rfl rfl (by kernel_rfl) (by kernel_rfl) (by kernel_rfl) (fun _ _ _ h => h) ⟨by rfl, ?_⟩ hS ?_
            rotate_left
            · intro wq hSw; go_simp; try rfl
            simp only [Act.put, List.setIfInBounds_toArray, List.set_cons_zero, List.set_cons_succ]
            refine take_at 6 (some 97) (v := ?_) rfl rfl (by kernel_rfl) (by kernel_rfl) (by kernel_rfl) (fun _ _ _ h => h) ⟨by rfl, ?_⟩ hS ?_
            rotate_left
            · intro wq hSw; go_simp; try rfl
            simp only [Act.put, List.setIfInBounds_toArray, List.set_cons_zero, List.set_cons_succ]
            refine pass_at 7 (some 98) rfl rfl (by kernel_rfl) (by kernel_rfl) (by kernel_rfl) (fun _ _ _ h => h) (by rfl) hS ?_
            simp only [Act.put, List.setIfInBounds_toArray, List.set_cons_zero, List.set_cons_succ]
            refine pass_at 8 (some 99) rfl rfl (by kernel_rfl) (by kernel_rfl) (by kernel_rfl) (fun _ _ _ h => h) (by rfl) hS ?_
            simp only [Act.put, List.setIfInBounds_toArray, List.set_cons_zero, List.set_cons_succ]
            refine pass_at 9 (some 100) rfl rfl (by kernel_rfl) (by kernel_rfl) (by kernel_rfl) (fun _ _ _ h => h) (by rfl) hS ?_
            simp only [Act.put, List.setIfInBounds_toArray, List.set_cons_zero, List.set_cons_succ]
            refine pass_at 10 (some 101) rfl rfl (by kernel_rfl) (by kernel_rfl) (by kernel_rfl) (fun _ _ _ h => h) (by rfl) hS ?_
            simp only [Act.put, List.setIfInBounds_toArray, List.set_cons_zero, List.set_cons_succ]
            refine pass_at 11 (some 102) rfl rfl (by kernel_rfl) (by kernel_rfl) (by kernel_rfl) (fun _ _ _ h => h) (by rfl) hS ?_
            simp only [Act.put, List.setIfInBounds_toArray, List.set_cons_zero, List.set_cons_succ]
            refine take_at 12 (some 103) (v := ?_) rfl rfl (by kernel_rfl) (by kernel_rfl) (by kernel_rfl) (fun _ _ _ h => h) ⟨by rfl, ?_⟩ hS ?_
            rotate_left
            · intro wq hSw; go_simp; try rfl
            simp only [Act.put, List.setIfInBounds_toArray, List.set_cons_zero, List.set_cons_succ]
            refine take_at 13 (some 104) (v := ?_) rfl rfl (by kernel_rfl) (by kernel_rfl) (by kernel_rfl) (fun _ _ _ h => h) ⟨by rfl, ?_⟩ hS ?_
            rotate_left
            · intro wq hSw; go_simp; try rfl
            simp only [Act.put, List.setIfInBounds_toArray, List.set_cons_zero, List.set_cons_succ]
            refine take_at 14 (some 6) (v := ?_) rfl rfl (by kernel_rfl) (by kernel_rfl) (by kernel_rfl) (fun _ _ _ h => h) ⟨by rfl, ?_⟩ hS ?_
            rotate_left
            · intro wq hSw; go_simp; try rfl
            simp only [Act.put, List.setIfInBounds_toArray, List.set_cons_zero, List.set_cons_succ]
            have F7 := hide hS
            clear hS
            refine wpAnyH_done (by kernel_rfl) ?_ _
            go_wp2_with fail
            exact bodyPost_ret (v := .bool true) (by simp [results, Try.results3, go_sem]) rfl ⟨rfl, B8.out.trans (F7.out.mono B8.out.size)⟩
    · have hb0 : (E == 0) = false := by simpa using he
      have hy : Y = false := by rw [HY.out]; exact did_ok (by rw [← HE.out]; exact he)
      have hpn : P = none_ := by rw [HP.out]; unfold doP; rw [if_pos (by rw [← HE.out]; exact he)]
      subst hy
      subst hpn
      have KS0 := fun v w' h1 h2 => same_at none_ u v w' none_fit h1 h2
      have KB0 := fun w' => back_any none_ u w'
      simp only [pgV, pgA, none_, List.length_nil] at KS0 KB0
      have EM := fun w' => hide (show PIn w' none_ t0 from e_in w' 0)
      obtain ⟨p0, -⟩ := Q3.out.get 0 _ rfl
      obtain ⟨p1, -⟩ := Q3.out.get 1 _ rfl
      obtain ⟨p2, -⟩ := Q3.out.get 2 _ rfl
      obtain ⟨p3, -⟩ := Q3.out.get 3 _ rfl
      simp only [none_, List.length_nil] at p0 p1 p2 p3
      clear he HE HY HP
      go_wp2_with (first | (go_at_call 13; refine (KB0 _).mono ?_; rintro e w4 ⟨rfl, h4⟩) | (go_at_call 12; refine (KS0 t0 _ (I3.out.below h4) (EM _).out).mono ?_; rintro e w5 ⟨rfl, h5⟩))
      exact bodyPost_ret (v := .bool true) (by simp [results, Try.results3, go_sem]) rfl ⟨rfl, B3.out.trans ((h4.trans (h5.mono h4.size)).mono B3.out.size)⟩
end Go.Proofs.Ytoocbpbaieedmaa
