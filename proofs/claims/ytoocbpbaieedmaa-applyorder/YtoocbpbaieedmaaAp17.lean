import Derived.Test.YtoocbpbaieedmaaAp14
namespace Go.Proofs.Ytoocbpbaieedmaa
open Go.RowKit Go.QK Quota
set_option maxRecDepth 100000
theorem idx {A : Array Value} (h : A.size = 17) (j : Nat) (hj : j < 17) : ∃ v, A.toList[j]? = some v := ⟨_, List.getElem?_eq_getElem (show j < A.toList.length by simp; omega)⟩
set_option maxHeartbeats 16000000 in
theorem law_order (p : Pg) (t : At) (a b : Rc) (w : World) (h : PIn w p t) (hp : p.Num) (ha : a.Fit) (hb : b.Fit) : Calls Try.prog 5 #[pgV p t, recV a, recV b] w fun e w' => e = .returned (.bool true) ∧ Below w.heap.size w w' := by
  obtain ⟨l, hl⟩ : ∃ l, l = a.lsn := ⟨_, rfl⟩
  obtain ⟨C, hC⟩ : ∃ C, C = cutP p := ⟨_, rfl⟩
  have hcf : C.Fit := by rw [hC]; exact hp.cut
  have PARG := hide (show ∀ w', Below w.heap.size w w' → PIn w' p t from fun w' q => h.below q)
  have KC := fun w' (h : PIn w' p t) => cut_any p t w' h
  have IC := hide (show ∀ w', PIn w' p t → PIn w' C t from fun w' q => by rw [hC]; exact q.cut)
  have KL := fun w' h => lent_at C t w' h hcf
  have KDA := fun P (hf : Pg.Fit P) m u w' h => done_at P u (asK a 3 m) w' h hf ⟨ha.d, ha.v⟩
  have KDB := fun P (hf : Pg.Fit P) m u w' h => done_at P u (asK b 3 m) w' h hf ⟨hb.d, hb.v⟩
  have FA := hide (show ∀ P m, Pg.Fit P → (doP P (asK a 3 m)).Fit from fun P m hf => hf.do_ ⟨ha.d, ha.v⟩)
  have FB := hide (show ∀ P m, Pg.Fit P → (doP P (asK b 3 m)).Fit from fun P m hf => hf.do_ ⟨hb.d, hb.v⟩)
  have ORD := hide (fun (h1 : didB C (asK a 3 l) = true) (h2 : didB (doP C (asK a 3 l)) (asK b 3 (l + 1)) = true) (h3 : doE C (asK b 3 l) = 0) (h4 : doE (doP C (asK b 3 l)) (asK a 3 (l + 1)) = 0) => do_order (p := C) (a := asK a 3 l) (b := asK b 3 (l + 1)) (a' := asK a 3 (l + 1)) (b' := asK b 3 l) (l := l) rfl rfl rfl rfl rfl rfl h1 h2 h3 h4)
  simp only [recV] at KDA KDB
  obtain ⟨AA, hAA⟩ : ∃ A, A = recA a := ⟨_, rfl⟩
  obtain ⟨BA, hBA⟩ : ∃ A, A = recA b := ⟨_, rfl⟩
  obtain ⟨A1, hA1⟩ : ∃ A, A = recA (asK a 3 l) := ⟨_, rfl⟩
  obtain ⟨A2, hA2⟩ : ∃ A, A = recA (asK a 3 (l + 1)) := ⟨_, rfl⟩
  obtain ⟨B1, hB1⟩ : ∃ A, A = recA (asK b 3 (l + 1)) := ⟨_, rfl⟩
  obtain ⟨B2, hB2⟩ : ∃ A, A = recA (asK b 3 l) := ⟨_, rfl⟩
  have SAA := hide (show AA.size = 17 by rw [hAA]; rfl)
  have SBA := hide (show BA.size = 17 by rw [hBA]; rfl)
  have SA1 := hide (show A1.size = 17 by rw [hA1]; rfl)
  have SA2 := hide (show A2.size = 17 by rw [hA2]; rfl)
  have SB1 := hide (show B1.size = 17 by rw [hB1]; rfl)
  have SB2 := hide (show B2.size = 17 by rw [hB2]; rfl)
  have EA1 := hide (show AA.setIfInBounds 1 (.int .i64 3) = A1 by rw [hAA, hA1, hl]; rfl)
  have EB1 := hide (show (BA.setIfInBounds 1 (.int .i64 3)).setIfInBounds 0 (.int .i64 (l + 1)) = B1 by rw [hBA, hB1]; rfl)
  have EA2 := hide (show A1.setIfInBounds 0 (.int .i64 (l + 1)) = A2 by rw [hA1, hA2]; rfl)
  have EB2 := hide (show B1.setIfInBounds 0 (.int .i64 l) = B2 by rw [hB1, hB2]; rfl)
  have LA0 := hide (show ∀ (x : World) (n : Nat), RBox x n 38 AA → x.cell? ⟨n, 0, none⟩ = some (.int .i64 l) from fun x n z => by subst hAA; rw [hl]; exact (z.cells.get 0 _ rfl).1)
  have LA1 := hide (show ∀ (x : World) (n : Nat), RBox x n 38 A1 → x.cell? ⟨n, 0, none⟩ = some (.int .i64 l) ∧ x.frozen? ⟨n, 0, none⟩ = false from fun x n z => by subst hA1; exact z.cells.get 0 _ rfl)
  have LB1 := hide (show ∀ (x : World) (n : Nat), RBox x n 38 B1 → x.cell? ⟨n, 0, none⟩ = some (.int .i64 (l + 1)) ∧ x.frozen? ⟨n, 0, none⟩ = false from fun x n z => by subst hB1; exact z.cells.get 0 _ rfl)
  show Calls Try.prog 5 #[.agg (pgA p.num p.lsn (.slice t.a p.cs.length t.c) (.slice t.b p.gs.length t.d)), .agg (recA a), .agg (recA b)] w _
  rw [← hAA, ← hBA]
  rw [← hC] at KC
  obtain ⟨X, hX⟩ : ∃ P, P = doP C (asK a 3 l) := ⟨_, rfl⟩
  have hxf : X.Fit := by rw [hX]; exact FA.out C l hcf
  obtain ⟨Z, hZ⟩ : ∃ P, P = doP X (asK b 3 (l + 1)) := ⟨_, rfl⟩
  have hzf : Z.Fit := by rw [hZ]; exact FB.out X (l + 1) hxf
  obtain ⟨V, hV⟩ : ∃ P, P = doP C (asK b 3 l) := ⟨_, rfl⟩
  have hvf : V.Fit := by rw [hV]; exact FB.out C l hcf
  obtain ⟨U, hU⟩ : ∃ P, P = doP V (asK a 3 (l + 1)) := ⟨_, rfl⟩
  have K1 := KDA C hcf l
  have K2 := KDB X hxf (l + 1)
  have K3 := KDB C hcf l
  have K4 := KDA V hvf (l + 1)
  have KS := fun u v w' h1 h2 => same_at Z u v w' hzf h1 h2
  have KB := fun u w' => back_any Z u w'
  rw [← hA1, ← hX] at K1
  rw [← hB1, ← hZ] at K2
  rw [← hB2, ← hV] at K3
  rw [← hA2, ← hU] at K4
  have O1 := ORD.out
  rw [← hX, ← hV, ← hU, ← hZ] at O1
  obtain ⟨E1, hE1⟩ : ∃ E, E = doE C (asK a 3 l) := ⟨_, rfl⟩
  obtain ⟨E2, hE2⟩ : ∃ E, E = doE X (asK b 3 (l + 1)) := ⟨_, rfl⟩
  obtain ⟨E3, hE3⟩ : ∃ E, E = doE C (asK b 3 l) := ⟨_, rfl⟩
  obtain ⟨E4, hE4⟩ : ∃ E, E = doE V (asK a 3 (l + 1)) := ⟨_, rfl⟩
  obtain ⟨Y1, hY1⟩ : ∃ Y, Y = didB C (asK a 3 l) := ⟨_, rfl⟩
  obtain ⟨Y2, hY2⟩ : ∃ Y, Y = didB X (asK b 3 (l + 1)) := ⟨_, rfl⟩
  obtain ⟨Y3, hY3⟩ : ∃ Y, Y = didB C (asK b 3 l) := ⟨_, rfl⟩
  obtain ⟨Y4, hY4⟩ : ∃ Y, Y = didB V (asK a 3 (l + 1)) := ⟨_, rfl⟩
  rw [← hE1, ← hY1] at K1
  rw [← hE2, ← hY2] at K2
  rw [← hE3, ← hY3] at K3
  rw [← hE4, ← hY4] at K4
  rw [← hY1, ← hY2, ← hE3, ← hE4, ← hY3, ← hY4] at O1
  have OO := hide O1
  have HIN := hide h
  clear hl hAA hBA hA1 hA2 hB1 hB2 hC hp ha hb h hE1 hE2 hE3 hE4 hY1 hY2 hY3 hY4 hX hZ hV hU hcf hxf hzf hvf KDA KDB FA FB ORD O1
  go_enter Try.func5, Try.ntmps5
  go_upto_region 1 with fail
  refine named (P := Code.wp _ _ _ _) ?_
  intro w1 hw1
  obtain ⟨N, hN⟩ : ∃ N, N = w.heap.size := ⟨_, rfl⟩
  have b1 : Below w.heap.size w w1 := by rw [hw1]; exact bnext (bnext (alloc_below _ _) (alloc_below _ _) (Nat.le_refl _)) (alloc_below _ _) (Nat.le_refl _)
  have c1 : Cells w1 N [.int .i64 p.num, .int .i64 p.lsn, .slice t.a p.cs.length t.c, .slice t.b p.gs.length t.d] := by rw [hw1, hN]; exact ((Cells.new w (pgA p.num p.lsn (.slice t.a p.cs.length t.c) (.slice t.b p.gs.length t.d)) 25).below (alloc_below _ _)).below (alloc_below _ _)
  have d1 : RBox w1 (N + 1) 38 AA := by
    rw [hw1, hN]
    have q := RBox.new (w.alloc (.cells (pgA p.num p.lsn (.slice t.a p.cs.length t.c) (.slice t.b p.gs.length t.d)) 25)) AA 38
    rw [World.size_alloc] at q
    exact q.below (alloc_below _ _)
  have e1 : RBox w1 (N + 2) 38 BA := by
    rw [hw1, hN]
    have q := RBox.new ((w.alloc (.cells (pgA p.num p.lsn (.slice t.a p.cs.length t.c) (.slice t.b p.gs.length t.d)) 25)).alloc (.cells AA 38)) BA 38
    rw [World.size_alloc, World.size_alloc] at q
    exact q
  have HN := hide hN
  rw [← hN]
  clear hN hw1
  go_upto_region 3 with (go_at_call 8; refine (awake_any _).mono ?_; rintro e w2 ⟨rfl, h2⟩)
  have B2_ := hide (b1.trans (h2.mono b1.size))
  have C2 := hide (c1.below h2)
  have RA2 := hide (d1.below h2)
  have RB2 := hide (e1.below h2)
  have I2 := hide (HIN.out.below B2_.out)
  clear b1 c1 d1 e1 h2 HIN w1
  obtain ⟨p0, -⟩ := C2.out.get 0 _ rfl
  obtain ⟨p1, -⟩ := C2.out.get 1 _ rfl
  obtain ⟨p2, -⟩ := C2.out.get 2 _ rfl
  obtain ⟨p3, -⟩ := C2.out.get 3 _ rfl
  go_upto_region 4 with (go_at_call 11; refine (KC _ I2.out).mono ?_; rintro e w3 ⟨rfl, h3⟩; obtain ⟨y0, z0⟩ := (C2.out.below h3).get 0 _ rfl; obtain ⟨y1, z1⟩ := (C2.out.below h3).get 1 _ rfl; obtain ⟨y2, z2⟩ := (C2.out.below h3).get 2 _ rfl; obtain ⟨y3, z3⟩ := (C2.out.below h3).get 3 _ rfl)
  refine named (P := Code.wp _ _ _ _) ?_
  intro w4 hw4
  have K4_ : Keep (fun i => i = N) w3 w4 := by rw [hw4]; exact ((((Keep.refl (fun i => i = N) w3).setCell (g := N) (j := 0) (fun _ => rfl) _).setCell (g := N) (j := 1) (fun _ => rfl) _).setCell (g := N) (j := 2) (fun _ => rfl) _).setCell (g := N) (j := 3) (fun _ => rfl) _
  have C4 := hide (show Cells w4 N [.int .i64 C.num, .int .i64 C.lsn, .slice t.a C.cs.length t.c, .slice t.b C.gs.length t.d] by rw [hw4]; exact ((((C2.out.below h3).stored (j := 0) (by simp) _).stored (j := 1) (by simp) _).stored (j := 2) (by simp) _).stored (j := 3) (by simp) _)
  have RA4 := hide ((RA2.out.below h3).keep K4_ (by omega))
  have RB4 := hide ((RB2.out.below h3).keep K4_ (by omega))
  have b34 := B2_.out.trans (h3.mono B2_.out.size)
  have B4 := hide (b34.trans (K4_.below b34.size (fun i hi q => by have := HN.out; omega)))
  clear hw4 K4_ b34 h3 p0 p1 p2 p3 y0 z0 y1 z1 y2 z2 y3 z3 C2 RA2 RB2 I2 B2_ KC w2 w3
  have a0 := LA0.out _ _ RA4.out
  by_cases hl1 : decide (l < 1) = true
  · go_wp2_with fail
    exact bodyPost_ret (v := .bool true) (by simp [results, Try.results5, go_sem]) rfl ⟨rfl, B4.out⟩
  · have hl1' : decide (l < 1) = false := by simpa using hl1
    have n1 := of_decide_eq_false hl1'
    clear hl1
    by_cases hl2 : decide (2147483647 ≤ l) = true
    · clear n1
      go_wp2_with fail
      exact bodyPost_ret (v := .bool true) (by simp [results, Try.results5, go_sem]) rfl ⟨rfl, B4.out⟩
    · have hl2' : decide (2147483647 ≤ l) = false := by simpa using hl2
      have n2 := of_decide_eq_false hl2'
      have hw1 : wrap64 (l + 1) = l + 1 := by unfold wrap64; omega
      clear hl2 n1 n2
      obtain ⟨va, hva⟩ := idx SAA.out 1 (by decide)
      obtain ⟨ka, la⟩ := RA4.out.cells.get 1 va hva
      go_upto_region 7 with fail
      refine named (P := Code.wp _ _ _ _) ?_
      intro w5 hw5
      have K5 : Keep (fun i => i = N + 1) w4 w5 := by rw [hw5]; exact (Keep.refl (fun i => i = N + 1) w4).setCell (g := N + 1) (j := 1) (fun _ => rfl) _
      have RA5 := hide (show RBox w5 (N + 1) 38 A1 by rw [hw5, ← EA1.out]; exact RA4.out.setCell 1 _)
      have RB5 := hide (RB4.out.keep K5 (by omega))
      have C5 := hide (C4.out.keep K5 (by omega))
      have B5 := hide (B4.out.trans (K5.below B4.out.size (fun i hi q => by have := HN.out; omega)))
      clear hw5 K5 ka la hva a0 RA4 RB4 C4 B4 w4
      obtain ⟨vb, hvb⟩ := idx SBA.out 1 (by decide)
      obtain ⟨kb, lb⟩ := RB5.out.cells.get 1 vb hvb
      go_upto_region 8 with fail
      refine named (P := Code.wp _ _ _ _) ?_
      intro w6 hw6
      have K6 : Keep (fun i => i = N + 2) w5 w6 := by rw [hw6]; exact (Keep.refl (fun i => i = N + 2) w5).setCell (g := N + 2) (j := 1) (fun _ => rfl) _
      have RB6 := hide (show RBox w6 (N + 2) 38 (BA.setIfInBounds 1 (.int .i64 3)) by rw [hw6]; exact RB5.out.setCell 1 _)
      have RA6 := hide (RA5.out.keep K6 (by omega))
      have C6 := hide (C5.out.keep K6 (by omega))
      have B6 := hide (B5.out.trans (K6.below B5.out.size (fun i hi q => by have := HN.out; omega)))
      clear hw6 K6 kb lb hvb RA5 RB5 C5 B5 w5
      obtain ⟨vc, hvc⟩ := idx (show (BA.setIfInBounds 1 (.int .i64 3)).size = 17 by have := SBA.out; simp; exact this) 0 (by decide)
      obtain ⟨kb, lb⟩ := RB6.out.cells.get 0 vc hvc
      obtain ⟨a0, -⟩ := LA1.out _ _ RA6.out
      go_upto_region 9 with fail
      refine named (P := Code.wp _ _ _ _) ?_
      intro w7 hw7
      have K7 : Keep (fun i => i = N + 2) w6 w7 := by rw [hw7]; exact (Keep.refl (fun i => i = N + 2) w6).setCell (g := N + 2) (j := 0) (fun _ => rfl) _
      have RB7 := hide (show RBox w7 (N + 2) 38 B1 by rw [hw7, ← EB1.out]; exact RB6.out.setCell 0 _)
      have RA7 := hide (RA6.out.keep K7 (by omega))
      have C7 := hide (C6.out.keep K7 (by omega))
      have B7 := hide (B6.out.trans (K7.below B6.out.size (fun i hi q => by have := HN.out; omega)))
      have I7 := hide (IC.out _ (PARG.out _ B7.out))
      clear hw7 K7 kb lb hvc a0 hw1 RA6 RB6 C6 B6 w6
      go_cut [7, 8, 9] (fun v7 v8 v9 w' => ∃ qb u, v7 = ptr qb ∧ v8 = .bool Y1 ∧ v9 = .bool (E1 == 0) ∧ Cells w' qb [.int .i64 X.num, .int .i64 X.lsn, .slice u.a X.cs.length u.c, .slice u.b X.gs.length u.d] ∧ PIn w' X u ∧ (∀ ad : Addr, (u.a = some ad ∨ u.b = some ad) → ad.block < w'.heap.size) ∧ Below w7.heap.size w7 w')
      case first =>
        refine wp_region_held_drew (S := fun wq => Below w7.heap.size w7 wq) (by kernel_rfl) (Below.refl _ _).drew (fun hS => ?_)
        generalize w7.drew = y0 at *
        refine take_at 0 (some 38) (v := ?_) rfl rfl (by kernel_rfl) (by kernel_rfl) (by kernel_rfl) (fun _ _ _ h => h) ⟨by rfl, ?_⟩ hS ?_
        rotate_left
        · intro wq hSw; have qq := C7.out.below hSw; obtain ⟨q0, _⟩ := qq.get 0 _ rfl; obtain ⟨q1, _⟩ := qq.get 1 _ rfl; obtain ⟨q2, _⟩ := qq.get 2 _ rfl; obtain ⟨q3, _⟩ := qq.get 3 _ rfl; clear qq; go_simp; try rfl
        simp only [Act.put, List.setIfInBounds_toArray, List.set_cons_zero, List.set_cons_succ]
        refine take_at 2 (some 40) (v := .agg A1) rfl rfl (by kernel_rfl) (by kernel_rfl) (by kernel_rfl) (fun _ _ _ h => h) ⟨by rfl, fun wq hSw => exec_load38 rfl rfl (rb_at (RA7.out.below hSw)) SA1.out⟩ hS ?_
        simp only [Act.put, List.setIfInBounds_toArray, List.set_cons_zero, List.set_cons_succ]
        have LO := hide hS.size
        refine wpAnyH_ready (rs := [1, 8]) (by kernel_rfl) (by simp) ?_
        refine AllReadyH.cons rfl (fun K hK => ?_) (AllReadyH.cons rfl (fun K hK => ?_) AllReadyH.nil)
        · clear LO
          go_simp
          go_wp2_with fail
          refine (KL _ (I7.out.below hS)).mono ?_
          rintro e x2 ⟨u1, rfl, i1, hh⟩
          have s_x2 : Below w7.heap.size w7 x2 := hS.trans (hh.mono hS.size)
          have J1 := hide i1
          clear i1
          clear hh hS
          go_wp2_with fail
          refine hK.out _ _ s_x2 (fun hS => ?_)
          clear hK K s_x2
          (try simp only [Act.put, List.setIfInBounds_toArray, List.set_cons_zero, List.set_cons_succ])
          have LO := hide hS.size
          refine wpAnyH_ready (rs := [3, 8]) (by kernel_rfl) (by simp) ?_
          refine AllReadyH.cons rfl (fun K hK => ?_) (AllReadyH.cons rfl (fun K hK => ?_) AllReadyH.nil)
          · clear LO
            go_simp
            go_wp2_with fail
            refine (K1 _ _ J1.out).mono ?_
            rintro e x3 ⟨u, rfl, i2, ub, hh⟩
            have s_x3 : Below w7.heap.size w7 x3 := hS.trans (hh.mono hS.size)
            have J2 := hide i2
            clear i2 J1
            have UB := hide ub
            clear ub
            clear hh hS
            go_wp2_with fail
            refine hK.out _ _ s_x3 (fun hS => ?_)
            clear hK K s_x3
            (try simp only [Act.put, List.setIfInBounds_toArray, List.set_cons_zero, List.set_cons_succ])
            refine take_at 4 (some 37) (v := ?_) rfl rfl (by kernel_rfl) (by kernel_rfl) (by kernel_rfl) (fun _ _ _ h => h) ⟨by rfl, ?_⟩ hS ?_
            rotate_left
            · intro wq hSw; go_simp; try rfl
            simp only [Act.put, List.setIfInBounds_toArray, List.set_cons_zero, List.set_cons_succ]
            refine take_at 5 (some 42) (v := ?_) rfl rfl (by kernel_rfl) (by kernel_rfl) (by kernel_rfl) (fun _ _ _ h => h) ⟨by rfl, ?_⟩ hS ?_
            rotate_left
            · intro wq hSw; go_simp; try rfl
            simp only [Act.put, List.setIfInBounds_toArray, List.set_cons_zero, List.set_cons_succ]
            refine take_at 6 (some 43) (v := ?_) rfl rfl (by kernel_rfl) (by kernel_rfl) (by kernel_rfl) (fun _ _ _ h => h) ⟨by rfl, ?_⟩ hS ?_
            rotate_left
            · intro wq hSw; go_simp; try rfl
            simp only [Act.put, List.setIfInBounds_toArray, List.set_cons_zero, List.set_cons_succ]
            refine take_at 7 (some 44) (v := ?_) rfl rfl (by kernel_rfl) (by kernel_rfl) (by kernel_rfl) (fun _ _ _ h => h) ⟨by rfl, ?_⟩ hS ?_
            rotate_left
            · intro wq hSw; go_simp; try rfl
            simp only [Act.put, List.setIfInBounds_toArray, List.set_cons_zero, List.set_cons_succ]
            have iu0 := J2
            clear J2
            have LO := hide hS.size
            refine wpAnyH_ready (rs := [8]) (by kernel_rfl) (by simp) ?_
            refine AllReadyH.cons rfl (fun K hK => ?_) AllReadyH.nil
            go_simp
            go_wp2_with fail
            refine hK.out _ _ (hS.alloc hS.size _) (fun hS => ?_)
            clear hK K
            (try simp only [Act.put, List.setIfInBounds_toArray, List.set_cons_zero, List.set_cons_succ])
            refine named (P := wpAnyH _ _ _ _ _ _ _ _) ?_
            intro xa hxa
            rw [← hxa] at hS
            obtain ⟨qb, hqb⟩ : ∃ qb, qb = x3.heap.size := ⟨_, rfl⟩
            have al : Below x3.heap.size x3 xa := by rw [hxa]; exact alloc_below _ _
            have Z := hide (show Cells xa qb [.int .i64 0, .int .i64 0, .slice none 0 0, .slice none 0 0] by rw [hxa, hqb]; exact Cells.new _ _ _)
            have J2 := hide (iu0.out.below al)
            have NQ := hide (show ∀ ad : Addr, (u.a = some ad ∨ u.b = some ad) → ¬ ad.block = qb from fun ad q => by have := (UB.out ad q).2; omega)
            have QB := hide (show w7.heap.size ≤ qb by rw [hqb]; exact LO.out)
            have UBx := hide (show ∀ ad : Addr, (u.a = some ad ∨ u.b = some ad) → ad.block < xa.heap.size from fun ad q => Nat.lt_of_lt_of_le (UB.out ad q).2 al.size)
            rw [← hqb]
            clear hxa hqb al iu0 LO
            have K8 := ((((Keep.refl (fun i => i = qb) xa).setCell (g := qb) (j := 0) (fun _ => rfl) (.int .i64 X.num)).setCell (g := qb) (j := 1) (fun _ => rfl) (.int .i64 X.lsn)).setCell (g := qb) (j := 2) (fun _ => rfl) (.slice u.a X.cs.length u.c)).setCell (g := qb) (j := 3) (fun _ => rfl) (.slice u.b X.gs.length u.d)
            have C8 := (((Z.out.stored (j := 0) (by simp) (.int .i64 X.num)).stored (j := 1) (by simp) (.int .i64 X.lsn)).stored (j := 2) (by simp) (.slice u.a X.cs.length u.c)).stored (j := 3) (by simp) (.slice u.b X.gs.length u.d)
            obtain ⟨y0, z0⟩ := Z.out.get 0 _ rfl
            obtain ⟨y1, z1⟩ := Z.out.get 1 _ rfl
            obtain ⟨y2, z2⟩ := Z.out.get 2 _ rfl
            obtain ⟨y3, z3⟩ := Z.out.get 3 _ rfl
            have HK8 := hide K8
            have HC8 := hide C8
            clear K8 C8
            have QLT := hide (Z.out.1)
            have S8 := hide (hS.trans (HK8.out.below hS.size (fun i hi q => by have := QB.out; omega)))
            clear hS
            refine wpAnyH_ready (rs := [9]) (by kernel_rfl) (by simp) ?_
            refine AllReadyH.cons rfl (fun K hK => ?_) AllReadyH.nil
            go_simp
            go_wp2_with fail
            refine hK.out _ _ S8.out (fun hS => ?_)
            clear hK K
            (try simp only [Act.put, List.setIfInBounds_toArray, List.set_cons_zero, List.set_cons_succ])
            refine take_at 10 (some 8) (v := ?_) rfl rfl (by kernel_rfl) (by kernel_rfl) (by kernel_rfl) (fun _ _ _ h => h) ⟨by rfl, ?_⟩ hS ?_
            rotate_left
            · intro wq hSw; go_simp; try rfl
            simp only [Act.put, List.setIfInBounds_toArray, List.set_cons_zero, List.set_cons_succ]
            refine take_at 11 (some 9) (v := ?_) rfl rfl (by kernel_rfl) (by kernel_rfl) (by kernel_rfl) (fun _ _ _ h => h) ⟨by rfl, ?_⟩ hS ?_
            rotate_left
            · intro wq hSw; go_simp; try rfl
            simp only [Act.put, List.setIfInBounds_toArray, List.set_cons_zero, List.set_cons_succ]
            clear hS
            refine wpAnyH_done (by kernel_rfl) ?_ _
            clear y0 z0 y1 z1 y2 z2 y3 z3
            have JF := hide (J2.out.keep HK8.out (fun ad q => NQ.out ad (.inl q)) (fun ad q => NQ.out ad (.inr q)))
            go_wp2_with fail
            go_meet
            exact ⟨qb, u, rfl, rfl, rfl, HC8.out, JF.out, fun ad q => Nat.lt_of_lt_of_le (UBx.out ad q) HK8.out.size, S8.out⟩
          · go_simp
            go_wp2_with fail
            refine hK.out _ _ (hS.alloc hS.size _) (fun hS => ?_)
            clear hK K
            (try simp only [Act.put, List.setIfInBounds_toArray, List.set_cons_zero, List.set_cons_succ])
            refine named (P := wpAnyH _ _ _ _ _ _ _ _) ?_
            intro xa hxa
            rw [← hxa] at hS
            obtain ⟨qb, hqb⟩ : ∃ qb, qb = x2.heap.size := ⟨_, rfl⟩
            have al : Below x2.heap.size x2 xa := by rw [hxa]; exact alloc_below _ _
            have Z := hide (show Cells xa qb [.int .i64 0, .int .i64 0, .slice none 0 0, .slice none 0 0] by rw [hxa, hqb]; exact Cells.new _ _ _)
            have J1x := hide (J1.out.below al)
            clear J1
            have J1 := J1x
            clear J1x
            have QB := hide (show w7.heap.size ≤ qb by rw [hqb]; exact LO.out)
            rw [← hqb]
            clear hxa hqb al
            refine wpAnyH_ready (rs := [3]) (by kernel_rfl) (by simp) ?_
            refine AllReadyH.cons rfl (fun K hK => ?_) AllReadyH.nil
            go_simp
            go_wp2_with fail
            refine (K1 _ _ J1.out).mono ?_
            rintro e x3 ⟨u, rfl, i2, ub, hh⟩
            have s_x3 : Below w7.heap.size w7 x3 := hS.trans (hh.mono hS.size)
            have Zx3 := hide (Z.out.below hh)
            have J2 := hide i2
            clear i2 J1
            have NQ := hide (show ∀ ad : Addr, (u.a = some ad ∨ u.b = some ad) → ¬ ad.block = qb from fun ad q => by have := (ub ad q).1; have := Z.out.1; omega)
            have UBx := hide (fun (ad : Addr) (q : u.a = some ad ∨ u.b = some ad) => (ub ad q).2)
            clear ub
            clear Z
            have Z := Zx3
            clear Zx3
            clear hh hS
            go_wp2_with fail
            refine hK.out _ _ s_x3 (fun hS => ?_)
            clear hK K s_x3
            (try simp only [Act.put, List.setIfInBounds_toArray, List.set_cons_zero, List.set_cons_succ])
            refine take_at 4 (some 37) (v := ?_) rfl rfl (by kernel_rfl) (by kernel_rfl) (by kernel_rfl) (fun _ _ _ h => h) ⟨by rfl, ?_⟩ hS ?_
            rotate_left
            · intro wq hSw; go_simp; try rfl
            simp only [Act.put, List.setIfInBounds_toArray, List.set_cons_zero, List.set_cons_succ]
            refine take_at 5 (some 42) (v := ?_) rfl rfl (by kernel_rfl) (by kernel_rfl) (by kernel_rfl) (fun _ _ _ h => h) ⟨by rfl, ?_⟩ hS ?_
            rotate_left
            · intro wq hSw; go_simp; try rfl
            simp only [Act.put, List.setIfInBounds_toArray, List.set_cons_zero, List.set_cons_succ]
            refine take_at 6 (some 43) (v := ?_) rfl rfl (by kernel_rfl) (by kernel_rfl) (by kernel_rfl) (fun _ _ _ h => h) ⟨by rfl, ?_⟩ hS ?_
            rotate_left
            · intro wq hSw; go_simp; try rfl
            simp only [Act.put, List.setIfInBounds_toArray, List.set_cons_zero, List.set_cons_succ]
            refine take_at 7 (some 44) (v := ?_) rfl rfl (by kernel_rfl) (by kernel_rfl) (by kernel_rfl) (fun _ _ _ h => h) ⟨by rfl, ?_⟩ hS ?_
            rotate_left
            · intro wq hSw; go_simp; try rfl
            simp only [Act.put, List.setIfInBounds_toArray, List.set_cons_zero, List.set_cons_succ]
            have K8 := ((((Keep.refl (fun i => i = qb) x3).setCell (g := qb) (j := 0) (fun _ => rfl) (.int .i64 X.num)).setCell (g := qb) (j := 1) (fun _ => rfl) (.int .i64 X.lsn)).setCell (g := qb) (j := 2) (fun _ => rfl) (.slice u.a X.cs.length u.c)).setCell (g := qb) (j := 3) (fun _ => rfl) (.slice u.b X.gs.length u.d)
            have C8 := (((Z.out.stored (j := 0) (by simp) (.int .i64 X.num)).stored (j := 1) (by simp) (.int .i64 X.lsn)).stored (j := 2) (by simp) (.slice u.a X.cs.length u.c)).stored (j := 3) (by simp) (.slice u.b X.gs.length u.d)
            obtain ⟨y0, z0⟩ := Z.out.get 0 _ rfl
            obtain ⟨y1, z1⟩ := Z.out.get 1 _ rfl
            obtain ⟨y2, z2⟩ := Z.out.get 2 _ rfl
            obtain ⟨y3, z3⟩ := Z.out.get 3 _ rfl
            have HK8 := hide K8
            have HC8 := hide C8
            clear K8 C8
            have QLT := hide (Z.out.1)
            have S8 := hide (hS.trans (HK8.out.below hS.size (fun i hi q => by have := QB.out; omega)))
            clear hS
            refine wpAnyH_ready (rs := [9]) (by kernel_rfl) (by simp) ?_
            refine AllReadyH.cons rfl (fun K hK => ?_) AllReadyH.nil
            go_simp
            go_wp2_with fail
            refine hK.out _ _ S8.out (fun hS => ?_)
            clear hK K
            (try simp only [Act.put, List.setIfInBounds_toArray, List.set_cons_zero, List.set_cons_succ])
            refine take_at 10 (some 8) (v := ?_) rfl rfl (by kernel_rfl) (by kernel_rfl) (by kernel_rfl) (fun _ _ _ h => h) ⟨by rfl, ?_⟩ hS ?_
            rotate_left
            · intro wq hSw; go_simp; try rfl
            simp only [Act.put, List.setIfInBounds_toArray, List.set_cons_zero, List.set_cons_succ]
            refine take_at 11 (some 9) (v := ?_) rfl rfl (by kernel_rfl) (by kernel_rfl) (by kernel_rfl) (fun _ _ _ h => h) ⟨by rfl, ?_⟩ hS ?_
            rotate_left
            · intro wq hSw; go_simp; try rfl
            simp only [Act.put, List.setIfInBounds_toArray, List.set_cons_zero, List.set_cons_succ]
            clear hS
            refine wpAnyH_done (by kernel_rfl) ?_ _
            clear y0 z0 y1 z1 y2 z2 y3 z3
            have JF := hide (J2.out.keep HK8.out (fun ad q => NQ.out ad (.inl q)) (fun ad q => NQ.out ad (.inr q)))
            go_wp2_with fail
            go_meet
            exact ⟨qb, u, rfl, rfl, rfl, HC8.out, JF.out, fun ad q => Nat.lt_of_lt_of_le (UBx.out ad q) HK8.out.size, S8.out⟩
        · go_simp
          go_wp2_with fail
          refine hK.out _ _ (hS.alloc hS.size _) (fun hS => ?_)
          clear hK K
          (try simp only [Act.put, List.setIfInBounds_toArray, List.set_cons_zero, List.set_cons_succ])
          refine named (P := wpAnyH _ _ _ _ _ _ _ _) ?_
          intro xa hxa
          rw [← hxa] at hS
          obtain ⟨qb, hqb⟩ : ∃ qb, qb = y0.heap.size := ⟨_, rfl⟩
          have al : Below y0.heap.size y0 xa := by rw [hxa]; exact alloc_below _ _
          have Z := hide (show Cells xa qb [.int .i64 0, .int .i64 0, .slice none 0 0, .slice none 0 0] by rw [hxa, hqb]; exact Cells.new _ _ _)
          have QB := hide (show w7.heap.size ≤ qb by rw [hqb]; exact LO.out)
          rw [← hqb]
          clear hxa hqb al
          refine wpAnyH_ready (rs := [1]) (by kernel_rfl) (by simp) ?_
          refine AllReadyH.cons rfl (fun K hK => ?_) AllReadyH.nil
          go_simp
          go_wp2_with fail
          refine (KL _ (I7.out.below hS)).mono ?_
          rintro e x2 ⟨u1, rfl, i1, hh⟩
          have s_x2 : Below w7.heap.size w7 x2 := hS.trans (hh.mono hS.size)
          have Zx2 := hide (Z.out.below hh)
          have J1 := hide i1
          clear i1
          clear Z
          have Z := Zx2
          clear Zx2
          clear hh hS
          go_wp2_with fail
          refine hK.out _ _ s_x2 (fun hS => ?_)
          clear hK K s_x2
          (try simp only [Act.put, List.setIfInBounds_toArray, List.set_cons_zero, List.set_cons_succ])
          refine wpAnyH_ready (rs := [3]) (by kernel_rfl) (by simp) ?_
          refine AllReadyH.cons rfl (fun K hK => ?_) AllReadyH.nil
          go_simp
          go_wp2_with fail
          refine (K1 _ _ J1.out).mono ?_
          rintro e x3 ⟨u, rfl, i2, ub, hh⟩
          have s_x3 : Below w7.heap.size w7 x3 := hS.trans (hh.mono hS.size)
          have Zx3 := hide (Z.out.below hh)
          have J2 := hide i2
          clear i2 J1
          have NQ := hide (show ∀ ad : Addr, (u.a = some ad ∨ u.b = some ad) → ¬ ad.block = qb from fun ad q => by have := (ub ad q).1; have := Z.out.1; omega)
          have UBx := hide (fun (ad : Addr) (q : u.a = some ad ∨ u.b = some ad) => (ub ad q).2)
          clear ub
          clear Z
          have Z := Zx3
          clear Zx3
          clear hh hS
          go_wp2_with fail
          refine hK.out _ _ s_x3 (fun hS => ?_)
          clear hK K s_x3
          (try simp only [Act.put, List.setIfInBounds_toArray, List.set_cons_zero, List.set_cons_succ])
          refine take_at 4 (some 37) (v := ?_) rfl rfl (by kernel_rfl) (by kernel_rfl) (by kernel_rfl) (fun _ _ _ h => h) ⟨by rfl, ?_⟩ hS ?_
          rotate_left
          · intro wq hSw; go_simp; try rfl
          simp only [Act.put, List.setIfInBounds_toArray, List.set_cons_zero, List.set_cons_succ]
          refine take_at 5 (some 42) (v := ?_) rfl rfl (by kernel_rfl) (by kernel_rfl) (by kernel_rfl) (fun _ _ _ h => h) ⟨by rfl, ?_⟩ hS ?_
          rotate_left
          · intro wq hSw; go_simp; try rfl
          simp only [Act.put, List.setIfInBounds_toArray, List.set_cons_zero, List.set_cons_succ]
          refine take_at 6 (some 43) (v := ?_) rfl rfl (by kernel_rfl) (by kernel_rfl) (by kernel_rfl) (fun _ _ _ h => h) ⟨by rfl, ?_⟩ hS ?_
          rotate_left
          · intro wq hSw; go_simp; try rfl
          simp only [Act.put, List.setIfInBounds_toArray, List.set_cons_zero, List.set_cons_succ]
          refine take_at 7 (some 44) (v := ?_) rfl rfl (by kernel_rfl) (by kernel_rfl) (by kernel_rfl) (fun _ _ _ h => h) ⟨by rfl, ?_⟩ hS ?_
          rotate_left
          · intro wq hSw; go_simp; try rfl
          simp only [Act.put, List.setIfInBounds_toArray, List.set_cons_zero, List.set_cons_succ]
          have K8 := ((((Keep.refl (fun i => i = qb) x3).setCell (g := qb) (j := 0) (fun _ => rfl) (.int .i64 X.num)).setCell (g := qb) (j := 1) (fun _ => rfl) (.int .i64 X.lsn)).setCell (g := qb) (j := 2) (fun _ => rfl) (.slice u.a X.cs.length u.c)).setCell (g := qb) (j := 3) (fun _ => rfl) (.slice u.b X.gs.length u.d)
          have C8 := (((Z.out.stored (j := 0) (by simp) (.int .i64 X.num)).stored (j := 1) (by simp) (.int .i64 X.lsn)).stored (j := 2) (by simp) (.slice u.a X.cs.length u.c)).stored (j := 3) (by simp) (.slice u.b X.gs.length u.d)
          obtain ⟨y0, z0⟩ := Z.out.get 0 _ rfl
          obtain ⟨y1, z1⟩ := Z.out.get 1 _ rfl
          obtain ⟨y2, z2⟩ := Z.out.get 2 _ rfl
          obtain ⟨y3, z3⟩ := Z.out.get 3 _ rfl
          have HK8 := hide K8
          have HC8 := hide C8
          clear K8 C8
          have QLT := hide (Z.out.1)
          have S8 := hide (hS.trans (HK8.out.below hS.size (fun i hi q => by have := QB.out; omega)))
          clear hS
          refine wpAnyH_ready (rs := [9]) (by kernel_rfl) (by simp) ?_
          refine AllReadyH.cons rfl (fun K hK => ?_) AllReadyH.nil
          go_simp
          go_wp2_with fail
          refine hK.out _ _ S8.out (fun hS => ?_)
          clear hK K
          (try simp only [Act.put, List.setIfInBounds_toArray, List.set_cons_zero, List.set_cons_succ])
          refine take_at 10 (some 8) (v := ?_) rfl rfl (by kernel_rfl) (by kernel_rfl) (by kernel_rfl) (fun _ _ _ h => h) ⟨by rfl, ?_⟩ hS ?_
          rotate_left
          · intro wq hSw; go_simp; try rfl
          simp only [Act.put, List.setIfInBounds_toArray, List.set_cons_zero, List.set_cons_succ]
          refine take_at 11 (some 9) (v := ?_) rfl rfl (by kernel_rfl) (by kernel_rfl) (by kernel_rfl) (fun _ _ _ h => h) ⟨by rfl, ?_⟩ hS ?_
          rotate_left
          · intro wq hSw; go_simp; try rfl
          simp only [Act.put, List.setIfInBounds_toArray, List.set_cons_zero, List.set_cons_succ]
          clear hS
          refine wpAnyH_done (by kernel_rfl) ?_ _
          clear y0 z0 y1 z1 y2 z2 y3 z3
          have JF := hide (J2.out.keep HK8.out (fun ad q => NQ.out ad (.inl q)) (fun ad q => NQ.out ad (.inr q)))
          go_wp2_with fail
          go_meet
          exact ⟨qb, u, rfl, rfl, rfl, HC8.out, JF.out, fun ad q => Nat.lt_of_lt_of_le (UBx.out ad q) HK8.out.size, S8.out⟩
      case rest =>
        obtain ⟨xb, u, rfl, rfl, rfl, hc, hi, hub0, hb⟩ := hcut
        have Q8 := hide hc
        have I8 := hide hi
        have C8 := hide (C7.out.below hb)
        have RA8 := hide (RA7.out.below hb)
        have RB8 := hide (RB7.out.below hb)
        have B8 := hide (B7.out.trans (hb.mono B7.out.size))
        clear hc hi hub0 hb C7 RA7 RB7 I7 B7 K1 w7
        obtain ⟨p0, -⟩ := Q8.out.get 0 _ rfl
        obtain ⟨p1, -⟩ := Q8.out.get 1 _ rfl
        obtain ⟨p2, -⟩ := Q8.out.get 2 _ rfl
        obtain ⟨p3, -⟩ := Q8.out.get 3 _ rfl
        go_upto_region 11 with (first | refine wpList_load38 RB8.out SB1.out rfl ?_ | (go_at_call 9; refine (K2 _ _ I8.out).mono ?_; rintro e w9 ⟨v, rfl, i9, vb, h9⟩))
        refine named (P := Code.wp _ _ _ _) ?_
        intro wa hwa
        obtain ⟨yb, hyb⟩ : ∃ yb, yb = w9.heap.size := ⟨_, rfl⟩
        have al : Below w9.heap.size w9 wa := by rw [hwa]; exact alloc_below _ _
        have b8a := h9.trans (al.mono h9.size)
        have Ya := hide (show Cells wa yb [.int .i64 Z.num, .int .i64 Z.lsn, .slice v.a Z.cs.length v.c, .slice v.b Z.gs.length v.d] by rw [hwa, hyb]; exact Cells.new _ _ _)
        have Va := hide (i9.below al)
        have VB := hide (show ∀ ad : Addr, (v.a = some ad ∨ v.b = some ad) → w.heap.size + 3 ≤ ad.block from fun ad q => by have := (vb ad q).1; have := RB8.out.lt; have := HN.out; omega)
        have YB := hide (show N + 2 < yb by have := RB8.out.lt; have := h9.size; omega)
        have Ca := hide (C8.out.below b8a)
        have RAa := hide (RA8.out.below b8a)
        have RBa := hide (RB8.out.below b8a)
        have Ba := hide (B8.out.trans (b8a.mono B8.out.size))
        rw [← hyb]
        clear hwa hyb al b8a i9 vb h9 p0 p1 p2 p3 Q8 I8 C8 RA8 RB8 B8 K2
        by_cases f1 : E1 = 0
        · have g1 : (E1 == 0) = true := by simpa using f1
          by_cases f2 : E2 = 0
          · have g2 : (E2 == 0) = true := by simpa using f2
            cases Y1 with
            | false =>
              go_wp2_with fail
              exact bodyPost_ret (v := .bool true) (by simp [results, Try.results5, go_sem]) rfl ⟨rfl, Ba.out⟩
            | true =>
              cases Y2 with
              | false =>
                go_wp2_with fail
                exact bodyPost_ret (v := .bool true) (by simp [results, Try.results5, go_sem]) rfl ⟨rfl, Ba.out⟩
              | true =>
                have O2 := hide (OO.out rfl rfl)
                clear OO f1 f2
                obtain ⟨la0, la1⟩ := LA1.out _ _ RAa.out
                obtain ⟨lb0, lb1⟩ := LB1.out _ _ RBa.out
                go_upto_region 14 with fail
                refine named (P := Code.wp _ _ _ _) ?_
                intro wb hwb
                have RAb := hide (show RBox wb (N + 1) 38 A2 by rw [hwb, ← EA2.out]; exact ((RAa.out.setCell 0 _)).keep ((Keep.refl (fun i => i = N + 2) _).setCell (g := N + 2) (j := 0) (fun _ => rfl) _) (by omega))
                have RBb := hide (show RBox wb (N + 2) 38 B2 by rw [hwb, ← EB2.out]; exact (RBa.out.keep ((Keep.refl (fun i => i = N + 1) _).setCell (g := N + 1) (j := 0) (fun _ => rfl) _) (by omega)).setCell 0 _)
                have Kb : Keep (fun i => i = N + 1 ∨ i = N + 2) wa wb := by rw [hwb]; exact ((Keep.refl (fun i => i = N + 1 ∨ i = N + 2) wa).setCell (g := N + 1) (j := 0) (fun _ => .inl rfl) _).setCell (g := N + 2) (j := 0) (fun _ => .inr rfl) _
                have Cb := hide (Ca.out.keep Kb (by omega))
                have Yb := hide (Ya.out.keep Kb (by have := YB.out; omega))
                have Vb := hide (Va.out.keep Kb (fun ad q => by have := VB.out ad (.inl q); have := HN.out; omega) (fun ad q => by have := VB.out ad (.inr q); have := HN.out; omega))
                have Bb := hide (Ba.out.trans (Kb.below Ba.out.size (fun i hi q => by have := HN.out; omega)))
                have Ib := hide (IC.out _ (PARG.out _ Bb.out))
                clear hwb Kb la0 la1 lb0 lb1 Ca Ya Va Ba RAa RBa g1 g2
                go_cut [13, 14, 15] (fun v7 v8 v9 w' => ∃ qb u, v7 = ptr qb ∧ v8 = .bool Y3 ∧ v9 = .bool (E3 == 0) ∧ Cells w' qb [.int .i64 V.num, .int .i64 V.lsn, .slice u.a V.cs.length u.c, .slice u.b V.gs.length u.d] ∧ PIn w' V u ∧ (∀ ad : Addr, (u.a = some ad ∨ u.b = some ad) → ad.block < w'.heap.size) ∧ Below wb.heap.size wb w')
                case first =>
                  refine wp_region_held_drew (S := fun wq => Below wb.heap.size wb wq) (by kernel_rfl) (Below.refl _ _).drew (fun hS => ?_)
                  generalize wb.drew = y0 at *
                  refine take_at 0 (some 73) (v := ?_) rfl rfl (by kernel_rfl) (by kernel_rfl) (by kernel_rfl) (fun _ _ _ h => h) ⟨by rfl, ?_⟩ hS ?_
                  rotate_left
                  · intro wq hSw; have qq := Cb.out.below hSw; obtain ⟨q0, _⟩ := qq.get 0 _ rfl; obtain ⟨q1, _⟩ := qq.get 1 _ rfl; obtain ⟨q2, _⟩ := qq.get 2 _ rfl; obtain ⟨q3, _⟩ := qq.get 3 _ rfl; clear qq; go_simp; try rfl
                  simp only [Act.put, List.setIfInBounds_toArray, List.set_cons_zero, List.set_cons_succ]
                  refine take_at 2 (some 75) (v := .agg B2) rfl rfl (by kernel_rfl) (by kernel_rfl) (by kernel_rfl) (fun _ _ _ h => h) ⟨by rfl, fun wq hSw => exec_load38 rfl rfl (rb_at (RBb.out.below hSw)) SB2.out⟩ hS ?_
                  simp only [Act.put, List.setIfInBounds_toArray, List.set_cons_zero, List.set_cons_succ]
                  have LO := hide hS.size
                  refine wpAnyH_ready (rs := [1, 8]) (by kernel_rfl) (by simp) ?_
                  refine AllReadyH.cons rfl (fun K hK => ?_) (AllReadyH.cons rfl (fun K hK => ?_) AllReadyH.nil)
                  · clear LO
                    go_simp
                    go_wp2_with fail
                    refine (KL _ (Ib.out.below hS)).mono ?_
                    rintro e x2 ⟨u1, rfl, i1, hh⟩
                    have s_x2 : Below wb.heap.size wb x2 := hS.trans (hh.mono hS.size)
                    have J1 := hide i1
                    clear i1
                    clear hh hS
                    go_wp2_with fail
                    refine hK.out _ _ s_x2 (fun hS => ?_)
                    clear hK K s_x2
                    (try simp only [Act.put, List.setIfInBounds_toArray, List.set_cons_zero, List.set_cons_succ])
                    have LO := hide hS.size
                    refine wpAnyH_ready (rs := [3, 8]) (by kernel_rfl) (by simp) ?_
                    refine AllReadyH.cons rfl (fun K hK => ?_) (AllReadyH.cons rfl (fun K hK => ?_) AllReadyH.nil)
                    · clear LO
                      go_simp
                      go_wp2_with fail
                      refine (K3 _ _ J1.out).mono ?_
                      rintro e x3 ⟨u, rfl, i2, ub, hh⟩
                      have s_x3 : Below wb.heap.size wb x3 := hS.trans (hh.mono hS.size)
                      have J2 := hide i2
                      clear i2 J1
                      have UB := hide ub
                      clear ub
                      clear hh hS
                      go_wp2_with fail
                      refine hK.out _ _ s_x3 (fun hS => ?_)
                      clear hK K s_x3
                      (try simp only [Act.put, List.setIfInBounds_toArray, List.set_cons_zero, List.set_cons_succ])
                      refine take_at 4 (some 72) (v := ?_) rfl rfl (by kernel_rfl) (by kernel_rfl) (by kernel_rfl) (fun _ _ _ h => h) ⟨by rfl, ?_⟩ hS ?_
                      rotate_left
                      · intro wq hSw; go_simp; try rfl
                      simp only [Act.put, List.setIfInBounds_toArray, List.set_cons_zero, List.set_cons_succ]
                      refine take_at 5 (some 77) (v := ?_) rfl rfl (by kernel_rfl) (by kernel_rfl) (by kernel_rfl) (fun _ _ _ h => h) ⟨by rfl, ?_⟩ hS ?_
                      rotate_left
                      · intro wq hSw; go_simp; try rfl
                      simp only [Act.put, List.setIfInBounds_toArray, List.set_cons_zero, List.set_cons_succ]
                      refine take_at 6 (some 78) (v := ?_) rfl rfl (by kernel_rfl) (by kernel_rfl) (by kernel_rfl) (fun _ _ _ h => h) ⟨by rfl, ?_⟩ hS ?_
                      rotate_left
                      · intro wq hSw; go_simp; try rfl
                      simp only [Act.put, List.setIfInBounds_toArray, List.set_cons_zero, List.set_cons_succ]
                      refine take_at 7 (some 79) (v := ?_) rfl rfl (by kernel_rfl) (by kernel_rfl) (by kernel_rfl) (fun _ _ _ h => h) ⟨by rfl, ?_⟩ hS ?_
                      rotate_left
                      · intro wq hSw; go_simp; try rfl
                      simp only [Act.put, List.setIfInBounds_toArray, List.set_cons_zero, List.set_cons_succ]
                      have iu0 := J2
                      clear J2
                      have LO := hide hS.size
                      refine wpAnyH_ready (rs := [8]) (by kernel_rfl) (by simp) ?_
                      refine AllReadyH.cons rfl (fun K hK => ?_) AllReadyH.nil
                      go_simp
                      go_wp2_with fail
                      refine hK.out _ _ (hS.alloc hS.size _) (fun hS => ?_)
                      clear hK K
                      (try simp only [Act.put, List.setIfInBounds_toArray, List.set_cons_zero, List.set_cons_succ])
                      refine named (P := wpAnyH _ _ _ _ _ _ _ _) ?_
                      intro xa hxa
                      rw [← hxa] at hS
                      obtain ⟨qb, hqb⟩ : ∃ qb, qb = x3.heap.size := ⟨_, rfl⟩
                      have al : Below x3.heap.size x3 xa := by rw [hxa]; exact alloc_below _ _
                      have Z := hide (show Cells xa qb [.int .i64 0, .int .i64 0, .slice none 0 0, .slice none 0 0] by rw [hxa, hqb]; exact Cells.new _ _ _)
                      have J2 := hide (iu0.out.below al)
                      have NQ := hide (show ∀ ad : Addr, (u.a = some ad ∨ u.b = some ad) → ¬ ad.block = qb from fun ad q => by have := (UB.out ad q).2; omega)
                      have QB := hide (show wb.heap.size ≤ qb by rw [hqb]; exact LO.out)
                      have UBx := hide (show ∀ ad : Addr, (u.a = some ad ∨ u.b = some ad) → ad.block < xa.heap.size from fun ad q => Nat.lt_of_lt_of_le (UB.out ad q).2 al.size)
                      rw [← hqb]
                      clear hxa hqb al iu0 LO
                      have K8 := ((((Keep.refl (fun i => i = qb) xa).setCell (g := qb) (j := 0) (fun _ => rfl) (.int .i64 V.num)).setCell (g := qb) (j := 1) (fun _ => rfl) (.int .i64 V.lsn)).setCell (g := qb) (j := 2) (fun _ => rfl) (.slice u.a V.cs.length u.c)).setCell (g := qb) (j := 3) (fun _ => rfl) (.slice u.b V.gs.length u.d)
                      have C8 := (((Z.out.stored (j := 0) (by simp) (.int .i64 V.num)).stored (j := 1) (by simp) (.int .i64 V.lsn)).stored (j := 2) (by simp) (.slice u.a V.cs.length u.c)).stored (j := 3) (by simp) (.slice u.b V.gs.length u.d)
                      obtain ⟨y0, z0⟩ := Z.out.get 0 _ rfl
                      obtain ⟨y1, z1⟩ := Z.out.get 1 _ rfl
                      obtain ⟨y2, z2⟩ := Z.out.get 2 _ rfl
                      obtain ⟨y3, z3⟩ := Z.out.get 3 _ rfl
                      have HK8 := hide K8
                      have HC8 := hide C8
                      clear K8 C8
                      have QLT := hide (Z.out.1)
                      have S8 := hide (hS.trans (HK8.out.below hS.size (fun i hi q => by have := QB.out; omega)))
                      clear hS
                      refine wpAnyH_ready (rs := [9]) (by kernel_rfl) (by simp) ?_
                      refine AllReadyH.cons rfl (fun K hK => ?_) AllReadyH.nil
                      go_simp
                      go_wp2_with fail
                      refine hK.out _ _ S8.out (fun hS => ?_)
                      clear hK K
                      (try simp only [Act.put, List.setIfInBounds_toArray, List.set_cons_zero, List.set_cons_succ])
                      refine take_at 10 (some 14) (v := ?_) rfl rfl (by kernel_rfl) (by kernel_rfl) (by kernel_rfl) (fun _ _ _ h => h) ⟨by rfl, ?_⟩ hS ?_
                      rotate_left
                      · intro wq hSw; go_simp; try rfl
                      simp only [Act.put, List.setIfInBounds_toArray, List.set_cons_zero, List.set_cons_succ]
                      refine take_at 11 (some 15) (v := ?_) rfl rfl (by kernel_rfl) (by kernel_rfl) (by kernel_rfl) (fun _ _ _ h => h) ⟨by rfl, ?_⟩ hS ?_
                      rotate_left
                      · intro wq hSw; go_simp; try rfl
                      simp only [Act.put, List.setIfInBounds_toArray, List.set_cons_zero, List.set_cons_succ]
                      clear hS
                      refine wpAnyH_done (by kernel_rfl) ?_ _
                      clear y0 z0 y1 z1 y2 z2 y3 z3
                      have JF := hide (J2.out.keep HK8.out (fun ad q => NQ.out ad (.inl q)) (fun ad q => NQ.out ad (.inr q)))
                      go_wp2_with fail
                      go_meet
                      exact ⟨qb, u, rfl, rfl, rfl, HC8.out, JF.out, fun ad q => Nat.lt_of_lt_of_le (UBx.out ad q) HK8.out.size, S8.out⟩
                    · go_simp
                      go_wp2_with fail
                      refine hK.out _ _ (hS.alloc hS.size _) (fun hS => ?_)
                      clear hK K
                      (try simp only [Act.put, List.setIfInBounds_toArray, List.set_cons_zero, List.set_cons_succ])
                      refine named (P := wpAnyH _ _ _ _ _ _ _ _) ?_
                      intro xa hxa
                      rw [← hxa] at hS
                      obtain ⟨qb, hqb⟩ : ∃ qb, qb = x2.heap.size := ⟨_, rfl⟩
                      have al : Below x2.heap.size x2 xa := by rw [hxa]; exact alloc_below _ _
                      have Z := hide (show Cells xa qb [.int .i64 0, .int .i64 0, .slice none 0 0, .slice none 0 0] by rw [hxa, hqb]; exact Cells.new _ _ _)
                      have J1x := hide (J1.out.below al)
                      clear J1
                      have J1 := J1x
                      clear J1x
                      have QB := hide (show wb.heap.size ≤ qb by rw [hqb]; exact LO.out)
                      rw [← hqb]
                      clear hxa hqb al
                      refine wpAnyH_ready (rs := [3]) (by kernel_rfl) (by simp) ?_
                      refine AllReadyH.cons rfl (fun K hK => ?_) AllReadyH.nil
                      go_simp
                      go_wp2_with fail
                      refine (K3 _ _ J1.out).mono ?_
                      rintro e x3 ⟨u, rfl, i2, ub, hh⟩
                      have s_x3 : Below wb.heap.size wb x3 := hS.trans (hh.mono hS.size)
                      have Zx3 := hide (Z.out.below hh)
                      have J2 := hide i2
                      clear i2 J1
                      have NQ := hide (show ∀ ad : Addr, (u.a = some ad ∨ u.b = some ad) → ¬ ad.block = qb from fun ad q => by have := (ub ad q).1; have := Z.out.1; omega)
                      have UBx := hide (fun (ad : Addr) (q : u.a = some ad ∨ u.b = some ad) => (ub ad q).2)
                      clear ub
                      clear Z
                      have Z := Zx3
                      clear Zx3
                      clear hh hS
                      go_wp2_with fail
                      refine hK.out _ _ s_x3 (fun hS => ?_)
                      clear hK K s_x3
                      (try simp only [Act.put, List.setIfInBounds_toArray, List.set_cons_zero, List.set_cons_succ])
                      refine take_at 4 (some 72) (v := ?_) rfl rfl (by kernel_rfl) (by kernel_rfl) (by kernel_rfl) (fun _ _ _ h => h) ⟨by rfl, ?_⟩ hS ?_
                      rotate_left
                      · intro wq hSw; go_simp; try rfl
                      simp only [Act.put, List.setIfInBounds_toArray, List.set_cons_zero, List.set_cons_succ]
                      refine take_at 5 (some 77) (v := ?_) rfl rfl (by kernel_rfl) (by kernel_rfl) (by kernel_rfl) (fun _ _ _ h => h) ⟨by rfl, ?_⟩ hS ?_
                      rotate_left
                      · intro wq hSw; go_simp; try rfl
                      simp only [Act.put, List.setIfInBounds_toArray, List.set_cons_zero, List.set_cons_succ]
                      refine take_at 6 (some 78) (v := ?_) rfl rfl (by kernel_rfl) (by kernel_rfl) (by kernel_rfl) (fun _ _ _ h => h) ⟨by rfl, ?_⟩ hS ?_
                      rotate_left
                      · intro wq hSw; go_simp; try rfl
                      simp only [Act.put, List.setIfInBounds_toArray, List.set_cons_zero, List.set_cons_succ]
                      refine take_at 7 (some 79) (v := ?_) rfl rfl (by kernel_rfl) (by kernel_rfl) (by kernel_rfl) (fun _ _ _ h => h) ⟨by rfl, ?_⟩ hS ?_
                      rotate_left
                      · intro wq hSw; go_simp; try rfl
                      simp only [Act.put, List.setIfInBounds_toArray, List.set_cons_zero, List.set_cons_succ]
                      have K8 := ((((Keep.refl (fun i => i = qb) x3).setCell (g := qb) (j := 0) (fun _ => rfl) (.int .i64 V.num)).setCell (g := qb) (j := 1) (fun _ => rfl) (.int .i64 V.lsn)).setCell (g := qb) (j := 2) (fun _ => rfl) (.slice u.a V.cs.length u.c)).setCell (g := qb) (j := 3) (fun _ => rfl) (.slice u.b V.gs.length u.d)
                      have C8 := (((Z.out.stored (j := 0) (by simp) (.int .i64 V.num)).stored (j := 1) (by simp) (.int .i64 V.lsn)).stored (j := 2) (by simp) (.slice u.a V.cs.length u.c)).stored (j := 3) (by simp) (.slice u.b V.gs.length u.d)
                      obtain ⟨y0, z0⟩ := Z.out.get 0 _ rfl
                      obtain ⟨y1, z1⟩ := Z.out.get 1 _ rfl
                      obtain ⟨y2, z2⟩ := Z.out.get 2 _ rfl
                      obtain ⟨y3, z3⟩ := Z.out.get 3 _ rfl
                      have HK8 := hide K8
                      have HC8 := hide C8
                      clear K8 C8
                      have QLT := hide (Z.out.1)
                      have S8 := hide (hS.trans (HK8.out.below hS.size (fun i hi q => by have := QB.out; omega)))
                      clear hS
                      refine wpAnyH_ready (rs := [9]) (by kernel_rfl) (by simp) ?_
                      refine AllReadyH.cons rfl (fun K hK => ?_) AllReadyH.nil
                      go_simp
                      go_wp2_with fail
                      refine hK.out _ _ S8.out (fun hS => ?_)
                      clear hK K
                      (try simp only [Act.put, List.setIfInBounds_toArray, List.set_cons_zero, List.set_cons_succ])
                      refine take_at 10 (some 14) (v := ?_) rfl rfl (by kernel_rfl) (by kernel_rfl) (by kernel_rfl) (fun _ _ _ h => h) ⟨by rfl, ?_⟩ hS ?_
                      rotate_left
                      · intro wq hSw; go_simp; try rfl
                      simp only [Act.put, List.setIfInBounds_toArray, List.set_cons_zero, List.set_cons_succ]
                      refine take_at 11 (some 15) (v := ?_) rfl rfl (by kernel_rfl) (by kernel_rfl) (by kernel_rfl) (fun _ _ _ h => h) ⟨by rfl, ?_⟩ hS ?_
                      rotate_left
                      · intro wq hSw; go_simp; try rfl
                      simp only [Act.put, List.setIfInBounds_toArray, List.set_cons_zero, List.set_cons_succ]
                      clear hS
                      refine wpAnyH_done (by kernel_rfl) ?_ _
                      clear y0 z0 y1 z1 y2 z2 y3 z3
                      have JF := hide (J2.out.keep HK8.out (fun ad q => NQ.out ad (.inl q)) (fun ad q => NQ.out ad (.inr q)))
                      go_wp2_with fail
                      go_meet
                      exact ⟨qb, u, rfl, rfl, rfl, HC8.out, JF.out, fun ad q => Nat.lt_of_lt_of_le (UBx.out ad q) HK8.out.size, S8.out⟩
                  · go_simp
                    go_wp2_with fail
                    refine hK.out _ _ (hS.alloc hS.size _) (fun hS => ?_)
                    clear hK K
                    (try simp only [Act.put, List.setIfInBounds_toArray, List.set_cons_zero, List.set_cons_succ])
                    refine named (P := wpAnyH _ _ _ _ _ _ _ _) ?_
                    intro xa hxa
                    rw [← hxa] at hS
                    obtain ⟨qb, hqb⟩ : ∃ qb, qb = y0.heap.size := ⟨_, rfl⟩
                    have al : Below y0.heap.size y0 xa := by rw [hxa]; exact alloc_below _ _
                    have Z := hide (show Cells xa qb [.int .i64 0, .int .i64 0, .slice none 0 0, .slice none 0 0] by rw [hxa, hqb]; exact Cells.new _ _ _)
                    have QB := hide (show wb.heap.size ≤ qb by rw [hqb]; exact LO.out)
                    rw [← hqb]
                    clear hxa hqb al
                    refine wpAnyH_ready (rs := [1]) (by kernel_rfl) (by simp) ?_
                    refine AllReadyH.cons rfl (fun K hK => ?_) AllReadyH.nil
                    go_simp
                    go_wp2_with fail
                    refine (KL _ (Ib.out.below hS)).mono ?_
                    rintro e x2 ⟨u1, rfl, i1, hh⟩
                    have s_x2 : Below wb.heap.size wb x2 := hS.trans (hh.mono hS.size)
                    have Zx2 := hide (Z.out.below hh)
                    have J1 := hide i1
                    clear i1
                    clear Z
                    have Z := Zx2
                    clear Zx2
                    clear hh hS
                    go_wp2_with fail
                    refine hK.out _ _ s_x2 (fun hS => ?_)
                    clear hK K s_x2
                    (try simp only [Act.put, List.setIfInBounds_toArray, List.set_cons_zero, List.set_cons_succ])
                    refine wpAnyH_ready (rs := [3]) (by kernel_rfl) (by simp) ?_
                    refine AllReadyH.cons rfl (fun K hK => ?_) AllReadyH.nil
                    go_simp
                    go_wp2_with fail
                    refine (K3 _ _ J1.out).mono ?_
                    rintro e x3 ⟨u, rfl, i2, ub, hh⟩
                    have s_x3 : Below wb.heap.size wb x3 := hS.trans (hh.mono hS.size)
                    have Zx3 := hide (Z.out.below hh)
                    have J2 := hide i2
                    clear i2 J1
                    have NQ := hide (show ∀ ad : Addr, (u.a = some ad ∨ u.b = some ad) → ¬ ad.block = qb from fun ad q => by have := (ub ad q).1; have := Z.out.1; omega)
                    have UBx := hide (fun (ad : Addr) (q : u.a = some ad ∨ u.b = some ad) => (ub ad q).2)
                    clear ub
                    clear Z
                    have Z := Zx3
                    clear Zx3
                    clear hh hS
                    go_wp2_with fail
                    refine hK.out _ _ s_x3 (fun hS => ?_)
                    clear hK K s_x3
                    (try simp only [Act.put, List.setIfInBounds_toArray, List.set_cons_zero, List.set_cons_succ])
                    refine take_at 4 (some 72) (v := ?_) rfl rfl (by kernel_rfl) (by kernel_rfl) (by kernel_rfl) (fun _ _ _ h => h) ⟨by rfl, ?_⟩ hS ?_
                    rotate_left
                    · intro wq hSw; go_simp; try rfl
                    simp only [Act.put, List.setIfInBounds_toArray, List.set_cons_zero, List.set_cons_succ]
                    refine take_at 5 (some 77) (v := ?_) rfl rfl (by kernel_rfl) (by kernel_rfl) (by kernel_rfl) (fun _ _ _ h => h) ⟨by rfl, ?_⟩ hS ?_
                    rotate_left
                    · intro wq hSw; go_simp; try rfl
                    simp only [Act.put, List.setIfInBounds_toArray, List.set_cons_zero, List.set_cons_succ]
                    refine take_at 6 (some 78) (v := ?_) rfl rfl (by kernel_rfl) (by kernel_rfl) (by kernel_rfl) (fun _ _ _ h => h) ⟨by rfl, ?_⟩ hS ?_
                    rotate_left
                    · intro wq hSw; go_simp; try rfl
                    simp only [Act.put, List.setIfInBounds_toArray, List.set_cons_zero, List.set_cons_succ]
                    refine take_at 7 (some 79) (v := ?_) rfl rfl (by kernel_rfl) (by kernel_rfl) (by kernel_rfl) (fun _ _ _ h => h) ⟨by rfl, ?_⟩ hS ?_
                    rotate_left
                    · intro wq hSw; go_simp; try rfl
                    simp only [Act.put, List.setIfInBounds_toArray, List.set_cons_zero, List.set_cons_succ]
                    have K8 := ((((Keep.refl (fun i => i = qb) x3).setCell (g := qb) (j := 0) (fun _ => rfl) (.int .i64 V.num)).setCell (g := qb) (j := 1) (fun _ => rfl) (.int .i64 V.lsn)).setCell (g := qb) (j := 2) (fun _ => rfl) (.slice u.a V.cs.length u.c)).setCell (g := qb) (j := 3) (fun _ => rfl) (.slice u.b V.gs.length u.d)
                    have C8 := (((Z.out.stored (j := 0) (by simp) (.int .i64 V.num)).stored (j := 1) (by simp) (.int .i64 V.lsn)).stored (j := 2) (by simp) (.slice u.a V.cs.length u.c)).stored (j := 3) (by simp) (.slice u.b V.gs.length u.d)
                    obtain ⟨y0, z0⟩ := Z.out.get 0 _ rfl
                    obtain ⟨y1, z1⟩ := Z.out.get 1 _ rfl
                    obtain ⟨y2, z2⟩ := Z.out.get 2 _ rfl
                    obtain ⟨y3, z3⟩ := Z.out.get 3 _ rfl
                    have HK8 := hide K8
                    have HC8 := hide C8
                    clear K8 C8
                    have QLT := hide (Z.out.1)
                    have S8 := hide (hS.trans (HK8.out.below hS.size (fun i hi q => by have := QB.out; omega)))
                    clear hS
                    refine wpAnyH_ready (rs := [9]) (by kernel_rfl) (by simp) ?_
                    refine AllReadyH.cons rfl (fun K hK => ?_) AllReadyH.nil
                    go_simp
                    go_wp2_with fail
                    refine hK.out _ _ S8.out (fun hS => ?_)
                    clear hK K
                    (try simp only [Act.put, List.setIfInBounds_toArray, List.set_cons_zero, List.set_cons_succ])
                    refine take_at 10 (some 14) (v := ?_) rfl rfl (by kernel_rfl) (by kernel_rfl) (by kernel_rfl) (fun _ _ _ h => h) ⟨by rfl, ?_⟩ hS ?_
                    rotate_left
                    · intro wq hSw; go_simp; try rfl
                    simp only [Act.put, List.setIfInBounds_toArray, List.set_cons_zero, List.set_cons_succ]
                    refine take_at 11 (some 15) (v := ?_) rfl rfl (by kernel_rfl) (by kernel_rfl) (by kernel_rfl) (fun _ _ _ h => h) ⟨by rfl, ?_⟩ hS ?_
                    rotate_left
                    · intro wq hSw; go_simp; try rfl
                    simp only [Act.put, List.setIfInBounds_toArray, List.set_cons_zero, List.set_cons_succ]
                    clear hS
                    refine wpAnyH_done (by kernel_rfl) ?_ _
                    clear y0 z0 y1 z1 y2 z2 y3 z3
                    have JF := hide (J2.out.keep HK8.out (fun ad q => NQ.out ad (.inl q)) (fun ad q => NQ.out ad (.inr q)))
                    go_wp2_with fail
                    go_meet
                    exact ⟨qb, u, rfl, rfl, rfl, HC8.out, JF.out, fun ad q => Nat.lt_of_lt_of_le (UBx.out ad q) HK8.out.size, S8.out⟩
                case rest =>
                  obtain ⟨vb, u, rfl, rfl, rfl, hc, hi, hub0, hb⟩ := hcut
                  have Qc := hide hc
                  have Ic := hide hi
                  have RAc := hide (RAb.out.below hb)
                  have Yc := hide (Yb.out.below hb)
                  have Vc := hide (Vb.out.below hb)
                  have Bc := hide (Bb.out.trans (hb.mono Bb.out.size))
                  clear hc hi hub0 hb Cb RAb RBb Ib Bb Yb Vb K3 KL
                  by_cases f3 : E3 = 0
                  · have g3 : (E3 == 0) = true := by simpa using f3
                    obtain ⟨p0, -⟩ := Qc.out.get 0 _ rfl
                    obtain ⟨p1, -⟩ := Qc.out.get 1 _ rfl
                    obtain ⟨p2, -⟩ := Qc.out.get 2 _ rfl
                    obtain ⟨p3, -⟩ := Qc.out.get 3 _ rfl
                    go_upto_region 18 with (first | refine wpList_load38 RAc.out SA2.out rfl ?_ | (go_at_call 9; refine (K4 _ _ Ic.out).mono ?_; rintro e wd ⟨z, rfl, id, zb, hd⟩))
                    refine named (P := Code.wp _ _ _ _) ?_
                    intro we hwe
                    obtain ⟨wb2, hwb2⟩ : ∃ yb, yb = wd.heap.size := ⟨_, rfl⟩
                    have al : Below wd.heap.size wd we := by rw [hwe]; exact alloc_below _ _
                    have bce := hd.trans (al.mono hd.size)
                    have We := hide (show Cells we wb2 [.int .i64 U.num, .int .i64 U.lsn, .slice z.a U.cs.length z.c, .slice z.b U.gs.length z.d] by rw [hwe, hwb2]; exact Cells.new _ _ _)
                    have Ze := hide (id.below al)
                    have Ye := hide (Yc.out.below bce)
                    have Ve := hide (Vc.out.below bce)
                    have Be := hide (Bc.out.trans (bce.mono Bc.out.size))
                    rw [← hwb2]
                    clear hwe hwb2 al bce id zb hd p0 p1 p2 p3 Qc Ic RAc Yc Vc Bc K4
                    by_cases f4 : E4 = 0
                    · have g4 : (E4 == 0) = true := by simpa using f4
                      obtain ⟨s1, s2, s3⟩ := O2.out f3 f4
                      subst s1 s2 s3
                      clear O2 f3 f4
                      go_upto_region 20 with fail
                      refine wp_region_held_drew (S := fun wq => Below we.heap.size we wq) (by kernel_rfl) (Below.refl _ _).drew (fun hS => ?_)
                      refine take_at 0 (some 91) (v := ?_) rfl rfl (by kernel_rfl) (by kernel_rfl) (by kernel_rfl) (fun _ _ _ h => h) ⟨by rfl, ?_⟩ hS ?_
                      rotate_left
                      · intro wq hSw; go_simp; try rfl
                      simp only [Act.put, List.setIfInBounds_toArray, List.set_cons_zero, List.set_cons_succ]
                      refine take_at 1 (some 92) (v := ?_) rfl rfl (by kernel_rfl) (by kernel_rfl) (by kernel_rfl) (fun _ _ _ h => h) ⟨by rfl, ?_⟩ hS ?_
                      rotate_left
                      · intro wq hSw; go_simp; try rfl
                      simp only [Act.put, List.setIfInBounds_toArray, List.set_cons_zero, List.set_cons_succ]
                      refine take_at 2 (some 93) (v := ?_) rfl rfl (by kernel_rfl) (by kernel_rfl) (by kernel_rfl) (fun _ _ _ h => h) ⟨by rfl, ?_⟩ hS ?_
                      rotate_left
                      · intro wq hSw; go_simp; try rfl
                      simp only [Act.put, List.setIfInBounds_toArray, List.set_cons_zero, List.set_cons_succ]
                      refine take_at 3 (some 94) (v := ?_) rfl rfl (by kernel_rfl) (by kernel_rfl) (by kernel_rfl) (fun _ _ _ h => h) ⟨by rfl, ?_⟩ hS ?_
                      rotate_left
                      · intro wq hSw; go_simp; try rfl
                      simp only [Act.put, List.setIfInBounds_toArray, List.set_cons_zero, List.set_cons_succ]
                      refine take_at 4 (some 95) (v := ?_) rfl rfl (by kernel_rfl) (by kernel_rfl) (by kernel_rfl) (fun _ _ _ h => h) ⟨by rfl, ?_⟩ hS ?_
                      rotate_left
                      · intro wq hSw; go_simp; try rfl
                      simp only [Act.put, List.setIfInBounds_toArray, List.set_cons_zero, List.set_cons_succ]
                      refine take_at 5 (some 96) (v := ?_) rfl rfl (by kernel_rfl) (by kernel_rfl) (by kernel_rfl) (fun _ _ _ h => h) ⟨by rfl, ?_⟩ hS ?_
                      rotate_left
                      · intro wq hSw; have qq := We.out.below hSw; obtain ⟨q0, _⟩ := qq.get 0 _ rfl; obtain ⟨q1, _⟩ := qq.get 1 _ rfl; obtain ⟨q2, _⟩ := qq.get 2 _ rfl; obtain ⟨q3, _⟩ := qq.get 3 _ rfl; clear qq; go_simp; try rfl
                      simp only [Act.put, List.setIfInBounds_toArray, List.set_cons_zero, List.set_cons_succ]
                      refine take_at 7 (some 98) (v := ?_) rfl rfl (by kernel_rfl) (by kernel_rfl) (by kernel_rfl) (fun _ _ _ h => h) ⟨by rfl, ?_⟩ hS ?_
                      rotate_left
                      · intro wq hSw; have qq := Ye.out.below hSw; obtain ⟨q0, _⟩ := qq.get 0 _ rfl; obtain ⟨q1, _⟩ := qq.get 1 _ rfl; obtain ⟨q2, _⟩ := qq.get 2 _ rfl; obtain ⟨q3, _⟩ := qq.get 3 _ rfl; clear qq; go_simp; try rfl
                      simp only [Act.put, List.setIfInBounds_toArray, List.set_cons_zero, List.set_cons_succ]
                      refine wpAnyH_ready (rs := [6]) (by kernel_rfl) (by simp) ?_
                      refine AllReadyH.cons rfl (fun K hK => ?_) AllReadyH.nil
                      go_simp
                      go_wp2_with fail
                      refine (KB _ _).mono ?_
                      rintro e x1 ⟨rfl, hh⟩
                      have s_x1 : Below we.heap.size we x1 := hS.trans (hh.mono hS.size)
                      clear hh hS
                      go_wp2_with fail
                      refine hK.out _ _ s_x1 (fun hS => ?_)
                      clear hK K s_x1
                      (try simp only [Act.put, List.setIfInBounds_toArray, List.set_cons_zero, List.set_cons_succ])
                      refine wpAnyH_ready (rs := [8]) (by kernel_rfl) (by simp) ?_
                      refine AllReadyH.cons rfl (fun K hK => ?_) AllReadyH.nil
                      go_simp
                      go_wp2_with fail
                      refine (KB _ _).mono ?_
                      rintro e x2 ⟨rfl, hh⟩
                      have s_x2 : Below we.heap.size we x2 := hS.trans (hh.mono hS.size)
                      clear hh hS
                      go_wp2_with fail
                      refine hK.out _ _ s_x2 (fun hS => ?_)
                      clear hK K s_x2
                      (try simp only [Act.put, List.setIfInBounds_toArray, List.set_cons_zero, List.set_cons_succ])
                      refine wpAnyH_ready (rs := [9]) (by kernel_rfl) (by simp) ?_
                      refine AllReadyH.cons rfl (fun K hK => ?_) AllReadyH.nil
                      go_simp
                      go_wp2_with fail
                      refine (KS _ _ _ (Ze.out.below hS) (Ve.out.below hS)).mono ?_
                      rintro e x3 ⟨rfl, hh⟩
                      have s_x3 : Below we.heap.size we x3 := hS.trans (hh.mono hS.size)
                      clear hh hS
                      go_wp2_with fail
                      refine hK.out _ _ s_x3 (fun hS => ?_)
                      clear hK K s_x3
                      (try simp only [Act.put, List.setIfInBounds_toArray, List.set_cons_zero, List.set_cons_succ])
                      refine take_at 10 (some 101) (v := ?_) rfl rfl (by kernel_rfl) (by kernel_rfl) (by kernel_rfl) (fun _ _ _ h => h) ⟨by rfl, ?_⟩ hS ?_
                      rotate_left
                      · intro wq hSw; go_simp; try rfl
                      simp only [Act.put, List.setIfInBounds_toArray, List.set_cons_zero, List.set_cons_succ]
                      refine take_at 11 (some 6) (v := ?_) rfl rfl (by kernel_rfl) (by kernel_rfl) (by kernel_rfl) (fun _ _ _ h => h) ⟨by rfl, ?_⟩ hS ?_
                      rotate_left
                      · intro wq hSw; go_simp; try rfl
                      simp only [Act.put, List.setIfInBounds_toArray, List.set_cons_zero, List.set_cons_succ]
                      have F7 := hide hS
                      clear hS
                      refine wpAnyH_done (by kernel_rfl) ?_ _
                      go_wp2_with fail
                      exact bodyPost_ret (v := .bool true) (by simp [results, Try.results5, go_sem]) rfl ⟨rfl, Be.out.trans (F7.out.mono Be.out.size)⟩
                    · have g4 : (E4 == 0) = false := by simpa using f4
                      go_wp2_with fail
                      exact bodyPost_ret (v := .bool true) (by simp [results, Try.results5, go_sem]) rfl ⟨rfl, Be.out⟩
                  · have g3 : (E3 == 0) = false := by simpa using f3
                    go_wp2_with fail
                    exact bodyPost_ret (v := .bool true) (by simp [results, Try.results5, go_sem]) rfl ⟨rfl, Bc.out⟩
          · have g2 : (E2 == 0) = false := by simpa using f2
            go_wp2_with fail
            exact bodyPost_ret (v := .bool true) (by simp [results, Try.results5, go_sem]) rfl ⟨rfl, Ba.out⟩
        · have g1 : (E1 == 0) = false := by simpa using f1
          go_wp2_with fail
          exact bodyPost_ret (v := .bool true) (by simp [results, Try.results5, go_sem]) rfl ⟨rfl, Ba.out⟩
end Go.Proofs.Ytoocbpbaieedmaa
