import Derived.Test.YtblngphjoafidaaAn9a
namespace Go.Proofs.Ytblngphjoafidaa
open Go.RowKit Go.QK Go.Maps Go.QM Go.QT
set_option maxRecDepth 100000
set_option maxHeartbeats 16000000 in
theorem step_any (kd wh pg dr lsn : Int) (la da : Option Addr) (nL lc nD dc N : Nat) (F : FoundM) (w : World) (h : StepIn w N la lc da dc F lsn) (hnL : nL = F.live.length) (hnD : nD = F.dirty.length) :
    Calls Try.prog 13 #[.agg #[.int .i64 kd, .int .i64 wh, .int .i64 pg, .int .i64 dr], .int .i64 lsn, .agg (fdA (.slice la nL lc) (.slice da nD dc) F)] w (StepPost w N F lsn) := by
  unfold StepPost
  have HI := hide h
  have HNL := hide hnL
  have HND := hide hnD
  have R20 := hide (show ∀ w, Calls Try.prog 7 #[.int .i64 pg, .int .i64 20] w _ from fun w => rest_any pg 20 (by omega) (by omega) w)
  have R7 := hide (show ∀ w, Calls Try.prog 7 #[.int .i64 pg, .int .i64 7] w _ from fun w => rest_any pg 7 (by omega) (by omega) w)
  have R12 := hide (show ∀ w, Calls Try.prog 7 #[.int .i64 kd, .int .i64 12] w _ from fun w => rest_any kd 12 (by omega) (by omega) w)
  have hn32 : nL ≤ 32 := by rw [hnL]; exact h.few
  have hn64 : nD ≤ 64 := by rw [hnD]; exact h.dl
  have hl81 := h.l1
  clear h hnL hnD
  go_enter Try.func13, Try.ntmps13
  go_upto_region 1 with fail
  refine named (P := Code.wp _ _ _ _) ?_
  intro w0 hw0
  obtain ⟨mb, hmb⟩ : ∃ b, b = w.heap.size := ⟨_, rfl⟩
  obtain ⟨fb, hfb⟩ : ∃ b, b = w.heap.size + 1 := ⟨_, rfl⟩
  obtain ⟨ob, hob⟩ : ∃ b, b = w.heap.size + 1 + 1 := ⟨_, rfl⟩
  have M0 := hide (show Cells w0 mb [.int .i64 kd, .int .i64 wh, .int .i64 pg, .int .i64 dr] by rw [hw0, hmb]; exact ((Cells.new w #[.int .i64 kd, .int .i64 wh, .int .i64 pg, .int .i64 dr] 59).below (alloc_below _ _)).below (alloc_below _ _))
  have F0 := hide (show Cells w0 fb [.slice la nL lc, .slice da nD dc, .int .i64 F.fr, .int .i64 F.next] by
    have q := (Cells.new (w.alloc (.cells #[.int .i64 kd, .int .i64 wh, .int .i64 pg, .int .i64 dr] 59)) #[.slice la nL lc, .slice da nD dc, .int .i64 F.fr, .int .i64 F.next] 31).below (alloc_below _ (.cells rec0 46))
    rw [World.size_alloc] at q
    rw [hw0, hfb]
    exact q)
  have O0 := hide (show RBox w0 ob 46 rec0 by
    have q := RBox.new ((w.alloc (.cells #[.int .i64 kd, .int .i64 wh, .int .i64 pg, .int .i64 dr] 59)).alloc (.cells #[.slice la nL lc, .slice da nD dc, .int .i64 F.fr, .int .i64 F.next] 31)) rec0 46
    rw [World.size_alloc, World.size_alloc] at q
    rw [hw0, hob]
    exact q)
  have B0 := hide (show Below w.heap.size w w0 by rw [hw0]; exact (bnext (bnext (alloc_below _ _) (alloc_below _ _) (Nat.le_refl _)) (alloc_below _ _) (Nat.le_refl _)))
  have LO := hide (show w.heap.size ≤ mb ∧ mb < fb ∧ fb < ob ∧ ob < w0.heap.size by rw [hw0]; simp; omega)
  rw [← hob, ← hfb, ← hmb]
  clear hw0 hmb hfb hob
  obtain ⟨m2, -⟩ := M0.out.get 2 _ rfl
  go_upto_region 2 with (go_at_call 7; refine (R20.out _).mono ?_; rintro e wz ⟨wp, hwp, rfl, rfl⟩)
  refine named (P := Code.wp _ _ _ _) ?_
  intro w1 hw1
  obtain ⟨wb, hwb⟩ : ∃ b, b = w0.heap.size := ⟨_, rfl⟩
  have bb := alloc_below w0 (.cells #[.int .i64 (wp : Int), .int .i64 0] 38)
  rw [← hw1] at bb
  have A1 := hide (show Cells w1 wb [.int .i64 (wp : Int), .int .i64 0] by rw [hw1, hwb]; exact Cells.new _ _ _)
  have M1 := hide (M0.out.below bb)
  have F1 := hide (F0.out.below bb)
  have O1 := hide (O0.out.below bb)
  have B1 := hide (B0.out.trans (bb.mono B0.out.size))
  have L1 := hide (show ob < wb ∧ wb < w1.heap.size by have := LO.out; rw [hw1]; simp; omega)
  rw [← hwb]
  clear hw1 hwb bb M0 F0 O0 B0 m2
  obtain ⟨m2, -⟩ := M1.out.get 2 _ rfl
  go_upto_region 3 with (go_at_call 7; refine (R7.out _).mono ?_; rintro e wz ⟨sp, hsp, rfl, rfl⟩; have hws : wrap64 (20 + (sp : Int)) = 20 + (sp : Int) := (by unfold wrap64; omega))
  refine named (P := Code.wp _ _ _ _) ?_
  intro w2 hw2
  obtain ⟨sb, hsb⟩ : ∃ b, b = w1.heap.size := ⟨_, rfl⟩
  have bb := alloc_below w1 (.cells #[.int .i64 (20 + (sp : Int)), .int .i64 0] 38)
  rw [← hw2] at bb
  have SB := hide (show Sb w w2 mb fb ob wb sb kd wh pg dr (.slice la nL lc) (.slice da nD dc) F wp sp from ⟨M1.out.below bb, F1.out.below bb, O1.out.below bb, A1.out.below bb, by rw [hw2, hsb]; exact Cells.new _ _ _, B1.out.trans (bb.mono B1.out.size), by have := LO.out; have := L1.out; omega⟩)
  rw [← hsb]
  clear hw2 hsb bb M1 F1 O1 A1 B1 m2 LO L1 hws
  obtain ⟨m0, -⟩ := SB.out.m.get 0 _ rfl
  go_upto_region 4 with (go_at_call 7; refine (R12.out _).mono ?_; rintro e wz ⟨K, hK, rfl, rfl⟩)
  clear m0 R20 R7 R12
  have NXI := hide HI.out.nx
  by_cases k0 : K = 0
  · have e0 : ((K : Int) == 0) = true := by simp; omega
    clear k0
    obtain ⟨a0, -⟩ := SB.out.a.get 0 _ rfl
    obtain ⟨a1, -⟩ := SB.out.a.get 1 _ rfl
    obtain ⟨b0, -⟩ := SB.out.b.get 0 _ rfl
    obtain ⟨b1, -⟩ := SB.out.b.get 1 _ rfl
    go_wp2_with (first | (refine wpList_b46 _ (rcA lsn 2 0 0 (wp : Int) (20 + (sp : Int)) 0 lsn 1 (.slice none 0 0) (.slice none 0 0) 0) ?hf ?_; case hf => kernel_rfl) | (refine wpList_store36 SB.out.o rfl rfl rfl rfl rfl ?_; intro w3 hb3 hk3))
    exact bodyPost_ret (results_box46 rfl _ _ rfl hb3 rfl) rfl ⟨⟨{ bare lsn 2 0 0 with wp := (wp : Int), sp := 20 + (sp : Int), id := lsn, grp := 1 }, none, 0, none, 0⟩, rfl, .inl ⟨wp, 20 + (sp : Int), by omega, by omega, by omega, by omega, rfl⟩, ⟨.inl rfl, .inl rfl, by show I64 0; unfold I64; omega⟩, (fun ad q => by rcases q with q | q <;> cases q), SB.out.be.trans (hk3.below SB.out.be.size (fun z hz q => by have := SB.out.lo; omega))⟩
  · have e0 : ((K : Int) == 0) = false := by simp; omega
    clear k0
    obtain ⟨T2, HT2⟩ : ∃ T : Bool, Hid (T = (decide (K = 1) || decide (K = 2))) := ⟨_, hide rfl⟩
    go_upto_region 6 with fail
    go_cut [36] (fun v w' => v = .bool T2 ∧ w2 = w')
    case first =>
      by_cases k1 : K = 1
      · have e1 : ((K : Int) == 1) = true := by simp; omega
        have HT3 := hide (show T2 = true by rw [HT2.out]; simp [k1])
        clear HT2 k1
        go_wp2_with fail
        go_meet
        exact ⟨by rw [HT3.out], rfl⟩
      · have e1 : ((K : Int) == 1) = false := by simp; omega
        by_cases k2 : K = 2
        · have e2 : ((K : Int) == 2) = true := by simp; omega
          have HT3 := hide (show T2 = true by rw [HT2.out]; simp [k2])
          clear HT2 k1 k2
          go_wp2_with fail
          go_meet
          exact ⟨by rw [HT3.out], rfl⟩
        · have e2 : ((K : Int) == 2) = false := by simp; omega
          have HT3 := hide (show T2 = false by rw [HT2.out]; simp [k1, k2])
          clear HT2 k1 k2
          go_wp2_with fail
          go_meet
          exact ⟨by rw [HT3.out], rfl⟩
    case rest =>
      obtain ⟨rfl, rfl⟩ := hcut
      clear HT2
      cases T2 with
      | true =>
        as_aux_lemma =>
          obtain ⟨f0, -⟩ := SB.out.f.get 0 _ rfl
          obtain ⟨f3, -⟩ := SB.out.f.get 3 _ rfl
          go_upto_region 8 with fail
          refine named (P := Code.wp _ _ _ _) ?_
          intro w3 hw3
          obtain ⟨pb, hpb⟩ : ∃ b, b = w2.heap.size := ⟨_, rfl⟩
          have bb := alloc_below w2 (.cells #[.slice la nL lc, .slice none 0 0, .int .i64 F.next] 44)
          rw [← hw3] at bb
          have P3 := hide (show Cells w3 pb [.slice la nL lc, .slice none 0 0, .int .i64 F.next] by rw [hw3, hpb]; exact Cells.new _ _ _)
          have S3 := hide (SB.out.below bb)
          have PBL := hide (show sb < pb ∧ w3.heap.size = pb + 1 by have := SB.out.b.1; rw [hw3]; simp; omega)
          have B3 := hide (Below.refl w3.heap.size w3)
          rw [← hpb]
          clear hw3 hpb bb SB f0 f3
          go_wp2_with fail
          go_loopw [11] (fun iv wr => ∃ (i : Nat) (v : Value) (ds : List DirtyM), iv = .int .i64 (i : Int) ∧ i ≤ nD ∧ Cells wr pb [.slice la nL lc, v, .int .i64 F.next] ∧ DRow wr (pb + 1) v ds ∧ DsInv lsn F.dirty i ds ∧ Sb w wr mb fb ob wb sb kd wh pg dr (.slice la nL lc) (.slice da nD dc) F wp sp) (fun iv _ => nD + 1 - (intOf iv).toNat)
          case atStart => exact ⟨0, _, [], rfl, Nat.zero_le _, P3.out, World.ownsRow_nil _ _ _ _, ⟨by simp, Nat.zero_le _, List.Pairwise.nil, fun d hd => by cases hd⟩, S3.out⟩
          case round =>
            clear P3 S3 B3
            obtain ⟨i, v, ds, rfl, hi, hP, hR, hD, hSb⟩ := hrel
            have S0 := hide hSb
            have D0 := hide hD
            have P0 := hide hP
            have R0 := hide hR
            obtain ⟨va, vc, hv, -, -, -, -, -⟩ := GRow.lies hR
            subst hv
            obtain ⟨vn, hvn⟩ : ∃ n, n = ds.length := ⟨_, rfl⟩
            have HVN := hide hvn
            rw [← hvn] at P0
            have R0 := hide (show GRow wr (pb + 1) 52 2 (.slice va vn vc) vn (dirtyCs ds) by rw [hvn]; exact hR)
            have hv16 : vn ≤ 16 := by rw [hvn]; exact hD.few
            clear hP hR hD hSb hvn
            obtain ⟨f1, -⟩ := S0.out.f.get 1 _ rfl
            obtain ⟨p1, -⟩ := P0.out.get 1 _ rfl
            by_cases hlt : i < nD
            · have e8 : decide ((i : Int) < (nD : Int)) = true := by simp; omega
              by_cases h16 : vn < 16
              · have e9 : decide ((vn : Int) < 16) = true := by simp; omega
                obtain ⟨m3, -⟩ := S0.out.m.get 3 _ rfl
                go_upto_region 11 with fail
                go_cut [67] from 48 to 88 (fun v w' => (∃ q : Bool, v = .bool q) ∧ wr = w')
                case first =>
                  go_wp2_with (first | (refine wpList_rem60 rfl ?_; intro r60 hr60) | (refine wpList_shr hr60 rfl rfl ?_; intro z))
                  go_meet
                  exact ⟨⟨_, rfl⟩, rfl⟩
                case rest =>
                  obtain ⟨⟨q, rfl⟩, rfl⟩ := hcut
                  cases q with
                  | false =>
                    go_wp2_with fail
                    go_roundw
                    case rel => exact ⟨i + 1, _, ds, by go_num, by omega, P0.out, by show GRow wr (pb + 1) 52 2 _ ds.length (dirtyCs ds); rw [← HVN.out]; exact R0.out, D0.out.more, S0.out⟩
                    case measure => simp [intOf]; omega
                  | true =>
                    have hiD : i < F.dirty.length := by rw [← HND.out]; exact hlt
                    obtain ⟨xb, xo, hda, xlt, c0, c1⟩ := (HI.out.di.below S0.out.be).dirtyAt i hiD
                    subst hda
                    have HE := hide (HI.out.ds F.dirty[i] (List.getElem_mem hiD))
                    have HPg := hide (D0.out.push HI.out.dr hiD)
                    generalize F.dirty[i] = e at *
                    obtain ⟨ep, es⟩ := e
                    simp only at c0 c1 HE HPg
                    obtain ⟨f1, -⟩ := S0.out.f.get 1 _ rfl
                    go_upto_region 13 with fail
                    refine named (P := Code.wp _ _ _ _) ?_
                    intro w4 hw4
                    obtain ⟨db, hdb⟩ : ∃ b, b = wr.heap.size := ⟨_, rfl⟩
                    have bb := alloc_below wr (.cells #[.int .i64 ep, .int .i64 es] 52)
                    rw [← hw4] at bb
                    have E4 := hide (show Cells w4 db [.int .i64 ep, .int .i64 es] by rw [hw4, hdb]; exact Cells.new _ _ _)
                    have S4 := hide (S0.out.below bb)
                    have P4 := hide (P0.out.below bb)
                    have R4 := hide (GRow.below R0.out bb)
                    have LD := hide (show pb < db ∧ sb < db ∧ (∀ g, (Value.slice va vn vc).ownBlock = some g → g < db) by have := P0.out.1; have := S0.out.b.1; exact ⟨by omega, by omega, fun g hg => by have := (World.ownsRow.lt R0.out g hg).2; omega⟩)
                    rw [← hdb]
                    clear hw4 hdb bb S0 P0 R0 c0 c1 f1 p1
                    go_cut [73] from 48 to 88 (fun _ w' => ∃ NS, es ≤ NS ∧ NS ≤ lsn - 1 ∧ Cells w' db [.int .i64 ep, .int .i64 NS] ∧ Keep (fun z => z = db) w4 w')
                    case first =>
                      have hR3 : 0 ≤ wh % 3 ∧ wh % 3 < 3 := ⟨Int.emod_nonneg _ (by decide), Int.emod_lt_of_pos _ (by decide)⟩
                      have R3 := hide (show ∀ w, Calls Try.prog 7 #[.int .i64 wh, .int .i64 3] w _ from fun w => rest_eq wh 3 (by omega) (by omega) w)
                      obtain ⟨r3, hr3⟩ : ∃ r : Int, r = wh % ((3 : Nat) : Int) := ⟨_, rfl⟩
                      rw [← hr3] at R3
                      have hr3' : 0 ≤ r3 ∧ r3 < 3 := by rw [hr3]; exact hR3
                      clear hr3 hR3
                      have hes := HE.out
                      have ew1 : IntKind.i64.wrap (lsn - 1) = lsn - 1 := by rw [IntKind.wrap_i64]; omega
                      have ew1' : wrap64 (lsn - 1) = lsn - 1 := by unfold wrap64; omega
                      have ew2 : IntKind.i64.wrap (es + r3) = es + r3 := by rw [IntKind.wrap_i64]; omega
                      have ew2' : wrap64 (es + r3) = es + r3 := by unfold wrap64; omega
                      refine wp_region_held_drew (S := fun wq => Keep (fun z => z = db) w4 wq) (by kernel_rfl) (Keep.refl _ _).drew (fun hS => ?_)
                      have KD := hide (show Keep (fun z => z = db) w4 w4.drew from (Keep.refl _ _).drew)
                      have E5 := hide (E4.out.below (Below.refl w4.heap.size w4).drew)
                      generalize w4.drew = y0 at *
                      have MC := hide (show ∀ wq, Keep (fun z => z = db) w4 wq → wq.cell? ⟨mb, 1, none⟩ = some (.int .i64 wh) from fun wq hk => ((S4.out.m.keep hk (by have := LD.out; have := S4.out.lo; omega)).get 1 _ rfl).1)
                      by_cases hmin : es + r3 < lsn - 1
                      · have emin : decide (es + r3 < lsn - 1) = true := by simpa using hmin
                        have emin2 : min (es + r3) (lsn - 1) = es + r3 := by omega
                        refine take_at 0 (some 73) (v := ?_) rfl rfl (by kernel_rfl) (by kernel_rfl) (by kernel_rfl) (fun _ _ _ h => h) ⟨by rfl, ?_⟩ hS ?_
                        rotate_left
                        · intro wq hSw; go_simp; try rfl
                        simp only [Act.put, List.setIfInBounds_toArray, List.set_cons_zero, List.set_cons_succ]
                        refine take_at 2 (some 75) (v := ?_) rfl rfl (by kernel_rfl) (by kernel_rfl) (by kernel_rfl) (fun _ _ _ h => h) ⟨by rfl, ?_⟩ hS ?_
                        rotate_left
                        · intro wq hSw; go_simp; try rfl
                        simp only [Act.put, List.setIfInBounds_toArray, List.set_cons_zero, List.set_cons_succ]
                        refine take_at 3 (some 76) (v := ?_) rfl rfl (by kernel_rfl) (by kernel_rfl) (by kernel_rfl) (fun _ _ _ h => h) ⟨by rfl, ?_⟩ hS ?_
                        rotate_left
                        · intro wq hSw; have q := MC.out wq hSw; go_simp; try rfl
                        simp only [Act.put, List.setIfInBounds_toArray, List.set_cons_zero, List.set_cons_succ]
                        refine take_at 6 (some 79) (v := ?_) rfl rfl (by kernel_rfl) (by kernel_rfl) (by kernel_rfl) (fun _ _ _ h => h) ⟨by rfl, ?_⟩ hS ?_
                        rotate_left
                        · intro wq hSw; go_simp; try rfl
                        simp only [Act.put, List.setIfInBounds_toArray, List.set_cons_zero, List.set_cons_succ]
                        refine take_at 7 (some 80) (v := ?_) rfl rfl (by kernel_rfl) (by kernel_rfl) (by kernel_rfl) (fun _ _ _ h => h) ⟨by rfl, ?_⟩ hS ?_
                        rotate_left
                        · intro wq hSw; go_simp; try rfl
                        simp only [Act.put, List.setIfInBounds_toArray, List.set_cons_zero, List.set_cons_succ]
                        refine wpAnyH_ready (rs := [1, 4]) (by kernel_rfl) (by simp) ?_
                        refine AllReadyH.cons rfl (fun K hK => ?_) (AllReadyH.cons rfl (fun K hK => ?_) AllReadyH.nil)
                        · obtain ⟨z1, f1⟩ := E5.out.get 1 _ rfl
                          go_simp
                          go_wp2_with fail
                          refine hK.out _ _ hS (fun hS => ?_)
                          clear hK K z1 f1
                          (try simp only [Act.put, List.setIfInBounds_toArray, List.set_cons_zero, List.set_cons_succ])
                          refine wpAnyH_ready (rs := [4]) (by kernel_rfl) (by simp) ?_
                          refine AllReadyH.cons rfl (fun K hK => ?_) AllReadyH.nil
                          go_simp
                          go_wp2_with fail
                          refine (R3.out _).mono ?_
                          rintro e2 wz ⟨rfl, rfl⟩
                          go_wp2_with fail
                          refine hK.out _ _ hS (fun hS => ?_)
                          clear hK K
                          (try simp only [Act.put, List.setIfInBounds_toArray, List.set_cons_zero, List.set_cons_succ])
                          refine take_at 5 (some 78) (v := ?_) rfl rfl (by kernel_rfl) (by kernel_rfl) (by kernel_rfl) (fun _ _ _ h => h) ⟨by rfl, ?_⟩ hS ?_
                          rotate_left
                          · intro wq hSw; go_simp; try rfl
                          simp only [Act.put, List.setIfInBounds_toArray, List.set_cons_zero, List.set_cons_succ]
                          refine take_at 8 (some 81) (v := ?_) rfl rfl (by kernel_rfl) (by kernel_rfl) (by kernel_rfl) (fun _ _ _ h => h) ⟨by rfl, ?_⟩ hS ?_
                          rotate_left
                          · intro wq hSw; go_simp; try rfl
                          simp only [Act.put, List.setIfInBounds_toArray, List.set_cons_zero, List.set_cons_succ]
                          refine take_at 9 (some 82) (v := ?_) rfl rfl (by kernel_rfl) (by kernel_rfl) (by kernel_rfl) (fun _ _ _ h => h) ⟨by rfl, ?_⟩ hS ?_
                          rotate_left
                          · intro wq hSw; go_simp; try rfl
                          simp only [Act.put, List.setIfInBounds_toArray, List.set_cons_zero, List.set_cons_succ]
                          refine wpAnyH_ready (rs := [10]) (by kernel_rfl) (by simp) ?_
                          refine AllReadyH.cons rfl (fun K hK => ?_) AllReadyH.nil
                          obtain ⟨z1, f1⟩ := E5.out.get 1 _ rfl
                          go_simp
                          go_wp2_with fail
                          have K6 : Keep (fun z => z = db) w4 _ := KD.out.setCell (g := db) (j := 1) (fun _ => by have := E4.out.1; first | rfl | exact rfl) (.int .i64 (es + r3))
                          refine hK.out _ _ K6 (fun hS => ?_)
                          clear hK K hS
                          (try simp only [Act.put, List.setIfInBounds_toArray, List.set_cons_zero, List.set_cons_succ])
                          refine wpAnyH_done (by kernel_rfl) ?_ _
                          go_wp2_with fail
                          go_meet
                          exact ⟨es + r3, by omega, by omega, E5.out.stored (j := 1) (by simp) _, K6⟩
                        · go_simp
                          go_wp2_with fail
                          refine (R3.out _).mono ?_
                          rintro e2 wz ⟨rfl, rfl⟩
                          go_wp2_with fail
                          refine hK.out _ _ hS (fun hS => ?_)
                          clear hK K
                          (try simp only [Act.put, List.setIfInBounds_toArray, List.set_cons_zero, List.set_cons_succ])
                          refine wpAnyH_ready (rs := [1]) (by kernel_rfl) (by simp) ?_
                          refine AllReadyH.cons rfl (fun K hK => ?_) AllReadyH.nil
                          obtain ⟨z1, f1⟩ := E5.out.get 1 _ rfl
                          go_simp
                          go_wp2_with fail
                          refine hK.out _ _ hS (fun hS => ?_)
                          clear hK K z1 f1
                          (try simp only [Act.put, List.setIfInBounds_toArray, List.set_cons_zero, List.set_cons_succ])
                          refine take_at 5 (some 78) (v := ?_) rfl rfl (by kernel_rfl) (by kernel_rfl) (by kernel_rfl) (fun _ _ _ h => h) ⟨by rfl, ?_⟩ hS ?_
                          rotate_left
                          · intro wq hSw; go_simp; try rfl
                          simp only [Act.put, List.setIfInBounds_toArray, List.set_cons_zero, List.set_cons_succ]
                          refine take_at 8 (some 81) (v := ?_) rfl rfl (by kernel_rfl) (by kernel_rfl) (by kernel_rfl) (fun _ _ _ h => h) ⟨by rfl, ?_⟩ hS ?_
                          rotate_left
                          · intro wq hSw; go_simp; try rfl
                          simp only [Act.put, List.setIfInBounds_toArray, List.set_cons_zero, List.set_cons_succ]
                          refine take_at 9 (some 82) (v := ?_) rfl rfl (by kernel_rfl) (by kernel_rfl) (by kernel_rfl) (fun _ _ _ h => h) ⟨by rfl, ?_⟩ hS ?_
                          rotate_left
                          · intro wq hSw; go_simp; try rfl
                          simp only [Act.put, List.setIfInBounds_toArray, List.set_cons_zero, List.set_cons_succ]
                          refine wpAnyH_ready (rs := [10]) (by kernel_rfl) (by simp) ?_
                          refine AllReadyH.cons rfl (fun K hK => ?_) AllReadyH.nil
                          obtain ⟨z1, f1⟩ := E5.out.get 1 _ rfl
                          go_simp
                          go_wp2_with fail
                          have K6 : Keep (fun z => z = db) w4 _ := KD.out.setCell (g := db) (j := 1) (fun _ => by have := E4.out.1; first | rfl | exact rfl) (.int .i64 (es + r3))
                          refine hK.out _ _ K6 (fun hS => ?_)
                          clear hK K hS
                          (try simp only [Act.put, List.setIfInBounds_toArray, List.set_cons_zero, List.set_cons_succ])
                          refine wpAnyH_done (by kernel_rfl) ?_ _
                          go_wp2_with fail
                          go_meet
                          exact ⟨es + r3, by omega, by omega, E5.out.stored (j := 1) (by simp) _, K6⟩
                      · have emin : decide (es + r3 < lsn - 1) = false := by simpa using hmin
                        have emin2 : min (es + r3) (lsn - 1) = lsn - 1 := by omega
                        refine take_at 0 (some 73) (v := ?_) rfl rfl (by kernel_rfl) (by kernel_rfl) (by kernel_rfl) (fun _ _ _ h => h) ⟨by rfl, ?_⟩ hS ?_
                        rotate_left
                        · intro wq hSw; go_simp; try rfl
                        simp only [Act.put, List.setIfInBounds_toArray, List.set_cons_zero, List.set_cons_succ]
                        refine take_at 2 (some 75) (v := ?_) rfl rfl (by kernel_rfl) (by kernel_rfl) (by kernel_rfl) (fun _ _ _ h => h) ⟨by rfl, ?_⟩ hS ?_
                        rotate_left
                        · intro wq hSw; go_simp; try rfl
                        simp only [Act.put, List.setIfInBounds_toArray, List.set_cons_zero, List.set_cons_succ]
                        refine take_at 3 (some 76) (v := ?_) rfl rfl (by kernel_rfl) (by kernel_rfl) (by kernel_rfl) (fun _ _ _ h => h) ⟨by rfl, ?_⟩ hS ?_
                        rotate_left
                        · intro wq hSw; have q := MC.out wq hSw; go_simp; try rfl
                        simp only [Act.put, List.setIfInBounds_toArray, List.set_cons_zero, List.set_cons_succ]
                        refine take_at 6 (some 79) (v := ?_) rfl rfl (by kernel_rfl) (by kernel_rfl) (by kernel_rfl) (fun _ _ _ h => h) ⟨by rfl, ?_⟩ hS ?_
                        rotate_left
                        · intro wq hSw; go_simp; try rfl
                        simp only [Act.put, List.setIfInBounds_toArray, List.set_cons_zero, List.set_cons_succ]
                        refine take_at 7 (some 80) (v := ?_) rfl rfl (by kernel_rfl) (by kernel_rfl) (by kernel_rfl) (fun _ _ _ h => h) ⟨by rfl, ?_⟩ hS ?_
                        rotate_left
                        · intro wq hSw; go_simp; try rfl
                        simp only [Act.put, List.setIfInBounds_toArray, List.set_cons_zero, List.set_cons_succ]
                        refine wpAnyH_ready (rs := [1, 4]) (by kernel_rfl) (by simp) ?_
                        refine AllReadyH.cons rfl (fun K hK => ?_) (AllReadyH.cons rfl (fun K hK => ?_) AllReadyH.nil)
                        · obtain ⟨z1, f1⟩ := E5.out.get 1 _ rfl
                          go_simp
                          go_wp2_with fail
                          refine hK.out _ _ hS (fun hS => ?_)
                          clear hK K z1 f1
                          (try simp only [Act.put, List.setIfInBounds_toArray, List.set_cons_zero, List.set_cons_succ])
                          refine wpAnyH_ready (rs := [4]) (by kernel_rfl) (by simp) ?_
                          refine AllReadyH.cons rfl (fun K hK => ?_) AllReadyH.nil
                          go_simp
                          go_wp2_with fail
                          refine (R3.out _).mono ?_
                          rintro e2 wz ⟨rfl, rfl⟩
                          go_wp2_with fail
                          refine hK.out _ _ hS (fun hS => ?_)
                          clear hK K
                          (try simp only [Act.put, List.setIfInBounds_toArray, List.set_cons_zero, List.set_cons_succ])
                          refine take_at 5 (some 78) (v := ?_) rfl rfl (by kernel_rfl) (by kernel_rfl) (by kernel_rfl) (fun _ _ _ h => h) ⟨by rfl, ?_⟩ hS ?_
                          rotate_left
                          · intro wq hSw; go_simp; try rfl
                          simp only [Act.put, List.setIfInBounds_toArray, List.set_cons_zero, List.set_cons_succ]
                          refine take_at 8 (some 81) (v := ?_) rfl rfl (by kernel_rfl) (by kernel_rfl) (by kernel_rfl) (fun _ _ _ h => h) ⟨by rfl, ?_⟩ hS ?_
                          rotate_left
                          · intro wq hSw; go_simp; try rfl
                          simp only [Act.put, List.setIfInBounds_toArray, List.set_cons_zero, List.set_cons_succ]
                          refine take_at 9 (some 82) (v := ?_) rfl rfl (by kernel_rfl) (by kernel_rfl) (by kernel_rfl) (fun _ _ _ h => h) ⟨by rfl, ?_⟩ hS ?_
                          rotate_left
                          · intro wq hSw; go_simp; try rfl
                          simp only [Act.put, List.setIfInBounds_toArray, List.set_cons_zero, List.set_cons_succ]
                          refine wpAnyH_ready (rs := [10]) (by kernel_rfl) (by simp) ?_
                          refine AllReadyH.cons rfl (fun K hK => ?_) AllReadyH.nil
                          obtain ⟨z1, f1⟩ := E5.out.get 1 _ rfl
                          go_simp
                          go_wp2_with fail
                          have K6 : Keep (fun z => z = db) w4 _ := KD.out.setCell (g := db) (j := 1) (fun _ => by have := E4.out.1; first | rfl | exact rfl) (.int .i64 (lsn - 1))
                          refine hK.out _ _ K6 (fun hS => ?_)
                          clear hK K hS
                          (try simp only [Act.put, List.setIfInBounds_toArray, List.set_cons_zero, List.set_cons_succ])
                          refine wpAnyH_done (by kernel_rfl) ?_ _
                          go_wp2_with fail
                          go_meet
                          exact ⟨lsn - 1, by omega, by omega, E5.out.stored (j := 1) (by simp) _, K6⟩
                        · go_simp
                          go_wp2_with fail
                          refine (R3.out _).mono ?_
                          rintro e2 wz ⟨rfl, rfl⟩
                          go_wp2_with fail
                          refine hK.out _ _ hS (fun hS => ?_)
                          clear hK K
                          (try simp only [Act.put, List.setIfInBounds_toArray, List.set_cons_zero, List.set_cons_succ])
                          refine wpAnyH_ready (rs := [1]) (by kernel_rfl) (by simp) ?_
                          refine AllReadyH.cons rfl (fun K hK => ?_) AllReadyH.nil
                          obtain ⟨z1, f1⟩ := E5.out.get 1 _ rfl
                          go_simp
                          go_wp2_with fail
                          refine hK.out _ _ hS (fun hS => ?_)
                          clear hK K z1 f1
                          (try simp only [Act.put, List.setIfInBounds_toArray, List.set_cons_zero, List.set_cons_succ])
                          refine take_at 5 (some 78) (v := ?_) rfl rfl (by kernel_rfl) (by kernel_rfl) (by kernel_rfl) (fun _ _ _ h => h) ⟨by rfl, ?_⟩ hS ?_
                          rotate_left
                          · intro wq hSw; go_simp; try rfl
                          simp only [Act.put, List.setIfInBounds_toArray, List.set_cons_zero, List.set_cons_succ]
                          refine take_at 8 (some 81) (v := ?_) rfl rfl (by kernel_rfl) (by kernel_rfl) (by kernel_rfl) (fun _ _ _ h => h) ⟨by rfl, ?_⟩ hS ?_
                          rotate_left
                          · intro wq hSw; go_simp; try rfl
                          simp only [Act.put, List.setIfInBounds_toArray, List.set_cons_zero, List.set_cons_succ]
                          refine take_at 9 (some 82) (v := ?_) rfl rfl (by kernel_rfl) (by kernel_rfl) (by kernel_rfl) (fun _ _ _ h => h) ⟨by rfl, ?_⟩ hS ?_
                          rotate_left
                          · intro wq hSw; go_simp; try rfl
                          simp only [Act.put, List.setIfInBounds_toArray, List.set_cons_zero, List.set_cons_succ]
                          refine wpAnyH_ready (rs := [10]) (by kernel_rfl) (by simp) ?_
                          refine AllReadyH.cons rfl (fun K hK => ?_) AllReadyH.nil
                          obtain ⟨z1, f1⟩ := E5.out.get 1 _ rfl
                          go_simp
                          go_wp2_with fail
                          have K6 : Keep (fun z => z = db) w4 _ := KD.out.setCell (g := db) (j := 1) (fun _ => by have := E4.out.1; first | rfl | exact rfl) (.int .i64 (lsn - 1))
                          refine hK.out _ _ K6 (fun hS => ?_)
                          clear hK K hS
                          (try simp only [Act.put, List.setIfInBounds_toArray, List.set_cons_zero, List.set_cons_succ])
                          refine wpAnyH_done (by kernel_rfl) ?_ _
                          go_wp2_with fail
                          go_meet
                          exact ⟨lsn - 1, by omega, by omega, E5.out.stored (j := 1) (by simp) _, K6⟩
                    case rest =>
                      obtain ⟨NS, hN1, hN2, hC, hKp⟩ := hcut
                      obtain ⟨w5, hw5⟩ : ∃ x, x = wc := ⟨_, rfl⟩
                      rw [← hw5] at hC hKp ⊢
                      have E5 := hide hC
                      have S5 := hide (show Sb w w5 mb fb ob wb sb kd wh pg dr (.slice la nL lc) (.slice (some ⟨xb, xo, none⟩) nD dc) F wp sp from S4.out.keep hKp (fun z q => by have := LD.out; omega))
                      have P5 := hide (P4.out.keep hKp (by have := LD.out; omega))
                      have R5 := hide (GRow.keep R4.out hKp (fun g hg q => by have := LD.out.2.2 g hg; omega))
                      clear hw5 hC hKp S4 P4 R4 E4
                      obtain ⟨p1, g1⟩ := P5.out.get 1 _ rfl
                      obtain ⟨d0, -⟩ := E5.out.get 0 _ rfl
                      obtain ⟨d1, -⟩ := E5.out.get 1 _ rfl
                      have PB5 := hide P5.out.1
                      go_wp2_with (at_builtin; refine wpList_appR Try.underlying29 info52 rfl (by decide) (by decide) rfl (.tmp _) (.tmp _) rfl (pb + 1) _ vn (dirtyCs ds) rfl (GRow.below R5.out (alloc_below _ _)) (some ⟨w5.heap.size, 0, none⟩) 1 1 (dirtyCs [⟨ep, NS⟩]) rfl rfl (lies_new2 _ ep NS 52) (dirtyCs_one _) (by nofun) (by omega) (by have := PB5.out; simp; omega) ?_; intro vx w6 q1 q2 q3; obtain ⟨va2, vc2, hv2, -⟩ := GRow.lies q1; subst hv2; have K6 := hide ((Keep.of_below (S := fun z => (Value.slice va vn vc).ownBlock = some z) (alloc_below w5 (.cells #[.int .i64 ep, .int .i64 NS] 52))).trans (grown_keep q2) (fun _ _ q => q)); obtain ⟨p1', g1'⟩ := (P5.out.keep K6.out (fun q => by have := (World.ownsRow.lt R5.out pb q).1; omega)).get 1 _ rfl; clear p1 g1)
                      have P6 := hide ((P5.out.keep K6.out (fun q => by have := (World.ownsRow.lt R5.out pb q).1; omega)).stored (j := 1) (by simp) (.slice va2 (vn + 1) vc2))
                      have K7 := hide (show Keep (fun z => z = pb) w6 (w6.setCell ⟨pb, 1, none⟩ (.slice va2 (vn + 1) vc2)) from (Keep.refl (fun z => z = pb) w6).setCell (g := pb) (j := 1) (fun _ => rfl) _)
                      have S6 := hide ((S5.out.keep K6.out (fun z q => by have := (World.ownsRow.lt R5.out z q).1; have := PBL.out; omega)).keep K7.out (fun z q => by have := PBL.out; omega))
                      have R6 := hide (show DRow (w6.setCell ⟨pb, 1, none⟩ (.slice va2 (vn + 1) vc2)) (pb + 1) (.slice va2 (vn + 1) vc2) (ds ++ [⟨ep, NS⟩]) by
                        show GRow _ (pb + 1) 52 2 _ (ds ++ [(⟨ep, NS⟩ : DirtyM)]).length (dirtyCs (ds ++ [⟨ep, NS⟩]))
                        rw [List.length_append, ← HVN.out, dirtyCs_append]
                        exact GRow.keep q1 K7.out (fun g hg q => by have := (World.ownsRow.lt q1 g hg).1; omega))
                      have D6 := hide (HPg.out NS hN1 (by have := HE.out; omega) hN2 (by rw [← HVN.out]; exact h16))
                      go_roundw
                      case rel => exact ⟨i + 1, _, ds ++ [⟨ep, NS⟩], by go_num, by omega, P6.out, R6.out, D6.out, S6.out⟩
                      case measure => simp [intOf]; omega
              · have e9 : decide ((vn : Int) < 16) = false := by simp; omega
                obtain ⟨p0, -⟩ := P0.out.get 0 _ rfl
                obtain ⟨p2, -⟩ := P0.out.get 2 _ rfl
                clear f1 p1
                obtain ⟨p1, -⟩ := P0.out.get 1 _ rfl
                obtain ⟨f1, -⟩ := S0.out.f.get 1 _ rfl
                go_upto_region 15 with fail
                clear f1
                go_wp2_with (first | (refine wpList_b46 _ (rcA lsn 8 0 0 0 0 0 0 0 (.slice la nL lc) (.slice va vn vc) F.next) ?hf ?_; case hf => kernel_rfl) | (refine wpList_store36 S0.out.o rfl rfl rfl rfl rfl ?_; intro w3 hb3 hk3))
                have FIN := hide (exit8 S0.out R0.out D0.out HI.out hk3 PBL.out.1 HVN.out HNL.out)
                unfold StepPost at FIN
                refine bodyPost_ret (results_box46 rfl _ _ rfl hb3 rfl) rfl ?_
                exact FIN.out
            · have e8 : decide ((i : Int) < (nD : Int)) = false := by simp; omega
              obtain ⟨p0, -⟩ := P0.out.get 0 _ rfl
              obtain ⟨p2, -⟩ := P0.out.get 2 _ rfl
              clear f1 p1
              obtain ⟨p1, -⟩ := P0.out.get 1 _ rfl
              obtain ⟨f1, -⟩ := S0.out.f.get 1 _ rfl
              go_upto_region 15 with fail
              clear f1
              go_wp2_with (first | (refine wpList_b46 _ (rcA lsn 8 0 0 0 0 0 0 0 (.slice la nL lc) (.slice va vn vc) F.next) ?hf ?_; case hf => kernel_rfl) | (refine wpList_store36 S0.out.o rfl rfl rfl rfl rfl ?_; intro w3 hb3 hk3))
              have FIN := hide (exit8 S0.out R0.out D0.out HI.out hk3 PBL.out.1 HVN.out HNL.out)
              unfold StepPost at FIN
              refine bodyPost_ret (results_box46 rfl _ _ rfl hb3 rfl) rfl ?_
              exact FIN.out
      | false =>
        obtain ⟨f0, -⟩ := SB.out.f.get 0 _ rfl
        obtain ⟨T, HT⟩ : ∃ T : Bool, Hid (T = (decide (nL = 0) || (decide (K < 5) && decide (nL < 32)))) := ⟨_, hide rfl⟩
        go_upto_region 16 with fail
        go_cut [92] (fun v w' => v = .bool T ∧ w2 = w')
        case first =>
          by_cases hL0 : nL = 0
          · have e3 : ((nL : Int) == 0) = true := by simp; omega
            have HT2 := hide (show T = true by rw [HT.out]; simp [hL0])
            clear HT hL0
            go_wp2_with fail
            go_meet
            exact ⟨by rw [HT2.out], rfl⟩
          · have e3 : ((nL : Int) == 0) = false := by simp; omega
            by_cases h5 : K < 5
            · have e4 : decide ((K : Int) < 5) = true := by simp; omega
              by_cases h32 : nL < 32
              · have e5 : decide ((nL : Int) < 32) = true := by simp; omega
                have HT2 := hide (show T = true by rw [HT.out]; simp [h5, h32])
                clear HT hL0 h5 h32
                go_wp2_with fail
                go_meet
                exact ⟨by rw [HT2.out], rfl⟩
              · have e5 : decide ((nL : Int) < 32) = false := by simp; omega
                have HT2 := hide (show T = false by rw [HT.out]; simp [h5, h32, hL0])
                clear HT hL0 h5 h32
                go_wp2_with fail
                go_meet
                exact ⟨by rw [HT2.out], rfl⟩
            · have e4 : decide ((K : Int) < 5) = false := by simp; omega
              have HT2 := hide (show T = false by rw [HT.out]; simp [h5, hL0])
              clear HT hL0 h5
              go_wp2_with fail
              go_meet
              exact ⟨by rw [HT2.out], rfl⟩
        case rest =>
          obtain ⟨rfl, rfl⟩ := hcut
          clear f0
          cases T with
          | true =>
            have HLT := hide (show F.live.length < 32 by
              have q := HT.out
              simp at q
              rw [← HNL.out]; omega)
            obtain ⟨f3, -⟩ := SB.out.f.get 3 _ rfl
            go_wp2_with (first | (refine wpList_b46 _ (rcA lsn 1 F.next 0 0 0 0 0 0 (.slice none 0 0) (.slice none 0 0) 0) ?hf ?_; case hf => kernel_rfl) | (refine wpList_store36 SB.out.o rfl rfl rfl rfl rfl ?_; intro w3 hb3 hk3))
            exact bodyPost_ret (results_box46 rfl _ _ rfl hb3 rfl) rfl ⟨⟨bare lsn 1 F.next 0, none, 0, none, 0⟩, rfl, .inr (.inr (.inl ⟨HLT.out, rfl⟩)), ⟨.inl rfl, .inl rfl, NXI.out⟩, (fun ad q => by rcases q with q | q <;> cases q), SB.out.be.trans (hk3.below SB.out.be.size (fun z hz q => by have := SB.out.lo; omega))⟩
          | false =>
            have HL0 := hide (show 0 < nL by
              have q := HT.out
              simp at q
              omega)
            have RL := hide (show ∀ w, Calls Try.prog 7 #[.int .i64 wh, .int .i64 (nL : Int)] w _ from fun w => rest_any wh nL HL0.out (by omega) w)
            go_upto_region 18 with fail
            go_cut [13] (fun v w' => ∃ (j : Nat) (_ : j < nL) (X : Lv) (xb2 : Nat), v = ptr xb2 ∧ ((X.com && X.und) = false ∧ I64 X.tx) ∧ X ∈ F.live ∧ Cells w' xb2 [.int .i64 X.tx, .int .i64 X.last, .bool X.com, .bool X.und] ∧ w2.heap.size ≤ xb2 ∧ Below w2.heap.size w2 w')
            case first =>
              refine wp_region_held_drew (S := fun wq => Below w2.heap.size w2 wq) (by kernel_rfl) (Below.refl _ _).drew (fun hS => ?_)
              have KD := hide (show Below w2.heap.size w2 w2.drew from (Below.refl _ _).drew)
              have SZ := hide (show w2.drew.heap.size = w2.heap.size from rfl)
              generalize w2.drew = y0 at *
              have FC := hide (show ∀ wq, Below w2.heap.size w2 wq → wq.cell? ⟨fb, 0, none⟩ = some (.slice la nL lc) ∧ wq.cell? ⟨mb, 1, none⟩ = some (.int .i64 wh) from fun wq hk => ⟨((SB.out.f.below hk).get 0 _ rfl).1, ((SB.out.m.below hk).get 1 _ rfl).1⟩)
              refine take_at 0 (some 111) (v := ?_) rfl rfl (by kernel_rfl) (by kernel_rfl) (by kernel_rfl) (fun _ _ _ h => h) ⟨by rfl, ?_⟩ hS ?_
              rotate_left
              · intro wq hSw; go_simp; try rfl
              simp only [Act.put, List.setIfInBounds_toArray, List.set_cons_zero, List.set_cons_succ]
              refine take_at 1 (some 112) (v := ?_) rfl rfl (by kernel_rfl) (by kernel_rfl) (by kernel_rfl) (fun _ _ _ h => h) ⟨by rfl, ?_⟩ hS ?_
              rotate_left
              · intro wq hSw; have q := (FC.out wq hSw).1; go_simp; try rfl
              simp only [Act.put, List.setIfInBounds_toArray, List.set_cons_zero, List.set_cons_succ]
              refine take_at 2 (some 113) (v := ?_) rfl rfl (by kernel_rfl) (by kernel_rfl) (by kernel_rfl) (fun _ _ _ h => h) ⟨by rfl, ?_⟩ hS ?_
              rotate_left
              · intro wq hSw; go_simp; try rfl
              simp only [Act.put, List.setIfInBounds_toArray, List.set_cons_zero, List.set_cons_succ]
              refine take_at 3 (some 114) (v := ?_) rfl rfl (by kernel_rfl) (by kernel_rfl) (by kernel_rfl) (fun _ _ _ h => h) ⟨by rfl, ?_⟩ hS ?_
              rotate_left
              · intro wq hSw; have q := (FC.out wq hSw).2; go_simp; try rfl
              simp only [Act.put, List.setIfInBounds_toArray, List.set_cons_zero, List.set_cons_succ]
              refine take_at 4 (some 115) (v := ?_) rfl rfl (by kernel_rfl) (by kernel_rfl) (by kernel_rfl) (fun _ _ _ h => h) ⟨by rfl, ?_⟩ hS ?_
              rotate_left
              · intro wq hSw; go_simp; try rfl
              simp only [Act.put, List.setIfInBounds_toArray, List.set_cons_zero, List.set_cons_succ]
              refine take_at 5 (some 116) (v := ?_) rfl rfl (by kernel_rfl) (by kernel_rfl) (by kernel_rfl) (fun _ _ _ h => h) ⟨by rfl, ?_⟩ hS ?_
              rotate_left
              · intro wq hSw; have q := (FC.out wq hSw).1; go_simp; try rfl
              simp only [Act.put, List.setIfInBounds_toArray, List.set_cons_zero, List.set_cons_succ]
              refine take_at 6 (some 117) (v := ?_) rfl rfl (by kernel_rfl) (by kernel_rfl) (by kernel_rfl) (fun _ _ _ h => h) ⟨by rfl, ?_⟩ hS ?_
              rotate_left
              · intro wq hSw; go_simp; try rfl
              simp only [Act.put, List.setIfInBounds_toArray, List.set_cons_zero, List.set_cons_succ]
              refine wpAnyH_ready (rs := [7, 10]) (by kernel_rfl) (by simp) ?_
              refine AllReadyH.cons rfl (fun K hK => ?_) (AllReadyH.cons rfl (fun K hK => ?_) AllReadyH.nil)
              · go_simp
                go_wp2_with fail
                refine (RL.out _).mono ?_
                rintro e2 wz ⟨j, hj, rfl, rfl⟩
                go_wp2_with fail
                refine hK.out _ _ hS (fun hS => ?_)
                clear hK K
                (try simp only [Act.put, List.setIfInBounds_toArray, List.set_cons_zero, List.set_cons_succ])
                have hjl : j < F.live.length := by rw [← HNL.out]; exact hj
                have LV := hide (HI.out.lv F.live[j] (List.getElem_mem hjl))
                have MEM := hide (List.getElem_mem hjl)
                obtain ⟨xb, xo, hla, xlt, xel⟩ := Lies.rowAt lvC 4 (fun _ => rfl) HI.out.li j hjl (by decide)
                subst hla
                generalize F.live[j] = X at *
                have XC := hide (show ∀ wq, Below w2.heap.size w2 wq → wq.cell? ⟨xb, xo + j * 4, none⟩ = some (.int .i64 X.tx) ∧ wq.cell? ⟨xb, xo + j * 4 + 1, none⟩ = some (.int .i64 X.last) ∧ wq.cell? ⟨xb, xo + j * 4 + 2, none⟩ = some (.bool X.com) ∧ wq.cell? ⟨xb, xo + j * 4 + 3, none⟩ = some (.bool X.und) from fun wq hk => by
                  have bq := SB.out.be.trans (hk.mono SB.out.be.size)
                  have g := fun o v (q : w.cell? ⟨xb, o, none⟩ = some v) => (bq.cell (p := ⟨xb, o, none⟩) xlt).trans q
                  exact ⟨g _ _ (by have := xel 0 _ rfl; rwa [Nat.add_zero] at this), g _ _ (xel 1 _ rfl), g _ _ (xel 2 _ rfl), g _ _ (xel 3 _ rfl)⟩)
                clear xel
                refine take_at 8 (some 119) (v := ?_) rfl rfl (by kernel_rfl) (by kernel_rfl) (by kernel_rfl) (fun _ _ _ h => h) ⟨by rfl, ?_⟩ hS ?_
                rotate_left
                · intro wq hSw; go_simp; try rfl
                simp only [Act.put, List.setIfInBounds_toArray, List.set_cons_zero, List.set_cons_succ]
                refine take_at 9 (some 120) (v := ?_) rfl rfl (by kernel_rfl) (by kernel_rfl) (by kernel_rfl) (fun _ _ _ h => h) ⟨by rfl, ?_⟩ hS ?_
                rotate_left
                · intro wq hSw; obtain ⟨q0, q1, q2, q3⟩ := XC.out wq hSw; go_simp; try rfl
                simp only [Act.put, List.setIfInBounds_toArray, List.set_cons_zero, List.set_cons_succ]
                refine wpAnyH_ready (rs := [10]) (by kernel_rfl) (by simp) ?_
                refine AllReadyH.cons rfl (fun K hK => ?_) AllReadyH.nil
                go_simp
                go_wp2_with fail
                refine hK.out _ _ (hS.alloc hS.size _) (fun hS => ?_)
                clear hK K
                (try simp only [Act.put, List.setIfInBounds_toArray, List.set_cons_zero, List.set_cons_succ])
                refine wpAnyH_ready (rs := [11]) (by kernel_rfl) (by simp) ?_
                refine AllReadyH.cons rfl (fun K hK => ?_) AllReadyH.nil
                go_simp
                go_wp2_with fail
                have C6 := Cells.new y0 #[.int .i64 X.tx, .int .i64 X.last, .bool X.com, .bool X.und] 48
                have B6 := KD.out.alloc KD.out.size (.cells #[.int .i64 X.tx, .int .i64 X.last, .bool X.com, .bool X.und] 48)
                refine hK.out _ _ B6 (fun hS => ?_)
                clear hK K hS
                (try simp only [Act.put, List.setIfInBounds_toArray, List.set_cons_zero, List.set_cons_succ])
                refine wpAnyH_done (by kernel_rfl) ?_ _
                go_wp2_with fail
                go_meet
                exact ⟨j, hj, X, _, rfl, LV.out, MEM.out, C6, by have := SZ.out; omega, B6⟩
              · go_simp
                go_wp2_with fail
                refine hK.out _ _ (hS.alloc hS.size _) (fun hS => ?_)
                clear hK K
                (try simp only [Act.put, List.setIfInBounds_toArray, List.set_cons_zero, List.set_cons_succ])
                refine wpAnyH_ready (rs := [7]) (by kernel_rfl) (by simp) ?_
                refine AllReadyH.cons rfl (fun K hK => ?_) AllReadyH.nil
                go_simp
                go_wp2_with fail
                refine (RL.out _).mono ?_
                rintro e2 wz ⟨j, hj, rfl, rfl⟩
                go_wp2_with fail
                refine hK.out _ _ hS (fun hS => ?_)
                clear hK K
                (try simp only [Act.put, List.setIfInBounds_toArray, List.set_cons_zero, List.set_cons_succ])
                have hjl : j < F.live.length := by rw [← HNL.out]; exact hj
                have LV := hide (HI.out.lv F.live[j] (List.getElem_mem hjl))
                have MEM := hide (List.getElem_mem hjl)
                obtain ⟨xb, xo, hla, xlt, xel⟩ := Lies.rowAt lvC 4 (fun _ => rfl) HI.out.li j hjl (by decide)
                subst hla
                generalize F.live[j] = X at *
                have XC := hide (show ∀ wq, Below w2.heap.size w2 wq → wq.cell? ⟨xb, xo + j * 4, none⟩ = some (.int .i64 X.tx) ∧ wq.cell? ⟨xb, xo + j * 4 + 1, none⟩ = some (.int .i64 X.last) ∧ wq.cell? ⟨xb, xo + j * 4 + 2, none⟩ = some (.bool X.com) ∧ wq.cell? ⟨xb, xo + j * 4 + 3, none⟩ = some (.bool X.und) from fun wq hk => by
                  have bq := SB.out.be.trans (hk.mono SB.out.be.size)
                  have g := fun o v (q : w.cell? ⟨xb, o, none⟩ = some v) => (bq.cell (p := ⟨xb, o, none⟩) xlt).trans q
                  exact ⟨g _ _ (by have := xel 0 _ rfl; rwa [Nat.add_zero] at this), g _ _ (xel 1 _ rfl), g _ _ (xel 2 _ rfl), g _ _ (xel 3 _ rfl)⟩)
                clear xel
                refine take_at 8 (some 119) (v := ?_) rfl rfl (by kernel_rfl) (by kernel_rfl) (by kernel_rfl) (fun _ _ _ h => h) ⟨by rfl, ?_⟩ hS ?_
                rotate_left
                · intro wq hSw; go_simp; try rfl
                simp only [Act.put, List.setIfInBounds_toArray, List.set_cons_zero, List.set_cons_succ]
                refine take_at 9 (some 120) (v := ?_) rfl rfl (by kernel_rfl) (by kernel_rfl) (by kernel_rfl) (fun _ _ _ h => h) ⟨by rfl, ?_⟩ hS ?_
                rotate_left
                · intro wq hSw; obtain ⟨q0, q1, q2, q3⟩ := XC.out wq hSw; go_simp; try rfl
                simp only [Act.put, List.setIfInBounds_toArray, List.set_cons_zero, List.set_cons_succ]
                refine wpAnyH_ready (rs := [11]) (by kernel_rfl) (by simp) ?_
                refine AllReadyH.cons rfl (fun K hK => ?_) AllReadyH.nil
                go_simp
                go_wp2_with fail
                have C6 := Cells.new y0 #[.int .i64 X.tx, .int .i64 X.last, .bool X.com, .bool X.und] 48
                have B6 := KD.out.alloc KD.out.size (.cells #[.int .i64 X.tx, .int .i64 X.last, .bool X.com, .bool X.und] 48)
                refine hK.out _ _ B6 (fun hS => ?_)
                clear hK K hS
                (try simp only [Act.put, List.setIfInBounds_toArray, List.set_cons_zero, List.set_cons_succ])
                refine wpAnyH_done (by kernel_rfl) ?_ _
                go_wp2_with fail
                go_meet
                exact ⟨j, hj, X, _, rfl, LV.out, MEM.out, C6, by have := SZ.out; omega, B6⟩
            case rest =>
              obtain ⟨j, hj, X, xb2, rfl, hlv, hmem, hC, hx2, hbz⟩ := hcut
              obtain ⟨w5, hw5⟩ : ∃ x, x = wc := ⟨_, rfl⟩
              rw [← hw5] at hC hbz ⊢
              have S5 := hide (SB.out.below hbz)
              have XC := hide hC
              have LV := hide hlv
              have MEM := hide hmem
              clear hw5 hC hbz hlv hmem SB RL hj
              obtain ⟨x0, -⟩ := XC.out.get 0 _ rfl
              obtain ⟨x1, -⟩ := XC.out.get 1 _ rfl
              go_upto_region 20 with (first | (refine wpList_b46 _ (rcA lsn 0 X.tx X.last 0 0 0 0 0 (.slice none 0 0) (.slice none 0 0) 0) ?hf ?_; case hf => kernel_rfl) | (refine wpList_store36 (cs := rec0) (RBox.new _ _ _) rfl rfl rfl rfl rfl ?_; intro w6 hb6 hk6))
              have B6 := newBox hk6
              obtain ⟨rb, hrb⟩ : ∃ b, b = w5.heap.size := ⟨_, rfl⟩
              have S6 := hide (S5.out.below B6)
              have X6 := hide (XC.out.below B6)
              have R6 := hide hb6
              have LR := hide (show sb < w5.heap.size ∧ xb2 < w5.heap.size from ⟨S5.out.b.1, XC.out.1⟩)
              rw [← hrb] at R6 LR ⊢
              clear hrb hb6 hk6 B6 S5 XC x0 x1
              obtain ⟨xt, xl, xc, xu⟩ := X
              simp only at *
              obtain ⟨y2, -⟩ := X6.out.get 2 _ rfl
              obtain ⟨y3, -⟩ := X6.out.get 3 _ rfl
              obtain ⟨c1, d1⟩ := R6.out.cells.get 1 _ rfl
              cases xc with
              | true =>
                as_aux_lemma =>
                  go_upto_region 22 with fail
                  refine named (P := Code.wp _ _ _ _) ?_
                  intro w7 hw7
                  have K7 := hide (show Keep (fun z => z = rb) w6 w7 by rw [hw7]; exact ((Keep.refl (fun z => z = rb) w6).setCell (g := rb) (j := 1) (fun _ => rfl) (.int .i64 7)))
                  have R7 := hide (show RBox w7 rb 46 (rcA lsn 7 xt xl 0 0 0 0 0 (.slice none 0 0) (.slice none 0 0) 0) by rw [hw7]; exact (RBox.setCell R6.out 1 (.int .i64 7)))
                  have S7 := hide (S6.out.keep K7.out (fun z q => by have := LR.out; omega))
                  clear hw7 K7 R6 S6 X6 c1 d1 y2 y3
                  go_wp2_with (first | refine wpList_load36 R7.out rfl rfl ?_ | (refine wpList_store36 S7.out.o rfl rfl rfl rfl rfl ?_; intro w3 hb3 hk3))
                  exact bodyPost_ret (results_box46 rfl _ _ rfl hb3 rfl) rfl ⟨⟨bare lsn 7 xt xl, none, 0, none, 0⟩, rfl, .inr (.inr (.inr (.inl ⟨_, MEM.out, 7, by omega, by rfl, rfl⟩))), ⟨.inl rfl, .inl rfl, LV.out.2⟩, (fun ad q => by rcases q with q | q <;> cases q), S7.out.be.trans (hk3.below S7.out.be.size (fun z hz q => by have := S7.out.lo; omega))⟩
              | false =>
                cases xu with
                | true =>
                  by_cases h8 : K < 8
                  · have e8 : decide ((K : Int) < 8) = true := by simp; omega
                    as_aux_lemma =>
                      go_upto_region 22 with fail
                      refine named (P := Code.wp _ _ _ _) ?_
                      intro w7 hw7
                      have K7 := hide (show Keep (fun z => z = rb) w6 w7 by rw [hw7]; exact ((Keep.refl (fun z => z = rb) w6).setCell (g := rb) (j := 1) (fun _ => rfl) (.int .i64 7)))
                      have R7 := hide (show RBox w7 rb 46 (rcA lsn 7 xt xl 0 0 0 0 0 (.slice none 0 0) (.slice none 0 0) 0) by rw [hw7]; exact (RBox.setCell R6.out 1 (.int .i64 7)))
                      have S7 := hide (S6.out.keep K7.out (fun z q => by have := LR.out; omega))
                      clear hw7 K7 R6 S6 X6 c1 d1 y2 y3
                      go_wp2_with (first | refine wpList_load36 R7.out rfl rfl ?_ | (refine wpList_store36 S7.out.o rfl rfl rfl rfl rfl ?_; intro w3 hb3 hk3))
                      exact bodyPost_ret (results_box46 rfl _ _ rfl hb3 rfl) rfl ⟨⟨bare lsn 7 xt xl, none, 0, none, 0⟩, rfl, .inr (.inr (.inr (.inl ⟨_, MEM.out, 7, by omega, by rfl, rfl⟩))), ⟨.inl rfl, .inl rfl, LV.out.2⟩, (fun ad q => by rcases q with q | q <;> cases q), S7.out.be.trans (hk3.below S7.out.be.size (fun z hz q => by have := S7.out.lo; omega))⟩
                  · have e8 : decide ((K : Int) < 8) = false := by simp; omega
                    by_cases h10 : K = 10
                    · have e10 : ((K : Int) == 10) = true := by simp; omega
                      clear h10
                      as_aux_lemma =>
                        go_upto_region 27 with fail
                        refine named (P := Code.wp _ _ _ _) ?_
                        intro w7 hw7
                        have K7 := hide (show Keep (fun z => z = rb) w6 w7 by rw [hw7]; exact (((Keep.refl (fun z => z = rb) w6).setCell (g := rb) (j := 1) (fun _ => rfl) (.int .i64 5)).setCell (g := rb) (j := 1) (fun _ => rfl) (.int .i64 7)))
                        have R7 := hide (show RBox w7 rb 46 (rcA lsn 7 xt xl 0 0 0 0 0 (.slice none 0 0) (.slice none 0 0) 0) by rw [hw7]; exact (RBox.setCell (RBox.setCell R6.out 1 (.int .i64 5)) 1 (.int .i64 7)))
                        have S7 := hide (S6.out.keep K7.out (fun z q => by have := LR.out; omega))
                        clear hw7 K7 R6 S6 X6 c1 d1 y2 y3
                        go_wp2_with (first | refine wpList_load36 R7.out rfl rfl ?_ | (refine wpList_store36 S7.out.o rfl rfl rfl rfl rfl ?_; intro w3 hb3 hk3))
                        exact bodyPost_ret (results_box46 rfl _ _ rfl hb3 rfl) rfl ⟨⟨bare lsn 7 xt xl, none, 0, none, 0⟩, rfl, .inr (.inr (.inr (.inl ⟨_, MEM.out, 7, by omega, by rfl, rfl⟩))), ⟨.inl rfl, .inl rfl, LV.out.2⟩, (fun ad q => by rcases q with q | q <;> cases q), S7.out.be.trans (hk3.below S7.out.be.size (fun z hz q => by have := S7.out.lo; omega))⟩
                    · have e10 : ((K : Int) == 10) = false := by simp; omega
                      have e11 : ((K : Int) == 11) = true ∨ ((K : Int) == 11) = false := by cases ((K : Int) == 11) <;> simp
                      rcases e11 with e11 | e11
                      · clear h10
                        as_aux_lemma =>
                          go_upto_region 34 with fail
                          refine named (P := Code.wp _ _ _ _) ?_
                          intro w7 hw7
                          have K7 := hide (show Keep (fun z => z = rb) w6 w7 by rw [hw7]; exact (((Keep.refl (fun z => z = rb) w6).setCell (g := rb) (j := 1) (fun _ => rfl) (.int .i64 3)).setCell (g := rb) (j := 1) (fun _ => rfl) (.int .i64 4)))
                          have R7 := hide (show RBox w7 rb 46 (rcA lsn 4 xt xl 0 0 0 0 0 (.slice none 0 0) (.slice none 0 0) 0) by rw [hw7]; exact (RBox.setCell (RBox.setCell R6.out 1 (.int .i64 3)) 1 (.int .i64 4)))
                          have S7 := hide (S6.out.keep K7.out (fun z q => by have := LR.out; omega))
                          clear hw7 K7 R6 S6 X6 c1 d1 y2 y3
                          obtain ⟨a0, -⟩ := S7.out.a.get 0 _ rfl
                          obtain ⟨a1, -⟩ := S7.out.a.get 1 _ rfl
                          obtain ⟨b0, -⟩ := S7.out.b.get 0 _ rfl
                          obtain ⟨b1, -⟩ := S7.out.b.get 1 _ rfl
                          obtain ⟨c4, d4⟩ := R7.out.cells.get 4 _ rfl
                          obtain ⟨c5, d5⟩ := R7.out.cells.get 5 _ rfl
                          obtain ⟨c6, d6⟩ := R7.out.cells.get 6 _ rfl
                          obtain ⟨c7, d7⟩ := R7.out.cells.get 7 _ rfl
                          obtain ⟨c8, d8⟩ := R7.out.cells.get 8 _ rfl
                          obtain ⟨c9, d9⟩ := R7.out.cells.get 9 _ rfl
                          have NE := hide (show wb ≠ rb ∧ sb ≠ rb by have := LR.out; have := S7.out.lo; omega)
                          go_upto_region 35 with fail
                          refine named (P := Code.wp _ _ _ _) ?_
                          intro w8 hw8
                          have K8 := hide (show Keep (fun z => z = rb) w7 w8 by rw [hw8]; exact (((Keep.refl (fun z => z = rb) w7).setCell (g := rb) (j := 4) (fun _ => rfl) (.int .i64 (wp : Int))).setCell (g := rb) (j := 5) (fun _ => rfl) (.int .i64 0)))
                          have R8 := hide (show RBox w8 rb 46 (rcA lsn 4 xt xl (wp : Int) 0 0 0 0 (.slice none 0 0) (.slice none 0 0) 0) by rw [hw8]; exact RBox.setCell (RBox.setCell R7.out 4 (.int .i64 (wp : Int))) 5 (.int .i64 0))
                          have S8 := hide (S7.out.keep K8.out (fun z q => by have := LR.out; omega))
                          clear hw8 K8 R7 S7 a0 a1 b0 b1 c4 c5 c6 c7 c8 c9 d4 d5 d6 d7 d8 d9
                          obtain ⟨b0, -⟩ := S8.out.b.get 0 _ rfl
                          obtain ⟨b1, -⟩ := S8.out.b.get 1 _ rfl
                          obtain ⟨c6, d6⟩ := R8.out.cells.get 6 _ rfl
                          obtain ⟨c7, d7⟩ := R8.out.cells.get 7 _ rfl
                          obtain ⟨c8, d8⟩ := R8.out.cells.get 8 _ rfl
                          obtain ⟨c9, d9⟩ := R8.out.cells.get 9 _ rfl
                          go_upto_region 36 with fail
                          refine named (P := Code.wp _ _ _ _) ?_
                          intro w9 hw9
                          have K9 := hide (show Keep (fun z => z = rb) w8 w9 by rw [hw9]; exact (((Keep.refl (fun z => z = rb) w8).setCell (g := rb) (j := 6) (fun _ => rfl) (.int .i64 (20 + (sp : Int)))).setCell (g := rb) (j := 7) (fun _ => rfl) (.int .i64 0)))
                          have R9 := hide (show RBox w9 rb 46 (rcA lsn 4 xt xl (wp : Int) (20 + (sp : Int)) 0 0 0 (.slice none 0 0) (.slice none 0 0) 0) by rw [hw9]; exact RBox.setCell (RBox.setCell R8.out 6 (.int .i64 (20 + (sp : Int)))) 7 (.int .i64 0))
                          have S9 := hide (S8.out.keep K9.out (fun z q => by have := LR.out; omega))
                          clear hw9 K9 R8 S8 b0 b1 c6 c7 c8 c9 d6 d7 d8 d9
                          obtain ⟨c8, d8⟩ := R9.out.cells.get 8 _ rfl
                          obtain ⟨c9, d9⟩ := R9.out.cells.get 9 _ rfl
                          go_upto_region 38 with fail
                          refine named (P := Code.wp _ _ _ _) ?_
                          intro w7 hw7
                          have K7 := hide (show Keep (fun z => z = rb) w9 w7 by rw [hw7]; exact (((Keep.refl (fun z => z = rb) w9).setCell (g := rb) (j := 9) (fun _ => rfl) (.int .i64 1)).setCell (g := rb) (j := 8) (fun _ => rfl) (.int .i64 1)))
                          have R7 := hide (show RBox w7 rb 46 (rcA lsn 4 xt xl (wp : Int) (20 + (sp : Int)) 1 1 0 (.slice none 0 0) (.slice none 0 0) 0) by rw [hw7]; exact RBox.setCell (RBox.setCell R9.out 9 (.int .i64 1)) 8 (.int .i64 1))
                          have S7 := hide (S9.out.keep K7.out (fun z q => by have := LR.out; omega))
                          clear hw7 K7 R9 S9 c8 c9 d8 d9
                          go_wp2_with (first | refine wpList_load36 R7.out rfl rfl ?_ | (refine wpList_store36 S7.out.o rfl rfl rfl rfl rfl ?_; intro w3 hb3 hk3))
                          exact bodyPost_ret (results_box46 rfl _ _ rfl hb3 rfl) rfl ⟨⟨{ bare lsn 4 xt xl with wp := (wp : Int), sp := 20 + (sp : Int), delta := 1, id := 1 }, none, 0, none, 0⟩, rfl, .inr (.inr (.inr (.inr ⟨_, MEM.out, 4, wp, 20 + (sp : Int), by omega, by rfl, by omega, by omega, by omega, by omega, rfl⟩))), ⟨.inl rfl, .inl rfl, LV.out.2⟩, (fun ad q => by rcases q with q | q <;> cases q), S7.out.be.trans (hk3.below S7.out.be.size (fun z hz q => by have := S7.out.lo; omega))⟩
                      · clear h10
                        as_aux_lemma =>
                          go_upto_region 34 with fail
                          refine named (P := Code.wp _ _ _ _) ?_
                          intro w7 hw7
                          have K7 := hide (show Keep (fun z => z = rb) w6 w7 by rw [hw7]; exact (((Keep.refl (fun z => z = rb) w6).setCell (g := rb) (j := 1) (fun _ => rfl) (.int .i64 3)).setCell (g := rb) (j := 1) (fun _ => rfl) (.int .i64 4)))
                          have R7 := hide (show RBox w7 rb 46 (rcA lsn 4 xt xl 0 0 0 0 0 (.slice none 0 0) (.slice none 0 0) 0) by rw [hw7]; exact (RBox.setCell (RBox.setCell R6.out 1 (.int .i64 3)) 1 (.int .i64 4)))
                          have S7 := hide (S6.out.keep K7.out (fun z q => by have := LR.out; omega))
                          clear hw7 K7 R6 S6 X6 c1 d1 y2 y3
                          obtain ⟨a0, -⟩ := S7.out.a.get 0 _ rfl
                          obtain ⟨a1, -⟩ := S7.out.a.get 1 _ rfl
                          obtain ⟨b0, -⟩ := S7.out.b.get 0 _ rfl
                          obtain ⟨b1, -⟩ := S7.out.b.get 1 _ rfl
                          obtain ⟨c4, d4⟩ := R7.out.cells.get 4 _ rfl
                          obtain ⟨c5, d5⟩ := R7.out.cells.get 5 _ rfl
                          obtain ⟨c6, d6⟩ := R7.out.cells.get 6 _ rfl
                          obtain ⟨c7, d7⟩ := R7.out.cells.get 7 _ rfl
                          obtain ⟨c8, d8⟩ := R7.out.cells.get 8 _ rfl
                          obtain ⟨c9, d9⟩ := R7.out.cells.get 9 _ rfl
                          have NE := hide (show wb ≠ rb ∧ sb ≠ rb by have := LR.out; have := S7.out.lo; omega)
                          go_upto_region 35 with fail
                          refine named (P := Code.wp _ _ _ _) ?_
                          intro w8 hw8
                          have K8 := hide (show Keep (fun z => z = rb) w7 w8 by rw [hw8]; exact (((Keep.refl (fun z => z = rb) w7).setCell (g := rb) (j := 4) (fun _ => rfl) (.int .i64 (wp : Int))).setCell (g := rb) (j := 5) (fun _ => rfl) (.int .i64 0)))
                          have R8 := hide (show RBox w8 rb 46 (rcA lsn 4 xt xl (wp : Int) 0 0 0 0 (.slice none 0 0) (.slice none 0 0) 0) by rw [hw8]; exact RBox.setCell (RBox.setCell R7.out 4 (.int .i64 (wp : Int))) 5 (.int .i64 0))
                          have S8 := hide (S7.out.keep K8.out (fun z q => by have := LR.out; omega))
                          clear hw8 K8 R7 S7 a0 a1 b0 b1 c4 c5 c6 c7 c8 c9 d4 d5 d6 d7 d8 d9
                          obtain ⟨b0, -⟩ := S8.out.b.get 0 _ rfl
                          obtain ⟨b1, -⟩ := S8.out.b.get 1 _ rfl
                          obtain ⟨c6, d6⟩ := R8.out.cells.get 6 _ rfl
                          obtain ⟨c7, d7⟩ := R8.out.cells.get 7 _ rfl
                          obtain ⟨c8, d8⟩ := R8.out.cells.get 8 _ rfl
                          obtain ⟨c9, d9⟩ := R8.out.cells.get 9 _ rfl
                          go_upto_region 36 with fail
                          refine named (P := Code.wp _ _ _ _) ?_
                          intro w9 hw9
                          have K9 := hide (show Keep (fun z => z = rb) w8 w9 by rw [hw9]; exact (((Keep.refl (fun z => z = rb) w8).setCell (g := rb) (j := 6) (fun _ => rfl) (.int .i64 (20 + (sp : Int)))).setCell (g := rb) (j := 7) (fun _ => rfl) (.int .i64 0)))
                          have R9 := hide (show RBox w9 rb 46 (rcA lsn 4 xt xl (wp : Int) (20 + (sp : Int)) 0 0 0 (.slice none 0 0) (.slice none 0 0) 0) by rw [hw9]; exact RBox.setCell (RBox.setCell R8.out 6 (.int .i64 (20 + (sp : Int)))) 7 (.int .i64 0))
                          have S9 := hide (S8.out.keep K9.out (fun z q => by have := LR.out; omega))
                          clear hw9 K9 R8 S8 b0 b1 c6 c7 c8 c9 d6 d7 d8 d9
                          obtain ⟨c8, d8⟩ := R9.out.cells.get 8 _ rfl
                          obtain ⟨c9, d9⟩ := R9.out.cells.get 9 _ rfl
                          go_upto_region 38 with fail
                          refine named (P := Code.wp _ _ _ _) ?_
                          intro w7 hw7
                          have K7 := hide (show Keep (fun z => z = rb) w9 w7 by rw [hw7]; exact (((Keep.refl (fun z => z = rb) w9).setCell (g := rb) (j := 9) (fun _ => rfl) (.int .i64 1)).setCell (g := rb) (j := 8) (fun _ => rfl) (.int .i64 1)))
                          have R7 := hide (show RBox w7 rb 46 (rcA lsn 4 xt xl (wp : Int) (20 + (sp : Int)) 1 1 0 (.slice none 0 0) (.slice none 0 0) 0) by rw [hw7]; exact RBox.setCell (RBox.setCell R9.out 9 (.int .i64 1)) 8 (.int .i64 1))
                          have S7 := hide (S9.out.keep K7.out (fun z q => by have := LR.out; omega))
                          clear hw7 K7 R9 S9 c8 c9 d8 d9
                          go_wp2_with (first | refine wpList_load36 R7.out rfl rfl ?_ | (refine wpList_store36 S7.out.o rfl rfl rfl rfl rfl ?_; intro w3 hb3 hk3))
                          exact bodyPost_ret (results_box46 rfl _ _ rfl hb3 rfl) rfl ⟨⟨{ bare lsn 4 xt xl with wp := (wp : Int), sp := 20 + (sp : Int), delta := 1, id := 1 }, none, 0, none, 0⟩, rfl, .inr (.inr (.inr (.inr ⟨_, MEM.out, 4, wp, 20 + (sp : Int), by omega, by rfl, by omega, by omega, by omega, by omega, rfl⟩))), ⟨.inl rfl, .inl rfl, LV.out.2⟩, (fun ad q => by rcases q with q | q <;> cases q), S7.out.be.trans (hk3.below S7.out.be.size (fun z hz q => by have := S7.out.lo; omega))⟩
                | false =>
                  by_cases h10 : K = 10
                  · have e10 : ((K : Int) == 10) = true := by simp; omega
                    clear h10
                    as_aux_lemma =>
                      go_upto_region 27 with fail
                      refine named (P := Code.wp _ _ _ _) ?_
                      intro w7 hw7
                      have K7 := hide (show Keep (fun z => z = rb) w6 w7 by rw [hw7]; exact ((Keep.refl (fun z => z = rb) w6).setCell (g := rb) (j := 1) (fun _ => rfl) (.int .i64 5)))
                      have R7 := hide (show RBox w7 rb 46 (rcA lsn 5 xt xl 0 0 0 0 0 (.slice none 0 0) (.slice none 0 0) 0) by rw [hw7]; exact (RBox.setCell R6.out 1 (.int .i64 5)))
                      have S7 := hide (S6.out.keep K7.out (fun z q => by have := LR.out; omega))
                      clear hw7 K7 R6 S6 X6 c1 d1 y2 y3
                      go_wp2_with (first | refine wpList_load36 R7.out rfl rfl ?_ | (refine wpList_store36 S7.out.o rfl rfl rfl rfl rfl ?_; intro w3 hb3 hk3))
                      exact bodyPost_ret (results_box46 rfl _ _ rfl hb3 rfl) rfl ⟨⟨bare lsn 5 xt xl, none, 0, none, 0⟩, rfl, .inr (.inr (.inr (.inl ⟨_, MEM.out, 5, by omega, by rfl, rfl⟩))), ⟨.inl rfl, .inl rfl, LV.out.2⟩, (fun ad q => by rcases q with q | q <;> cases q), S7.out.be.trans (hk3.below S7.out.be.size (fun z hz q => by have := S7.out.lo; omega))⟩
                  · have e10 : ((K : Int) == 10) = false := by simp; omega
                    by_cases h11 : K = 11
                    · have e11 : ((K : Int) == 11) = true := by simp; omega
                      clear h11
                      as_aux_lemma =>
                        go_upto_region 30 with fail
                        refine named (P := Code.wp _ _ _ _) ?_
                        intro w7 hw7
                        have K7 := hide (show Keep (fun z => z = rb) w6 w7 by rw [hw7]; exact ((Keep.refl (fun z => z = rb) w6).setCell (g := rb) (j := 1) (fun _ => rfl) (.int .i64 6)))
                        have R7 := hide (show RBox w7 rb 46 (rcA lsn 6 xt xl 0 0 0 0 0 (.slice none 0 0) (.slice none 0 0) 0) by rw [hw7]; exact (RBox.setCell R6.out 1 (.int .i64 6)))
                        have S7 := hide (S6.out.keep K7.out (fun z q => by have := LR.out; omega))
                        clear hw7 K7 R6 S6 X6 c1 d1 y2 y3
                        go_wp2_with (first | refine wpList_load36 R7.out rfl rfl ?_ | (refine wpList_store36 S7.out.o rfl rfl rfl rfl rfl ?_; intro w3 hb3 hk3))
                        exact bodyPost_ret (results_box46 rfl _ _ rfl hb3 rfl) rfl ⟨⟨bare lsn 6 xt xl, none, 0, none, 0⟩, rfl, .inr (.inr (.inr (.inl ⟨_, MEM.out, 6, by omega, by rfl, rfl⟩))), ⟨.inl rfl, .inl rfl, LV.out.2⟩, (fun ad q => by rcases q with q | q <;> cases q), S7.out.be.trans (hk3.below S7.out.be.size (fun z hz q => by have := S7.out.lo; omega))⟩
                    · have e11 : ((K : Int) == 11) = false := by simp; omega
                      as_aux_lemma =>
                        go_upto_region 34 with fail
                        refine named (P := Code.wp _ _ _ _) ?_
                        intro w7 hw7
                        have K7 := hide (show Keep (fun z => z = rb) w6 w7 by rw [hw7]; exact ((Keep.refl (fun z => z = rb) w6).setCell (g := rb) (j := 1) (fun _ => rfl) (.int .i64 3)))
                        have R7 := hide (show RBox w7 rb 46 (rcA lsn 3 xt xl 0 0 0 0 0 (.slice none 0 0) (.slice none 0 0) 0) by rw [hw7]; exact (RBox.setCell R6.out 1 (.int .i64 3)))
                        have S7 := hide (S6.out.keep K7.out (fun z q => by have := LR.out; omega))
                        clear hw7 K7 R6 S6 X6 c1 d1 y2 y3
                        obtain ⟨a0, -⟩ := S7.out.a.get 0 _ rfl
                        obtain ⟨a1, -⟩ := S7.out.a.get 1 _ rfl
                        obtain ⟨b0, -⟩ := S7.out.b.get 0 _ rfl
                        obtain ⟨b1, -⟩ := S7.out.b.get 1 _ rfl
                        obtain ⟨c4, d4⟩ := R7.out.cells.get 4 _ rfl
                        obtain ⟨c5, d5⟩ := R7.out.cells.get 5 _ rfl
                        obtain ⟨c6, d6⟩ := R7.out.cells.get 6 _ rfl
                        obtain ⟨c7, d7⟩ := R7.out.cells.get 7 _ rfl
                        obtain ⟨c8, d8⟩ := R7.out.cells.get 8 _ rfl
                        obtain ⟨c9, d9⟩ := R7.out.cells.get 9 _ rfl
                        have NE := hide (show wb ≠ rb ∧ sb ≠ rb by have := LR.out; have := S7.out.lo; omega)
                        go_upto_region 35 with fail
                        refine named (P := Code.wp _ _ _ _) ?_
                        intro w8 hw8
                        have K8 := hide (show Keep (fun z => z = rb) w7 w8 by rw [hw8]; exact (((Keep.refl (fun z => z = rb) w7).setCell (g := rb) (j := 4) (fun _ => rfl) (.int .i64 (wp : Int))).setCell (g := rb) (j := 5) (fun _ => rfl) (.int .i64 0)))
                        have R8 := hide (show RBox w8 rb 46 (rcA lsn 3 xt xl (wp : Int) 0 0 0 0 (.slice none 0 0) (.slice none 0 0) 0) by rw [hw8]; exact RBox.setCell (RBox.setCell R7.out 4 (.int .i64 (wp : Int))) 5 (.int .i64 0))
                        have S8 := hide (S7.out.keep K8.out (fun z q => by have := LR.out; omega))
                        clear hw8 K8 R7 S7 a0 a1 b0 b1 c4 c5 c6 c7 c8 c9 d4 d5 d6 d7 d8 d9
                        obtain ⟨b0, -⟩ := S8.out.b.get 0 _ rfl
                        obtain ⟨b1, -⟩ := S8.out.b.get 1 _ rfl
                        obtain ⟨c6, d6⟩ := R8.out.cells.get 6 _ rfl
                        obtain ⟨c7, d7⟩ := R8.out.cells.get 7 _ rfl
                        obtain ⟨c8, d8⟩ := R8.out.cells.get 8 _ rfl
                        obtain ⟨c9, d9⟩ := R8.out.cells.get 9 _ rfl
                        go_upto_region 36 with fail
                        refine named (P := Code.wp _ _ _ _) ?_
                        intro w9 hw9
                        have K9 := hide (show Keep (fun z => z = rb) w8 w9 by rw [hw9]; exact (((Keep.refl (fun z => z = rb) w8).setCell (g := rb) (j := 6) (fun _ => rfl) (.int .i64 (20 + (sp : Int)))).setCell (g := rb) (j := 7) (fun _ => rfl) (.int .i64 0)))
                        have R9 := hide (show RBox w9 rb 46 (rcA lsn 3 xt xl (wp : Int) (20 + (sp : Int)) 0 0 0 (.slice none 0 0) (.slice none 0 0) 0) by rw [hw9]; exact RBox.setCell (RBox.setCell R8.out 6 (.int .i64 (20 + (sp : Int)))) 7 (.int .i64 0))
                        have S9 := hide (S8.out.keep K9.out (fun z q => by have := LR.out; omega))
                        clear hw9 K9 R8 S8 b0 b1 c6 c7 c8 c9 d6 d7 d8 d9
                        obtain ⟨c8, d8⟩ := R9.out.cells.get 8 _ rfl
                        obtain ⟨c9, d9⟩ := R9.out.cells.get 9 _ rfl
                        go_upto_region 38 with fail
                        refine named (P := Code.wp _ _ _ _) ?_
                        intro w7 hw7
                        have K7 := hide (show Keep (fun z => z = rb) w9 w7 by rw [hw7]; exact (((Keep.refl (fun z => z = rb) w9).setCell (g := rb) (j := 9) (fun _ => rfl) (.int .i64 1)).setCell (g := rb) (j := 8) (fun _ => rfl) (.int .i64 1)))
                        have R7 := hide (show RBox w7 rb 46 (rcA lsn 3 xt xl (wp : Int) (20 + (sp : Int)) 1 1 0 (.slice none 0 0) (.slice none 0 0) 0) by rw [hw7]; exact RBox.setCell (RBox.setCell R9.out 9 (.int .i64 1)) 8 (.int .i64 1))
                        have S7 := hide (S9.out.keep K7.out (fun z q => by have := LR.out; omega))
                        clear hw7 K7 R9 S9 c8 c9 d8 d9
                        go_wp2_with (first | refine wpList_load36 R7.out rfl rfl ?_ | (refine wpList_store36 S7.out.o rfl rfl rfl rfl rfl ?_; intro w3 hb3 hk3))
                        exact bodyPost_ret (results_box46 rfl _ _ rfl hb3 rfl) rfl ⟨⟨{ bare lsn 3 xt xl with wp := (wp : Int), sp := 20 + (sp : Int), delta := 1, id := 1 }, none, 0, none, 0⟩, rfl, .inr (.inr (.inr (.inr ⟨_, MEM.out, 3, wp, 20 + (sp : Int), by omega, by rfl, by omega, by omega, by omega, by omega, rfl⟩))), ⟨.inl rfl, .inl rfl, LV.out.2⟩, (fun ad q => by rcases q with q | q <;> cases q), S7.out.be.trans (hk3.below S7.out.be.size (fun z hz q => by have := S7.out.lo; omega))⟩
end Go.Proofs.Ytblngphjoafidaa
