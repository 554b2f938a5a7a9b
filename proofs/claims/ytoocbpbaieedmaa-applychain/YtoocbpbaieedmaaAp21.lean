import Derived.Test.YtoocbpbaieedmaaAp20
namespace Go.Proofs.Ytoocbpbaieedmaa
open Go.RowKit Go.QK Quota
set_option maxRecDepth 100000
set_option maxHeartbeats 16000000 in
theorem chain_le (p : Pg) (t : At) (l : List Rc) (sa : Option Addr) (sc : Nat) (kk : Int) (w : World) (h : PIn w p t) (hp : p.Num) (hl : Lies w sa (rowsC recL l)) (hr : ∀ r ∈ l, r.Fit ∧ Rc.One r) (hc : l.length ≤ sc) (h100 : ¬ 100 < l.length) : Calls Try.prog 6 #[pgV p t, .slice sa l.length sc, .int .i64 kk] w fun e w' => e = .returned (.bool true) ∧ Below w.heap.size w w' := by
  obtain ⟨C, hC⟩ : ∃ C, C = cutP p := ⟨_, rfl⟩
  have hcf : C.Fit := by rw [hC]; exact hp.cut
  obtain ⟨L, hL⟩ : ∃ L, L = l.take 100 := ⟨_, rfl⟩
  have LL := hide (show L.length ≤ 100 by rw [hL]; simp; omega)
  have LI := hide (show Lies w sa (rowsC recL L) by rw [hL, rowsC_take recL 17 (fun _ => rfl)]; exact Lies.take hl _)
  have LR := hide (show ∀ r ∈ L, r.Fit ∧ Rc.One r from fun r q => hr r (by rw [hL] at q; exact List.mem_of_mem_take q))
  have L1 := hide (show 100 < l.length → L.length = 100 from fun q => by rw [hL]; simp; omega)
  have L2 := hide (show ¬ 100 < l.length → L.length = l.length from fun q => by rw [hL]; simp; omega)
  have PARG := hide (show ∀ w', Below w.heap.size w w' → PIn w' p t from fun w' q => h.below q)
  have KC := fun w' (h : PIn w' p t) => cut_any p t w' h
  have IC := hide (show ∀ w', PIn w' p t → PIn w' C t from fun w' q => by rw [hC]; exact q.cut)
  have KL := fun w' h => lent_off C t w' h hcf
  have HCF := hide hcf
  have HIN := hide h
  show Calls Try.prog 6 #[.agg (pgA p.num p.lsn (.slice t.a p.cs.length t.c) (.slice t.b p.gs.length t.d)), .slice sa l.length sc, .int .i64 kk] w _
  rw [← hC] at KC
  clear hC hL hl hr h hp hcf
  go_enter Try.func6, Try.ntmps6
  go_upto_region 1 with fail
  refine named (P := Code.wp _ _ _ _) ?_
  intro w1 hw1
  obtain ⟨N, hN⟩ : ∃ N, N = w.heap.size := ⟨_, rfl⟩
  have b1 : Below w.heap.size w w1 := by rw [hw1]; exact alloc_below _ _
  have c1 : Cells w1 N [.int .i64 p.num, .int .i64 p.lsn, .slice t.a p.cs.length t.c, .slice t.b p.gs.length t.d] := by rw [hw1, hN]; exact Cells.new w (pgA p.num p.lsn (.slice t.a p.cs.length t.c) (.slice t.b p.gs.length t.d)) 25
  have HN := hide hN
  rw [← hN]
  clear hN hw1
  go_upto_region 3 with (go_at_call 8; refine (awake_any _).mono ?_; rintro e w2 ⟨rfl, h2⟩)
  have B2 := hide (b1.trans (h2.mono b1.size))
  have C2 := hide (c1.below h2)
  have I2 := hide (HIN.out.below B2.out)
  clear b1 c1 h2 HIN w1
  obtain ⟨p0, -⟩ := C2.out.get 0 _ rfl
  obtain ⟨p1, -⟩ := C2.out.get 1 _ rfl
  obtain ⟨p2, -⟩ := C2.out.get 2 _ rfl
  obtain ⟨p3, -⟩ := C2.out.get 3 _ rfl
  go_upto_region 4 with (go_at_call 11; refine (KC _ I2.out).mono ?_; rintro e w3 ⟨rfl, h3⟩; obtain ⟨y0, z0⟩ := (C2.out.below h3).get 0 _ rfl; obtain ⟨y1, z1⟩ := (C2.out.below h3).get 1 _ rfl; obtain ⟨y2, z2⟩ := (C2.out.below h3).get 2 _ rfl; obtain ⟨y3, z3⟩ := (C2.out.below h3).get 3 _ rfl)
  refine named (P := Code.wp _ _ _ _) ?_
  intro w4 hw4
  have K4 : Keep (fun i => i = N) w3 w4 := by rw [hw4]; exact ((((Keep.refl (fun i => i = N) w3).setCell (g := N) (j := 0) (fun _ => rfl) _).setCell (g := N) (j := 1) (fun _ => rfl) _).setCell (g := N) (j := 2) (fun _ => rfl) _).setCell (g := N) (j := 3) (fun _ => rfl) _
  have b34 := B2.out.trans (h3.mono B2.out.size)
  have A4 := hide (show CS w w4 N C t (.slice none 0 0) 0 [] from ⟨b34.trans (K4.below b34.size (fun i hi q => by have := HN.out; omega)), by rw [hw4]; exact ((((C2.out.below h3).stored (j := 0) (by simp) _).stored (j := 1) (by simp) _).stored (j := 2) (by simp) _).stored (j := 3) (by simp) _, World.ownsRow_nil _ _ _ _⟩)
  clear hw4 K4 b34 h3 p0 p1 p2 p3 y0 z0 y1 z1 y2 z2 y3 z3 C2 I2 B2 KC w2 w3
  have h100b : decide (100 < (l.length : Int)) = false := decide_eq_false (by omega)
  go_upto_region 6 with fail
  rw [show Value.slice sa l.length sc = Value.slice sa L.length sc by rw [L2.out h100]]
  clear h100b h100
  have LC := hide hc
  clear L1 L2 hc
  have n100 := LL.out
  skip
  go_wp2_with fail
  go_loopw [7, 8] (fun v x wr => ∃ j : Nat, x = .int .i64 (j : Int) ∧ j ≤ L.length ∧ CS w wr N C t v j (ren (L.take j))) (fun _ x _ => L.length - (intOf x).toNat)
  case atStart => exact ⟨0, rfl, Nat.zero_le _, by simpa [ren] using A4.out⟩
  case round =>
    clear A4
    obtain ⟨j, rfl, hj, hA⟩ := hrel
    have AK := hide hA
    clear hA
    by_cases hlt : j < L.length
    · have nx := ren_snoc (L.take j) L[j]
      rw [← take_next L j hlt, show (L.take j).length = j by simp; omega] at nx
      have NX := hide nx
      have FR := hide (LR.out L[j] (List.getElem_mem hlt)).2
      obtain ⟨sb, so, rfl, slt, sel⟩ := Lies.rowAt recL 17 (fun _ => rfl) LI.out j hlt (by decide)
      clear nx
      generalize L[j] = r at *
      obtain ⟨RA, hRA⟩ : ∃ A, A = recA r := ⟨_, rfl⟩
      have SR := hide (show RA.size = 17 by rw [hRA]; rfl)
      have ON := hide (show RA.toList.all (fun v => v.oneCell') = true by rw [hRA]; exact FR.out)
      have RK := hide (show RA.setIfInBounds 0 (.int .i64 (3 * (j : Int) + 1)) = recA (numR j r) by rw [hRA]; rfl)
      have R1 := hide (show ∀ (x : World) (n : Nat), RBox x n 38 RA → ∃ v, x.cell? ⟨n, 0, none⟩ = some v ∧ x.frozen? ⟨n, 0, none⟩ = false from fun x n z => by subst hRA; exact ⟨_, z.cells.get 0 _ rfl⟩)
      have RC := hide (show ∀ i v, RA.toList[i]? = some v → wr.cell? ⟨sb, so + j * 17 + i, none⟩ = some v from fun i v hv => by
        rw [hRA] at hv
        exact (AK.out.be.cell (p := ⟨sb, so + j * 17 + i, none⟩) slt).trans (sel i v hv))
      have ONN := hide (show Rc.One (numR j r) from FR.out.asK r.k _)
      clear hRA sel slt FR
      obtain ⟨oa, oc, e7, -⟩ := GRow.lies AK.out.row
      subst e7
      go_upto_region 11 with (first | refine wpList_ld38At RC.out SR.out rfl ?_ | (refine wpList_store38 (RBox.new _ #[.int .i64 0, .int .i64 0, .int .i64 0, .int .i64 0, .int .i64 0, .int .i64 0, .int .i64 0, .int .i64 0, .int .i64 0, .int .i64 0, .int .i64 0, .int .i64 0, .int .i64 0, .int .i64 0, .slice none 0 0, .slice none 0 0, .int .i64 0] 38) rfl SR.out ON.out rfl rfl ?_; intro w5 hx hk))
      obtain ⟨rb, hrb⟩ : ∃ rb, rb = wr.heap.size := ⟨_, rfl⟩
      have b5 : Below wr.heap.size wr w5 := (alloc_below wr _).trans (hk.below (by simp) (fun k hk q => by omega))
      have A5 := hide (AK.out.below b5)
      have X5 := hide (show RBox w5 rb 38 RA by rw [hrb]; exact hx)
      have NB := hide (show ¬ rb = N ∧ w.heap.size ≤ rb ∧ (∀ g, (Value.slice oa j oc).ownBlock = some g → ¬ g = rb) from ⟨by have := AK.out.pc.1; omega, by rw [hrb]; exact AK.out.be.size, fun g hg => by have := (World.ownsRow.lt AK.out.row g hg).2; omega⟩)
      rw [← hrb]
      clear hx hk b5 hrb AK RC
      obtain ⟨v0, k0, l0⟩ := R1.out _ _ X5.out
      have hw1 : wrap64 (3 * (j : Int)) = 3 * (j : Int) := by unfold wrap64; omega
      have hw2 : wrap64 (3 * (j : Int) + 1) = 3 * (j : Int) + 1 := by unfold wrap64; omega
      go_upto_region 12 with fail
      refine named (P := Code.wp _ _ _ _) ?_
      intro w6 hw6
      have K6 : Keep (fun i => i = rb) w5 w6 := by rw [hw6]; exact (Keep.refl (fun i => i = rb) w5).setCell (g := rb) (j := 0) (fun _ => rfl) _
      have X6 := hide (show RBox w6 rb 38 (recA (numR j r)) by rw [hw6, ← RK.out]; exact X5.out.setCell 0 _)
      have A6 := hide (show CS w w6 N C t (.slice oa j oc) j (ren (L.take j)) from ⟨A5.out.be.trans (K6.below A5.out.be.size (fun i hi q => by have := NB.out.2.1; omega)), A5.out.pc.keep K6 (fun q => NB.out.1 q.symm), GRow.keep A5.out.row K6 (fun g hg q => NB.out.2.2 g hg q)⟩)
      clear hw6 K6 k0 l0 X5 A5 hw1 hw2 RK R1
      have al := alloc_below w6 (.cells (recA (numR j r)) 38)
      obtain ⟨v7, w7, hrun, hO, hg7, hn7⟩ := run_push38 53 (w6.alloc (.cells (recA (numR j r)) 38)) (N + 1) (.slice oa j oc) j (rowsC recL (ren (L.take j))) (GRow.below A6.out.row al) ⟨w6.heap.size, 0, none⟩ 1 1 (recL (numR j r)) rfl (lies_new38 w6 _) (one_mem ONN.out) (by omega) (by have := A6.out.pc.1; simp; omega)
      have A7 := hide (show CS w w7 N C t v7 (j + 1) (ren (L.take (j + 1))) from by
        have hb := A6.out.below al
        have g7 : Below (N + 1) (w6.alloc (.cells (recA (numR j r)) 38)) w7 := (Below.refl _ _).grown hg7 (by have := A6.out.pc.1; simp; omega) (fun k hk => (World.ownsRow.lt A6.out.row k hk).1)
        refine ⟨hb.be.trans (g7.mono (by have := HN.out; omega)), hb.pc.under (Nat.lt_succ_self _) g7, ?_⟩
        rw [NX.out, rowsC_snoc]
        exact hO)
      have HRN := hide hrun
      clear hO hg7 hn7 al hrun A6
      go_upto_region 9 with (first | refine wpList_load38 X6.out rfl rfl ?_ | (refine wpList_build53 (r := numR j r) rfl ?_) | (at_builtin; refine wpList_run rfl (.tmp _) (.tmp _) rfl rfl rfl HRN.out ?_))
      go_wp2_with fail
      go_roundw
      case rel => exact ⟨j + 1, by go_num, by omega, A7.out⟩
      case measure => simp [intOf]; omega
    · have hjl : j = L.length := by omega
      rw [hjl, List.take_length] at AK
      subst hjl
      clear hj hlt
      obtain ⟨oa, oc, e7, lo, hoc, -, hon, -⟩ := GRow.lies AK.out.row
      subst e7
      obtain ⟨R, hR⟩ : ∃ R, R = ren L := ⟨_, rfl⟩
      have RL := hide (show R.length = L.length by rw [hR]; exact ren_len L)
      have RF := hide (show ∀ r ∈ R, r.Fit by rw [hR]; exact ren_fit L (fun r q => (LR.out r q).1))
      have CH := hide (fun k => do_chain C R k (by rw [hR]; exact ren_rise L))
      rw [← hR] at AK lo
      have LO8 := hide lo
      have HOC := hide hoc
      have HON := hide hon
      clear hR lo hoc hon LR LI
      have hz : ((L.length : Int) + 1 == 0) = false := by simp; omega
      have hw1 : wrap64 ((L.length : Int) + 1) = (L.length : Int) + 1 := by unfold wrap64; omega
      obtain ⟨k1, hk1⟩ : ∃ k1, k1 = Int.tmod kk ((L.length : Int) + 1) := ⟨_, rfl⟩
      have KB1 := hide (show -(L.length : Int) ≤ k1 ∧ k1 ≤ (L.length : Int) by rw [hk1]; have a1 := Int.tmod_lt_of_pos kk (show (0 : Int) < (L.length : Int) + 1 by omega); have a2 := Int.lt_tmod_of_pos kk (show (0 : Int) < (L.length : Int) + 1 by omega); omega)
      go_upto_region 14 with fail
      rw [← hk1]
      clear hk1 hz hw1
      go_upto_if 46 with fail
      go_cut [2] (fun v w' => ∃ m : Nat, v = .int .i64 (m : Int) ∧ m ≤ L.length ∧ wr = w')
      case first =>
        by_cases hneg : decide (k1 < 0) = true
        · have hwn : wrap64 (-k1) = -k1 := by have := KB1.out; unfold wrap64; omega
          rw [hneg]
          go_wp2_with fail
          go_meet
          exact ⟨(-k1).toNat, by have := of_decide_eq_true hneg; rw [hwn, Int.toNat_of_nonneg (by omega)], by have := KB1.out; omega, rfl⟩
        · have hneg' : decide (k1 < 0) = false := by simpa using hneg
          rw [hneg']
          go_wp2_with fail
          go_meet
          exact ⟨k1.toNat, by have := of_decide_eq_false hneg'; rw [Int.toNat_of_nonneg (by omega)], by have := KB1.out; omega, rfl⟩
      case rest =>
        obtain ⟨m, rfl, hm, hwc⟩ := hcut
        subst hwc
        clear KB1
        obtain ⟨W, hW⟩ : ∃ W, W = runP C R := ⟨_, rfl⟩
        have WF := hide (show W.Fit by rw [hW]; exact run_fit HCF.out R RF.out)
        have RT := hide (show ∀ r ∈ R.take m, r.Fit from fun r q => RF.out r (List.mem_of_mem_take q))
        have TL := hide (show (R.take m).length = m by rw [List.length_take, RL.out]; omega)
        obtain ⟨A, hA⟩ : ∃ A, A = runP W (R.take m) := ⟨_, rfl⟩
        obtain ⟨H, hH⟩ : ∃ H, H = runP C (R.take m) := ⟨_, rfl⟩
        have AF := hide (show A.Fit by rw [hA]; exact run_fit WF.out _ RT.out)
        have HF := hide (show H.Fit by rw [hH]; exact run_fit HCF.out _ RT.out)
        have K1 := fun u w' h (q : Lies w' oa (rowsC recL R)) => allOf_at C u R oa oc w' h HCF.out q RF.out (by rw [RL.out]; omega) L.length RL.out
        have K2 := fun u w' h (q : Lies w' oa (rowsC recL R)) => allOf_at W u (R.take m) oa oc w' h WF.out (by rw [rowsC_take recL 17 (fun _ => rfl)]; exact Lies.take q _) RT.out (by rw [TL.out]; omega) m TL.out
        have K3 := fun u w' h (q : Lies w' oa (rowsC recL R)) => allOf_at A u R oa oc w' h AF.out q RF.out (by rw [RL.out]; omega) L.length RL.out
        have K4 := fun u w' h (q : Lies w' oa (rowsC recL R)) => allOf_at C u (R.take m) oa oc w' h HCF.out (by rw [rowsC_take recL 17 (fun _ => rfl)]; exact Lies.take q _) RT.out (by rw [TL.out]; omega) m TL.out
        have K5 := fun u w' h (q : Lies w' oa (rowsC recL R)) => allOf_at H u R oa oc w' h HF.out q RF.out (by rw [RL.out]; omega) L.length RL.out
        obtain ⟨c1, c2⟩ := CH.out m
        rw [← hW] at K1
        rw [← hA] at K2
        rw [← hH] at K4
        rw [← hW, ← hA] at c1
        rw [← hH, ← hW] at c2
        rw [c1] at K3
        rw [c2] at K5
        have KS := fun u v w' h1 h2 => same_at W u v w' WF.out h1 h2
        have KB := fun u w' => back_any W u w'
        clear hW hA hH c1 c2 CH RF RT TL AF HF RL HCF
        have HM := hide (fun wq => slice_to17 oa L.length oc m wq hm HOC.out HON.out)
        clear HOC HON
        have I9 := hide (IC.out _ (PARG.out _ AK.out.be))
        obtain ⟨p0, -⟩ := AK.out.pc.get 0 _ rfl
        obtain ⟨p1, -⟩ := AK.out.pc.get 1 _ rfl
        obtain ⟨p2, -⟩ := AK.out.pc.get 2 _ rfl
        obtain ⟨p3, -⟩ := AK.out.pc.get 3 _ rfl
        go_upto_region 17 with (first | (go_at_call 10; refine (KL _ I9.out).mono ?_; rintro e wa ⟨ua, rfl, ia, -, ha⟩; have LA := hide (LO8.out.below ha)) | (go_at_call 16; refine (K1 _ _ ia LA.out).mono ?_; rintro e wb ⟨ub, rfl, ib, -, hb⟩))
        refine named (P := Code.wp _ _ _ _) ?_
        intro wd hwd
        obtain ⟨xb, hxb⟩ : ∃ xb, xb = wb.heap.size := ⟨_, rfl⟩
        have al : Below wb.heap.size wb wd := by rw [hwd]; exact alloc_below _ _
        have b9 := (ha.trans (hb.mono ha.size)).trans (al.mono (Nat.le_trans ha.size hb.size))
        have WC := hide (show Cells wd xb [.int .i64 W.num, .int .i64 W.lsn, .slice ub.a W.cs.length ub.c, .slice ub.b W.gs.length ub.d] by rw [hwd, hxb]; exact Cells.new _ _ _)
        have WI := hide (ib.below al)
        have AD := hide (AK.out.below b9)
        have LD9 := hide (LO8.out.below b9)
        have ID := hide (I9.out.below b9)
        rw [← hxb]
        clear hwd hxb al b9 ha hb ia ib p0 p1 p2 p3 LA LO8 I9 AK K1
        go_cut [11] (fun v w' => ∃ qb u, v = ptr qb ∧ Cells w' qb [.int .i64 W.num, .int .i64 W.lsn, .slice u.a W.cs.length u.c, .slice u.b W.gs.length u.d] ∧ PIn w' W u ∧ Below wd.heap.size wd w')
        case first =>
          refine wp_region_held_drew (S := fun wq => Below wd.heap.size wd wq) (by kernel_rfl) (Below.refl _ _).drew (fun hS => ?_)
          generalize wd.drew = y0 at *
          refine take_at 0 (some 53) (v := ?_) rfl rfl (by kernel_rfl) (by kernel_rfl) (by kernel_rfl) (fun _ _ _ h => h) ⟨by rfl, ?_⟩ hS ?_
          rotate_left
          · intro wq hSw; have qq := WC.out.below hSw; obtain ⟨q0, _⟩ := qq.get 0 _ rfl; obtain ⟨q1, _⟩ := qq.get 1 _ rfl; obtain ⟨q2, _⟩ := qq.get 2 _ rfl; obtain ⟨q3, _⟩ := qq.get 3 _ rfl; clear qq; go_simp; try rfl
          simp only [Act.put, List.setIfInBounds_toArray, List.set_cons_zero, List.set_cons_succ]
          refine take_at 1 (some 54) (v := ?_) rfl rfl (by kernel_rfl) (by kernel_rfl) (by kernel_rfl) (fun _ _ _ h => h) ⟨by rfl, ?_⟩ hS ?_
          rotate_left
          · intro wq hSw; go_simp; try rfl
          simp only [Act.put, List.setIfInBounds_toArray, List.set_cons_zero, List.set_cons_succ]
          refine take_at 2 (some 55) (v := ?_) rfl rfl (by kernel_rfl) (by kernel_rfl) (by kernel_rfl) (fun _ _ _ h => h) ⟨by rfl, ?_⟩ hS ?_
          rotate_left
          · intro wq hSw; go_simp; try rfl
          simp only [Act.put, List.setIfInBounds_toArray, List.set_cons_zero, List.set_cons_succ]
          refine take_at 3 (some 56) (v := ?_) rfl rfl (by kernel_rfl) (by kernel_rfl) (by kernel_rfl) (fun _ _ _ h => h) ⟨by rfl, ?_⟩ hS ?_
          rotate_left
          · intro wq hSw; have q := HM.out wq; go_simp; try rfl
          simp only [Act.put, List.setIfInBounds_toArray, List.set_cons_zero, List.set_cons_succ]
          refine take_at 5 (some 58) (v := ?_) rfl rfl (by kernel_rfl) (by kernel_rfl) (by kernel_rfl) (fun _ _ _ h => h) ⟨by rfl, ?_⟩ hS ?_
          rotate_left
          · intro wq hSw; go_simp; try rfl
          simp only [Act.put, List.setIfInBounds_toArray, List.set_cons_zero, List.set_cons_succ]
          have J := hide (WI.out.below hS)
          have LO := hide hS.size
          refine wpAnyH_ready (rs := [4, 7]) (by kernel_rfl) (by simp) ?_
          refine AllReadyH.cons rfl (fun K hK => ?_) (AllReadyH.cons rfl (fun K hK => ?_) AllReadyH.nil)
          · clear LO
            go_simp
            go_wp2_with fail
            refine (K2 _ _ J.out (LD9.out.below hS)).mono ?_
            rintro e x1 ⟨u, rfl, i2, off, hh⟩
            have s_x1 : Below wd.heap.size wd x1 := hS.trans (hh.mono hS.size)
            have Jn := hide i2
            clear J
            have J := Jn
            clear Jn i2 off hh hS
            go_wp2_with fail
            refine hK.out _ _ s_x1 (fun hS => ?_)
            clear hK K s_x1
            (try simp only [Act.put, List.setIfInBounds_toArray, List.set_cons_zero, List.set_cons_succ])
            have LO := hide hS.size
            refine wpAnyH_ready (rs := [6, 7]) (by kernel_rfl) (by simp) ?_
            refine AllReadyH.cons rfl (fun K hK => ?_) (AllReadyH.cons rfl (fun K hK => ?_) AllReadyH.nil)
            · clear LO
              go_simp
              go_wp2_with fail
              refine (K3 _ _ J.out (LD9.out.below hS)).mono ?_
              rintro e x2 ⟨u, rfl, i2, off, hh⟩
              have s_x2 : Below wd.heap.size wd x2 := hS.trans (hh.mono hS.size)
              have Jn := hide i2
              clear J
              have J := Jn
              clear Jn i2 off hh hS
              go_wp2_with fail
              refine hK.out _ _ s_x2 (fun hS => ?_)
              clear hK K s_x2
              (try simp only [Act.put, List.setIfInBounds_toArray, List.set_cons_zero, List.set_cons_succ])
              have LO := hide hS.size
              refine wpAnyH_ready (rs := [7]) (by kernel_rfl) (by simp) ?_
              refine AllReadyH.cons rfl (fun K hK => ?_) AllReadyH.nil
              go_simp
              go_wp2_with fail
              refine hK.out _ _ (hS.alloc hS.size _) (fun hS => ?_)
              clear hK K
              (try simp only [Act.put, List.setIfInBounds_toArray, List.set_cons_zero, List.set_cons_succ])
              refine named (P := wpAnyH _ _ _ _ _ _ _ _) ?_
              intro xa hxa
              rw [← hxa] at hS
              obtain ⟨qb, hqb⟩ : ∃ qb, qb = x2.heap.size := ⟨_, rfl⟩
              have al : Below x2.heap.size x2 xa := by rw [hxa]; exact alloc_below _ _
              have Z := hide (show Cells xa qb [.int .i64 0, .int .i64 0, .slice none 0 0, .slice none 0 0] by rw [hxa, hqb]; exact Cells.new _ _ _)
              have OF := hide (off_of (b := qb) J.out (by rw [hqb]; exact Nat.le_refl _))
              have Jn := hide (J.out.below al)
              clear J
              have J := Jn
              have QB := hide (show wd.heap.size ≤ qb by rw [hqb]; exact LO.out)
              rw [← hqb]
              clear Jn hxa hqb al LO
              have K8 := ((((Keep.refl (fun i => i = qb) xa).setCell (g := qb) (j := 0) (fun _ => rfl) (.int .i64 W.num)).setCell (g := qb) (j := 1) (fun _ => rfl) (.int .i64 W.lsn)).setCell (g := qb) (j := 2) (fun _ => rfl) (.slice u.a W.cs.length u.c)).setCell (g := qb) (j := 3) (fun _ => rfl) (.slice u.b W.gs.length u.d)
              have C8 := (((Z.out.stored (j := 0) (by simp) (.int .i64 W.num)).stored (j := 1) (by simp) (.int .i64 W.lsn)).stored (j := 2) (by simp) (.slice u.a W.cs.length u.c)).stored (j := 3) (by simp) (.slice u.b W.gs.length u.d)
              obtain ⟨y0, z0⟩ := Z.out.get 0 _ rfl
              obtain ⟨y1, z1⟩ := Z.out.get 1 _ rfl
              obtain ⟨y2, z2⟩ := Z.out.get 2 _ rfl
              obtain ⟨y3, z3⟩ := Z.out.get 3 _ rfl
              have HK8 := hide K8
              have HC8 := hide C8
              clear K8 C8
              have S8 := hide (hS.trans (HK8.out.below hS.size (fun i hi q => by have := QB.out; omega)))
              clear hS
              refine wpAnyH_ready (rs := [8]) (by kernel_rfl) (by simp) ?_
              refine AllReadyH.cons rfl (fun K hK => ?_) AllReadyH.nil
              go_simp
              go_wp2_with fail
              refine hK.out _ _ S8.out (fun hS => ?_)
              clear hK K hS
              (try simp only [Act.put])
              refine wpAnyH_done (by kernel_rfl) ?_ _
              clear y0 z0 y1 z1 y2 z2 y3 z3
              have JF := hide (OF.out _ _ J.out HK8.out)
              go_wp2_with fail
              go_meet
              exact ⟨qb, u, rfl, HC8.out, JF.out, S8.out⟩
            · go_simp
              go_wp2_with fail
              refine hK.out _ _ (hS.alloc hS.size _) (fun hS => ?_)
              clear hK K
              (try simp only [Act.put, List.setIfInBounds_toArray, List.set_cons_zero, List.set_cons_succ])
              refine named (P := wpAnyH _ _ _ _ _ _ _ _) ?_
              intro xa hxa
              rw [← hxa] at hS
              obtain ⟨qb, hqb⟩ : ∃ qb, qb = x1.heap.size := ⟨_, rfl⟩
              have al : Below x1.heap.size x1 xa := by rw [hxa]; exact alloc_below _ _
              have Z := hide (show Cells xa qb [.int .i64 0, .int .i64 0, .slice none 0 0, .slice none 0 0] by rw [hxa, hqb]; exact Cells.new _ _ _)
              have OF := hide (off_of (b := qb) J.out (by rw [hqb]; exact Nat.le_refl _))
              have Jn := hide (J.out.below al)
              clear J
              have J := Jn
              have QB := hide (show wd.heap.size ≤ qb by rw [hqb]; exact LO.out)
              rw [← hqb]
              clear Jn hxa hqb al LO
              refine wpAnyH_ready (rs := [6]) (by kernel_rfl) (by simp) ?_
              refine AllReadyH.cons rfl (fun K hK => ?_) AllReadyH.nil
              go_simp
              go_wp2_with fail
              refine (K3 _ _ J.out (LD9.out.below hS)).mono ?_
              rintro e x2 ⟨u, rfl, i2, off, hh⟩
              have s_x2 : Below wd.heap.size wd x2 := hS.trans (hh.mono hS.size)
              have OFn := hide (off qb Z.out.1 OF.out)
              have Zn := hide (Z.out.below hh)
              clear OF Z
              have OF := OFn
              have Z := Zn
              clear OFn Zn
              have Jn := hide i2
              clear J
              have J := Jn
              clear Jn i2 off hh hS
              go_wp2_with fail
              refine hK.out _ _ s_x2 (fun hS => ?_)
              clear hK K s_x2
              (try simp only [Act.put, List.setIfInBounds_toArray, List.set_cons_zero, List.set_cons_succ])
              have K8 := ((((Keep.refl (fun i => i = qb) x2).setCell (g := qb) (j := 0) (fun _ => rfl) (.int .i64 W.num)).setCell (g := qb) (j := 1) (fun _ => rfl) (.int .i64 W.lsn)).setCell (g := qb) (j := 2) (fun _ => rfl) (.slice u.a W.cs.length u.c)).setCell (g := qb) (j := 3) (fun _ => rfl) (.slice u.b W.gs.length u.d)
              have C8 := (((Z.out.stored (j := 0) (by simp) (.int .i64 W.num)).stored (j := 1) (by simp) (.int .i64 W.lsn)).stored (j := 2) (by simp) (.slice u.a W.cs.length u.c)).stored (j := 3) (by simp) (.slice u.b W.gs.length u.d)
              obtain ⟨y0, z0⟩ := Z.out.get 0 _ rfl
              obtain ⟨y1, z1⟩ := Z.out.get 1 _ rfl
              obtain ⟨y2, z2⟩ := Z.out.get 2 _ rfl
              obtain ⟨y3, z3⟩ := Z.out.get 3 _ rfl
              have HK8 := hide K8
              have HC8 := hide C8
              clear K8 C8
              have S8 := hide (hS.trans (HK8.out.below hS.size (fun i hi q => by have := QB.out; omega)))
              clear hS
              refine wpAnyH_ready (rs := [8]) (by kernel_rfl) (by simp) ?_
              refine AllReadyH.cons rfl (fun K hK => ?_) AllReadyH.nil
              go_simp
              go_wp2_with fail
              refine hK.out _ _ S8.out (fun hS => ?_)
              clear hK K hS
              (try simp only [Act.put])
              refine wpAnyH_done (by kernel_rfl) ?_ _
              clear y0 z0 y1 z1 y2 z2 y3 z3
              have JF := hide (OF.out _ _ J.out HK8.out)
              go_wp2_with fail
              go_meet
              exact ⟨qb, u, rfl, HC8.out, JF.out, S8.out⟩
          · go_simp
            go_wp2_with fail
            refine hK.out _ _ (hS.alloc hS.size _) (fun hS => ?_)
            clear hK K
            (try simp only [Act.put, List.setIfInBounds_toArray, List.set_cons_zero, List.set_cons_succ])
            refine named (P := wpAnyH _ _ _ _ _ _ _ _) ?_
            intro xa hxa
            rw [← hxa] at hS
            obtain ⟨qb, hqb⟩ : ∃ qb, qb = y0.heap.size := ⟨_, rfl⟩
            have al : Below y0.heap.size y0 xa := by rw [hxa]; exact alloc_below _ _
            have Z := hide (show Cells xa qb [.int .i64 0, .int .i64 0, .slice none 0 0, .slice none 0 0] by rw [hxa, hqb]; exact Cells.new _ _ _)
            have OF := hide (off_of (b := qb) J.out (by rw [hqb]; exact Nat.le_refl _))
            have Jn := hide (J.out.below al)
            clear J
            have J := Jn
            have QB := hide (show wd.heap.size ≤ qb by rw [hqb]; exact LO.out)
            rw [← hqb]
            clear Jn hxa hqb al LO
            refine wpAnyH_ready (rs := [4]) (by kernel_rfl) (by simp) ?_
            refine AllReadyH.cons rfl (fun K hK => ?_) AllReadyH.nil
            go_simp
            go_wp2_with fail
            refine (K2 _ _ J.out (LD9.out.below hS)).mono ?_
            rintro e x1 ⟨u, rfl, i2, off, hh⟩
            have s_x1 : Below wd.heap.size wd x1 := hS.trans (hh.mono hS.size)
            have OFn := hide (off qb Z.out.1 OF.out)
            have Zn := hide (Z.out.below hh)
            clear OF Z
            have OF := OFn
            have Z := Zn
            clear OFn Zn
            have Jn := hide i2
            clear J
            have J := Jn
            clear Jn i2 off hh hS
            go_wp2_with fail
            refine hK.out _ _ s_x1 (fun hS => ?_)
            clear hK K s_x1
            (try simp only [Act.put, List.setIfInBounds_toArray, List.set_cons_zero, List.set_cons_succ])
            refine wpAnyH_ready (rs := [6]) (by kernel_rfl) (by simp) ?_
            refine AllReadyH.cons rfl (fun K hK => ?_) AllReadyH.nil
            go_simp
            go_wp2_with fail
            refine (K3 _ _ J.out (LD9.out.below hS)).mono ?_
            rintro e x2 ⟨u, rfl, i2, off, hh⟩
            have s_x2 : Below wd.heap.size wd x2 := hS.trans (hh.mono hS.size)
            have OFn := hide (off qb Z.out.1 OF.out)
            have Zn := hide (Z.out.below hh)
            clear OF Z
            have OF := OFn
            have Z := Zn
            clear OFn Zn
            have Jn := hide i2
            clear J
            have J := Jn
            clear Jn i2 off hh hS
            go_wp2_with fail
            refine hK.out _ _ s_x2 (fun hS => ?_)
            clear hK K s_x2
            (try simp only [Act.put, List.setIfInBounds_toArray, List.set_cons_zero, List.set_cons_succ])
            have K8 := ((((Keep.refl (fun i => i = qb) x2).setCell (g := qb) (j := 0) (fun _ => rfl) (.int .i64 W.num)).setCell (g := qb) (j := 1) (fun _ => rfl) (.int .i64 W.lsn)).setCell (g := qb) (j := 2) (fun _ => rfl) (.slice u.a W.cs.length u.c)).setCell (g := qb) (j := 3) (fun _ => rfl) (.slice u.b W.gs.length u.d)
            have C8 := (((Z.out.stored (j := 0) (by simp) (.int .i64 W.num)).stored (j := 1) (by simp) (.int .i64 W.lsn)).stored (j := 2) (by simp) (.slice u.a W.cs.length u.c)).stored (j := 3) (by simp) (.slice u.b W.gs.length u.d)
            obtain ⟨y0, z0⟩ := Z.out.get 0 _ rfl
            obtain ⟨y1, z1⟩ := Z.out.get 1 _ rfl
            obtain ⟨y2, z2⟩ := Z.out.get 2 _ rfl
            obtain ⟨y3, z3⟩ := Z.out.get 3 _ rfl
            have HK8 := hide K8
            have HC8 := hide C8
            clear K8 C8
            have S8 := hide (hS.trans (HK8.out.below hS.size (fun i hi q => by have := QB.out; omega)))
            clear hS
            refine wpAnyH_ready (rs := [8]) (by kernel_rfl) (by simp) ?_
            refine AllReadyH.cons rfl (fun K hK => ?_) AllReadyH.nil
            go_simp
            go_wp2_with fail
            refine hK.out _ _ S8.out (fun hS => ?_)
            clear hK K hS
            (try simp only [Act.put])
            refine wpAnyH_done (by kernel_rfl) ?_ _
            clear y0 z0 y1 z1 y2 z2 y3 z3
            have JF := hide (OF.out _ _ J.out HK8.out)
            go_wp2_with fail
            go_meet
            exact ⟨qb, u, rfl, HC8.out, JF.out, S8.out⟩
        case rest =>
          obtain ⟨ab, u7, rfl, hc, hi, hb⟩ := hcut
          have AC := hide hc
          have AI := hide hi
          have WC2 := hide (WC.out.below hb)
          have WI2 := hide (WI.out.below hb)
          have AE := hide (AD.out.below hb)
          have LE := hide (LD9.out.below hb)
          have IE := hide (ID.out.below hb)
          clear hc hi hb WC WI AD LD9 ID K2 K3 wd
          obtain ⟨we, hwe⟩ : ∃ we, we = wc := ⟨_, rfl⟩
          skip
          clear hwe we
          go_upto_region 18 with fail
          go_cut [12] (fun v w' => ∃ qb u, v = ptr qb ∧ Cells w' qb [.int .i64 W.num, .int .i64 W.lsn, .slice u.a W.cs.length u.c, .slice u.b W.gs.length u.d] ∧ PIn w' W u ∧ Below wc.heap.size wc w')
          case first =>
            refine wp_region_held_drew (S := fun wq => Below wc.heap.size wc wq) (by kernel_rfl) (Below.refl _ _).drew (fun hS => ?_)
            generalize wc.drew = y0 at *
            refine take_at 0 (some 60) (v := ?_) rfl rfl (by kernel_rfl) (by kernel_rfl) (by kernel_rfl) (fun _ _ _ h => h) ⟨by rfl, ?_⟩ hS ?_
            rotate_left
            · intro wq hSw; have qq := (AE.out.below hSw).pc; obtain ⟨q0, _⟩ := qq.get 0 _ rfl; obtain ⟨q1, _⟩ := qq.get 1 _ rfl; obtain ⟨q2, _⟩ := qq.get 2 _ rfl; obtain ⟨q3, _⟩ := qq.get 3 _ rfl; clear qq; go_simp; try rfl
            simp only [Act.put, List.setIfInBounds_toArray, List.set_cons_zero, List.set_cons_succ]
            refine take_at 2 (some 62) (v := ?_) rfl rfl (by kernel_rfl) (by kernel_rfl) (by kernel_rfl) (fun _ _ _ h => h) ⟨by rfl, ?_⟩ hS ?_
            rotate_left
            · intro wq hSw; go_simp; try rfl
            simp only [Act.put, List.setIfInBounds_toArray, List.set_cons_zero, List.set_cons_succ]
            refine take_at 3 (some 63) (v := ?_) rfl rfl (by kernel_rfl) (by kernel_rfl) (by kernel_rfl) (fun _ _ _ h => h) ⟨by rfl, ?_⟩ hS ?_
            rotate_left
            · intro wq hSw; go_simp; try rfl
            simp only [Act.put, List.setIfInBounds_toArray, List.set_cons_zero, List.set_cons_succ]
            refine take_at 4 (some 64) (v := ?_) rfl rfl (by kernel_rfl) (by kernel_rfl) (by kernel_rfl) (fun _ _ _ h => h) ⟨by rfl, ?_⟩ hS ?_
            rotate_left
            · intro wq hSw; have q := HM.out wq; go_simp; try rfl
            simp only [Act.put, List.setIfInBounds_toArray, List.set_cons_zero, List.set_cons_succ]
            refine take_at 6 (some 66) (v := ?_) rfl rfl (by kernel_rfl) (by kernel_rfl) (by kernel_rfl) (fun _ _ _ h => h) ⟨by rfl, ?_⟩ hS ?_
            rotate_left
            · intro wq hSw; go_simp; try rfl
            simp only [Act.put, List.setIfInBounds_toArray, List.set_cons_zero, List.set_cons_succ]
            have J := hide (IE.out.below hS)
            have LO := hide hS.size
            refine wpAnyH_ready (rs := [1, 8]) (by kernel_rfl) (by simp) ?_
            refine AllReadyH.cons rfl (fun K hK => ?_) (AllReadyH.cons rfl (fun K hK => ?_) AllReadyH.nil)
            · clear LO
              go_simp
              go_wp2_with fail
              refine (KL _ J.out).mono ?_
              rintro e x1 ⟨u, rfl, i2, off, hh⟩
              have s_x1 : Below wc.heap.size wc x1 := hS.trans (hh.mono hS.size)
              have Jn := hide i2
              clear J
              have J := Jn
              clear Jn i2 off hh hS
              go_wp2_with fail
              refine hK.out _ _ s_x1 (fun hS => ?_)
              clear hK K s_x1
              (try simp only [Act.put, List.setIfInBounds_toArray, List.set_cons_zero, List.set_cons_succ])
              have LO := hide hS.size
              refine wpAnyH_ready (rs := [5, 8]) (by kernel_rfl) (by simp) ?_
              refine AllReadyH.cons rfl (fun K hK => ?_) (AllReadyH.cons rfl (fun K hK => ?_) AllReadyH.nil)
              · clear LO
                go_simp
                go_wp2_with fail
                refine (K4 _ _ J.out (LE.out.below hS)).mono ?_
                rintro e x2 ⟨u, rfl, i2, off, hh⟩
                have s_x2 : Below wc.heap.size wc x2 := hS.trans (hh.mono hS.size)
                have Jn := hide i2
                clear J
                have J := Jn
                clear Jn i2 off hh hS
                go_wp2_with fail
                refine hK.out _ _ s_x2 (fun hS => ?_)
                clear hK K s_x2
                (try simp only [Act.put, List.setIfInBounds_toArray, List.set_cons_zero, List.set_cons_succ])
                have LO := hide hS.size
                refine wpAnyH_ready (rs := [7, 8]) (by kernel_rfl) (by simp) ?_
                refine AllReadyH.cons rfl (fun K hK => ?_) (AllReadyH.cons rfl (fun K hK => ?_) AllReadyH.nil)
                · clear LO
                  go_simp
                  go_wp2_with fail
                  refine (K5 _ _ J.out (LE.out.below hS)).mono ?_
                  rintro e x3 ⟨u, rfl, i2, off, hh⟩
                  have s_x3 : Below wc.heap.size wc x3 := hS.trans (hh.mono hS.size)
                  have Jn := hide i2
                  clear J
                  have J := Jn
                  clear Jn i2 off hh hS
                  go_wp2_with fail
                  refine hK.out _ _ s_x3 (fun hS => ?_)
                  clear hK K s_x3
                  (try simp only [Act.put, List.setIfInBounds_toArray, List.set_cons_zero, List.set_cons_succ])
                  have LO := hide hS.size
                  refine wpAnyH_ready (rs := [8]) (by kernel_rfl) (by simp) ?_
                  refine AllReadyH.cons rfl (fun K hK => ?_) AllReadyH.nil
                  go_simp
                  go_wp2_with fail
                  refine hK.out _ _ (hS.alloc hS.size _) (fun hS => ?_)
                  clear hK K
                  (try simp only [Act.put, List.setIfInBounds_toArray, List.set_cons_zero, List.set_cons_succ])
                  refine named (P := wpAnyH _ _ _ _ _ _ _ _) ?_
                  intro xa hxa
                  rw [← hxa] at hS
                  obtain ⟨qb, hqb⟩ : ∃ qb, qb = x3.heap.size := ⟨_, rfl⟩
                  have al : Below x3.heap.size x3 xa := by rw [hxa]; exact alloc_below _ _
                  have Z := hide (show Cells xa qb [.int .i64 0, .int .i64 0, .slice none 0 0, .slice none 0 0] by rw [hxa, hqb]; exact Cells.new _ _ _)
                  have OF := hide (off_of (b := qb) J.out (by rw [hqb]; exact Nat.le_refl _))
                  have Jn := hide (J.out.below al)
                  clear J
                  have J := Jn
                  have QB := hide (show wc.heap.size ≤ qb by rw [hqb]; exact LO.out)
                  rw [← hqb]
                  clear Jn hxa hqb al LO
                  have K8 := ((((Keep.refl (fun i => i = qb) xa).setCell (g := qb) (j := 0) (fun _ => rfl) (.int .i64 W.num)).setCell (g := qb) (j := 1) (fun _ => rfl) (.int .i64 W.lsn)).setCell (g := qb) (j := 2) (fun _ => rfl) (.slice u.a W.cs.length u.c)).setCell (g := qb) (j := 3) (fun _ => rfl) (.slice u.b W.gs.length u.d)
                  have C8 := (((Z.out.stored (j := 0) (by simp) (.int .i64 W.num)).stored (j := 1) (by simp) (.int .i64 W.lsn)).stored (j := 2) (by simp) (.slice u.a W.cs.length u.c)).stored (j := 3) (by simp) (.slice u.b W.gs.length u.d)
                  obtain ⟨y0, z0⟩ := Z.out.get 0 _ rfl
                  obtain ⟨y1, z1⟩ := Z.out.get 1 _ rfl
                  obtain ⟨y2, z2⟩ := Z.out.get 2 _ rfl
                  obtain ⟨y3, z3⟩ := Z.out.get 3 _ rfl
                  have HK8 := hide K8
                  have HC8 := hide C8
                  clear K8 C8
                  have S8 := hide (hS.trans (HK8.out.below hS.size (fun i hi q => by have := QB.out; omega)))
                  clear hS
                  refine wpAnyH_ready (rs := [9]) (by kernel_rfl) (by simp) ?_
                  refine AllReadyH.cons rfl (fun K hK => ?_) AllReadyH.nil
                  go_simp
                  go_wp2_with fail
                  refine hK.out _ _ S8.out (fun hS => ?_)
                  clear hK K hS
                  (try simp only [Act.put])
                  refine wpAnyH_done (by kernel_rfl) ?_ _
                  clear y0 z0 y1 z1 y2 z2 y3 z3
                  have JF := hide (OF.out _ _ J.out HK8.out)
                  go_wp2_with fail
                  go_meet
                  exact ⟨qb, u, rfl, HC8.out, JF.out, S8.out⟩
                · go_simp
                  go_wp2_with fail
                  refine hK.out _ _ (hS.alloc hS.size _) (fun hS => ?_)
                  clear hK K
                  (try simp only [Act.put, List.setIfInBounds_toArray, List.set_cons_zero, List.set_cons_succ])
                  refine named (P := wpAnyH _ _ _ _ _ _ _ _) ?_
                  intro xa hxa
                  rw [← hxa] at hS
                  obtain ⟨qb, hqb⟩ : ∃ qb, qb = x2.heap.size := ⟨_, rfl⟩
                  have al : Below x2.heap.size x2 xa := by rw [hxa]; exact alloc_below _ _
                  have Z := hide (show Cells xa qb [.int .i64 0, .int .i64 0, .slice none 0 0, .slice none 0 0] by rw [hxa, hqb]; exact Cells.new _ _ _)
                  have OF := hide (off_of (b := qb) J.out (by rw [hqb]; exact Nat.le_refl _))
                  have Jn := hide (J.out.below al)
                  clear J
                  have J := Jn
                  have QB := hide (show wc.heap.size ≤ qb by rw [hqb]; exact LO.out)
                  rw [← hqb]
                  clear Jn hxa hqb al LO
                  refine wpAnyH_ready (rs := [7]) (by kernel_rfl) (by simp) ?_
                  refine AllReadyH.cons rfl (fun K hK => ?_) AllReadyH.nil
                  go_simp
                  go_wp2_with fail
                  refine (K5 _ _ J.out (LE.out.below hS)).mono ?_
                  rintro e x3 ⟨u, rfl, i2, off, hh⟩
                  have s_x3 : Below wc.heap.size wc x3 := hS.trans (hh.mono hS.size)
                  have OFn := hide (off qb Z.out.1 OF.out)
                  have Zn := hide (Z.out.below hh)
                  clear OF Z
                  have OF := OFn
                  have Z := Zn
                  clear OFn Zn
                  have Jn := hide i2
                  clear J
                  have J := Jn
                  clear Jn i2 off hh hS
                  go_wp2_with fail
                  refine hK.out _ _ s_x3 (fun hS => ?_)
                  clear hK K s_x3
                  (try simp only [Act.put, List.setIfInBounds_toArray, List.set_cons_zero, List.set_cons_succ])
                  have K8 := ((((Keep.refl (fun i => i = qb) x3).setCell (g := qb) (j := 0) (fun _ => rfl) (.int .i64 W.num)).setCell (g := qb) (j := 1) (fun _ => rfl) (.int .i64 W.lsn)).setCell (g := qb) (j := 2) (fun _ => rfl) (.slice u.a W.cs.length u.c)).setCell (g := qb) (j := 3) (fun _ => rfl) (.slice u.b W.gs.length u.d)
                  have C8 := (((Z.out.stored (j := 0) (by simp) (.int .i64 W.num)).stored (j := 1) (by simp) (.int .i64 W.lsn)).stored (j := 2) (by simp) (.slice u.a W.cs.length u.c)).stored (j := 3) (by simp) (.slice u.b W.gs.length u.d)
                  obtain ⟨y0, z0⟩ := Z.out.get 0 _ rfl
                  obtain ⟨y1, z1⟩ := Z.out.get 1 _ rfl
                  obtain ⟨y2, z2⟩ := Z.out.get 2 _ rfl
                  obtain ⟨y3, z3⟩ := Z.out.get 3 _ rfl
                  have HK8 := hide K8
                  have HC8 := hide C8
                  clear K8 C8
                  have S8 := hide (hS.trans (HK8.out.below hS.size (fun i hi q => by have := QB.out; omega)))
                  clear hS
                  refine wpAnyH_ready (rs := [9]) (by kernel_rfl) (by simp) ?_
                  refine AllReadyH.cons rfl (fun K hK => ?_) AllReadyH.nil
                  go_simp
                  go_wp2_with fail
                  refine hK.out _ _ S8.out (fun hS => ?_)
                  clear hK K hS
                  (try simp only [Act.put])
                  refine wpAnyH_done (by kernel_rfl) ?_ _
                  clear y0 z0 y1 z1 y2 z2 y3 z3
                  have JF := hide (OF.out _ _ J.out HK8.out)
                  go_wp2_with fail
                  go_meet
                  exact ⟨qb, u, rfl, HC8.out, JF.out, S8.out⟩
              · go_simp
                go_wp2_with fail
                refine hK.out _ _ (hS.alloc hS.size _) (fun hS => ?_)
                clear hK K
                (try simp only [Act.put, List.setIfInBounds_toArray, List.set_cons_zero, List.set_cons_succ])
                refine named (P := wpAnyH _ _ _ _ _ _ _ _) ?_
                intro xa hxa
                rw [← hxa] at hS
                obtain ⟨qb, hqb⟩ : ∃ qb, qb = x1.heap.size := ⟨_, rfl⟩
                have al : Below x1.heap.size x1 xa := by rw [hxa]; exact alloc_below _ _
                have Z := hide (show Cells xa qb [.int .i64 0, .int .i64 0, .slice none 0 0, .slice none 0 0] by rw [hxa, hqb]; exact Cells.new _ _ _)
                have OF := hide (off_of (b := qb) J.out (by rw [hqb]; exact Nat.le_refl _))
                have Jn := hide (J.out.below al)
                clear J
                have J := Jn
                have QB := hide (show wc.heap.size ≤ qb by rw [hqb]; exact LO.out)
                rw [← hqb]
                clear Jn hxa hqb al LO
                refine wpAnyH_ready (rs := [5]) (by kernel_rfl) (by simp) ?_
                refine AllReadyH.cons rfl (fun K hK => ?_) AllReadyH.nil
                go_simp
                go_wp2_with fail
                refine (K4 _ _ J.out (LE.out.below hS)).mono ?_
                rintro e x2 ⟨u, rfl, i2, off, hh⟩
                have s_x2 : Below wc.heap.size wc x2 := hS.trans (hh.mono hS.size)
                have OFn := hide (off qb Z.out.1 OF.out)
                have Zn := hide (Z.out.below hh)
                clear OF Z
                have OF := OFn
                have Z := Zn
                clear OFn Zn
                have Jn := hide i2
                clear J
                have J := Jn
                clear Jn i2 off hh hS
                go_wp2_with fail
                refine hK.out _ _ s_x2 (fun hS => ?_)
                clear hK K s_x2
                (try simp only [Act.put, List.setIfInBounds_toArray, List.set_cons_zero, List.set_cons_succ])
                refine wpAnyH_ready (rs := [7]) (by kernel_rfl) (by simp) ?_
                refine AllReadyH.cons rfl (fun K hK => ?_) AllReadyH.nil
                go_simp
                go_wp2_with fail
                refine (K5 _ _ J.out (LE.out.below hS)).mono ?_
                rintro e x3 ⟨u, rfl, i2, off, hh⟩
                have s_x3 : Below wc.heap.size wc x3 := hS.trans (hh.mono hS.size)
                have OFn := hide (off qb Z.out.1 OF.out)
                have Zn := hide (Z.out.below hh)
                clear OF Z
                have OF := OFn
                have Z := Zn
                clear OFn Zn
                have Jn := hide i2
                clear J
                have J := Jn
                clear Jn i2 off hh hS
                go_wp2_with fail
                refine hK.out _ _ s_x3 (fun hS => ?_)
                clear hK K s_x3
                (try simp only [Act.put, List.setIfInBounds_toArray, List.set_cons_zero, List.set_cons_succ])
                have K8 := ((((Keep.refl (fun i => i = qb) x3).setCell (g := qb) (j := 0) (fun _ => rfl) (.int .i64 W.num)).setCell (g := qb) (j := 1) (fun _ => rfl) (.int .i64 W.lsn)).setCell (g := qb) (j := 2) (fun _ => rfl) (.slice u.a W.cs.length u.c)).setCell (g := qb) (j := 3) (fun _ => rfl) (.slice u.b W.gs.length u.d)
                have C8 := (((Z.out.stored (j := 0) (by simp) (.int .i64 W.num)).stored (j := 1) (by simp) (.int .i64 W.lsn)).stored (j := 2) (by simp) (.slice u.a W.cs.length u.c)).stored (j := 3) (by simp) (.slice u.b W.gs.length u.d)
                obtain ⟨y0, z0⟩ := Z.out.get 0 _ rfl
                obtain ⟨y1, z1⟩ := Z.out.get 1 _ rfl
                obtain ⟨y2, z2⟩ := Z.out.get 2 _ rfl
                obtain ⟨y3, z3⟩ := Z.out.get 3 _ rfl
                have HK8 := hide K8
                have HC8 := hide C8
                clear K8 C8
                have S8 := hide (hS.trans (HK8.out.below hS.size (fun i hi q => by have := QB.out; omega)))
                clear hS
                refine wpAnyH_ready (rs := [9]) (by kernel_rfl) (by simp) ?_
                refine AllReadyH.cons rfl (fun K hK => ?_) AllReadyH.nil
                go_simp
                go_wp2_with fail
                refine hK.out _ _ S8.out (fun hS => ?_)
                clear hK K hS
                (try simp only [Act.put])
                refine wpAnyH_done (by kernel_rfl) ?_ _
                clear y0 z0 y1 z1 y2 z2 y3 z3
                have JF := hide (OF.out _ _ J.out HK8.out)
                go_wp2_with fail
                go_meet
                exact ⟨qb, u, rfl, HC8.out, JF.out, S8.out⟩
            · go_simp
              go_wp2_with fail
              refine hK.out _ _ (hS.alloc hS.size _) (fun hS => ?_)
              clear hK K
              (try simp only [Act.put, List.setIfInBounds_toArray, List.set_cons_zero, List.set_cons_succ])
              refine named (P := wpAnyH _ _ _ _ _ _ _ _) ?_
              intro xa hxa
              rw [← hxa] at hS
              obtain ⟨qb, hqb⟩ : ∃ qb, qb = y0.heap.size := ⟨_, rfl⟩
              have al : Below y0.heap.size y0 xa := by rw [hxa]; exact alloc_below _ _
              have Z := hide (show Cells xa qb [.int .i64 0, .int .i64 0, .slice none 0 0, .slice none 0 0] by rw [hxa, hqb]; exact Cells.new _ _ _)
              have OF := hide (off_of (b := qb) J.out (by rw [hqb]; exact Nat.le_refl _))
              have Jn := hide (J.out.below al)
              clear J
              have J := Jn
              have QB := hide (show wc.heap.size ≤ qb by rw [hqb]; exact LO.out)
              rw [← hqb]
              clear Jn hxa hqb al LO
              refine wpAnyH_ready (rs := [1]) (by kernel_rfl) (by simp) ?_
              refine AllReadyH.cons rfl (fun K hK => ?_) AllReadyH.nil
              go_simp
              go_wp2_with fail
              refine (KL _ J.out).mono ?_
              rintro e x1 ⟨u, rfl, i2, off, hh⟩
              have s_x1 : Below wc.heap.size wc x1 := hS.trans (hh.mono hS.size)
              have OFn := hide (off qb Z.out.1 OF.out)
              have Zn := hide (Z.out.below hh)
              clear OF Z
              have OF := OFn
              have Z := Zn
              clear OFn Zn
              have Jn := hide i2
              clear J
              have J := Jn
              clear Jn i2 off hh hS
              go_wp2_with fail
              refine hK.out _ _ s_x1 (fun hS => ?_)
              clear hK K s_x1
              (try simp only [Act.put, List.setIfInBounds_toArray, List.set_cons_zero, List.set_cons_succ])
              refine wpAnyH_ready (rs := [5]) (by kernel_rfl) (by simp) ?_
              refine AllReadyH.cons rfl (fun K hK => ?_) AllReadyH.nil
              go_simp
              go_wp2_with fail
              refine (K4 _ _ J.out (LE.out.below hS)).mono ?_
              rintro e x2 ⟨u, rfl, i2, off, hh⟩
              have s_x2 : Below wc.heap.size wc x2 := hS.trans (hh.mono hS.size)
              have OFn := hide (off qb Z.out.1 OF.out)
              have Zn := hide (Z.out.below hh)
              clear OF Z
              have OF := OFn
              have Z := Zn
              clear OFn Zn
              have Jn := hide i2
              clear J
              have J := Jn
              clear Jn i2 off hh hS
              go_wp2_with fail
              refine hK.out _ _ s_x2 (fun hS => ?_)
              clear hK K s_x2
              (try simp only [Act.put, List.setIfInBounds_toArray, List.set_cons_zero, List.set_cons_succ])
              refine wpAnyH_ready (rs := [7]) (by kernel_rfl) (by simp) ?_
              refine AllReadyH.cons rfl (fun K hK => ?_) AllReadyH.nil
              go_simp
              go_wp2_with fail
              refine (K5 _ _ J.out (LE.out.below hS)).mono ?_
              rintro e x3 ⟨u, rfl, i2, off, hh⟩
              have s_x3 : Below wc.heap.size wc x3 := hS.trans (hh.mono hS.size)
              have OFn := hide (off qb Z.out.1 OF.out)
              have Zn := hide (Z.out.below hh)
              clear OF Z
              have OF := OFn
              have Z := Zn
              clear OFn Zn
              have Jn := hide i2
              clear J
              have J := Jn
              clear Jn i2 off hh hS
              go_wp2_with fail
              refine hK.out _ _ s_x3 (fun hS => ?_)
              clear hK K s_x3
              (try simp only [Act.put, List.setIfInBounds_toArray, List.set_cons_zero, List.set_cons_succ])
              have K8 := ((((Keep.refl (fun i => i = qb) x3).setCell (g := qb) (j := 0) (fun _ => rfl) (.int .i64 W.num)).setCell (g := qb) (j := 1) (fun _ => rfl) (.int .i64 W.lsn)).setCell (g := qb) (j := 2) (fun _ => rfl) (.slice u.a W.cs.length u.c)).setCell (g := qb) (j := 3) (fun _ => rfl) (.slice u.b W.gs.length u.d)
              have C8 := (((Z.out.stored (j := 0) (by simp) (.int .i64 W.num)).stored (j := 1) (by simp) (.int .i64 W.lsn)).stored (j := 2) (by simp) (.slice u.a W.cs.length u.c)).stored (j := 3) (by simp) (.slice u.b W.gs.length u.d)
              obtain ⟨y0, z0⟩ := Z.out.get 0 _ rfl
              obtain ⟨y1, z1⟩ := Z.out.get 1 _ rfl
              obtain ⟨y2, z2⟩ := Z.out.get 2 _ rfl
              obtain ⟨y3, z3⟩ := Z.out.get 3 _ rfl
              have HK8 := hide K8
              have HC8 := hide C8
              clear K8 C8
              have S8 := hide (hS.trans (HK8.out.below hS.size (fun i hi q => by have := QB.out; omega)))
              clear hS
              refine wpAnyH_ready (rs := [9]) (by kernel_rfl) (by simp) ?_
              refine AllReadyH.cons rfl (fun K hK => ?_) AllReadyH.nil
              go_simp
              go_wp2_with fail
              refine hK.out _ _ S8.out (fun hS => ?_)
              clear hK K hS
              (try simp only [Act.put])
              refine wpAnyH_done (by kernel_rfl) ?_ _
              clear y0 z0 y1 z1 y2 z2 y3 z3
              have JF := hide (OF.out _ _ J.out HK8.out)
              go_wp2_with fail
              go_meet
              exact ⟨qb, u, rfl, HC8.out, JF.out, S8.out⟩
          case rest =>
            obtain ⟨hb_, u8, rfl, hc, hi, hb⟩ := hcut
            skip
            have HC := hide hc
            have HI := hide hi
            have AC2 := hide (AC.out.below hb)
            have AI2 := hide (AI.out.below hb)
            have WC3 := hide (WC2.out.below hb)
            have WI3 := hide (WI2.out.below hb)
            have BF := hide (AE.out.below hb).be
            clear hc hi hb AC AI WC2 WI2 AE LE IE K4 K5 KL
            go_upto_region 19 with fail
            refine named (P := Code.wp _ _ _ _) ?_
            intro wf hwf
            rw [← hwf] at HC HI AC2 AI2 WC3 WI3 BF
            clear hwf
            refine wp_region_held_drew (S := fun wq => Below wf.heap.size wf wq) (by kernel_rfl) (Below.refl _ _).drew (fun hS => ?_)
            refine take_at 0 (some 68) (v := ?_) rfl rfl (by kernel_rfl) (by kernel_rfl) (by kernel_rfl) (fun _ _ _ h => h) ⟨by rfl, ?_⟩ hS ?_
            rotate_left
            · intro wq hSw; have qq := AC2.out.below hSw; obtain ⟨q0, _⟩ := qq.get 0 _ rfl; obtain ⟨q1, _⟩ := qq.get 1 _ rfl; obtain ⟨q2, _⟩ := qq.get 2 _ rfl; obtain ⟨q3, _⟩ := qq.get 3 _ rfl; clear qq; go_simp; try rfl
            simp only [Act.put, List.setIfInBounds_toArray, List.set_cons_zero, List.set_cons_succ]
            refine take_at 2 (some 70) (v := ?_) rfl rfl (by kernel_rfl) (by kernel_rfl) (by kernel_rfl) (fun _ _ _ h => h) ⟨by rfl, ?_⟩ hS ?_
            rotate_left
            · intro wq hSw; have qq := WC3.out.below hSw; obtain ⟨q0, _⟩ := qq.get 0 _ rfl; obtain ⟨q1, _⟩ := qq.get 1 _ rfl; obtain ⟨q2, _⟩ := qq.get 2 _ rfl; obtain ⟨q3, _⟩ := qq.get 3 _ rfl; clear qq; go_simp; try rfl
            simp only [Act.put, List.setIfInBounds_toArray, List.set_cons_zero, List.set_cons_succ]
            refine wpAnyH_ready (rs := [1]) (by kernel_rfl) (by simp) ?_
            refine AllReadyH.cons rfl (fun K hK => ?_) AllReadyH.nil
            go_simp
            go_wp2_with fail
            refine (KB _ _).mono ?_
            rintro e x1 ⟨rfl, hh⟩
            have s_x1 : Below wf.heap.size wf x1 := hS.trans (hh.mono hS.size)
            clear hh hS
            go_wp2_with fail
            refine hK.out _ _ s_x1 (fun hS => ?_)
            clear hK K s_x1
            (try simp only [Act.put, List.setIfInBounds_toArray, List.set_cons_zero, List.set_cons_succ])
            refine wpAnyH_ready (rs := [3]) (by kernel_rfl) (by simp) ?_
            refine AllReadyH.cons rfl (fun K hK => ?_) AllReadyH.nil
            go_simp
            go_wp2_with fail
            refine (KB _ _).mono ?_
            rintro e x2 ⟨rfl, hh⟩
            have s_x2 : Below wf.heap.size wf x2 := hS.trans (hh.mono hS.size)
            clear hh hS
            go_wp2_with fail
            refine hK.out _ _ s_x2 (fun hS => ?_)
            clear hK K s_x2
            (try simp only [Act.put, List.setIfInBounds_toArray, List.set_cons_zero, List.set_cons_succ])
            refine wpAnyH_ready (rs := [4]) (by kernel_rfl) (by simp) ?_
            refine AllReadyH.cons rfl (fun K hK => ?_) AllReadyH.nil
            go_simp
            go_wp2_with fail
            refine (KS _ _ _ (AI2.out.below hS) (WI3.out.below hS)).mono ?_
            rintro e x3 ⟨rfl, hh⟩
            have s_x3 : Below wf.heap.size wf x3 := hS.trans (hh.mono hS.size)
            clear hh hS
            go_wp2_with fail
            refine hK.out _ _ s_x3 (fun hS => ?_)
            clear hK K s_x3
            (try simp only [Act.put, List.setIfInBounds_toArray, List.set_cons_zero, List.set_cons_succ])
            refine take_at 5 (some 73) (v := ?_) rfl rfl (by kernel_rfl) (by kernel_rfl) (by kernel_rfl) (fun _ _ _ h => h) ⟨by rfl, ?_⟩ hS ?_
            rotate_left
            · intro wq hSw; go_simp; try rfl
            simp only [Act.put, List.setIfInBounds_toArray, List.set_cons_zero, List.set_cons_succ]
            refine take_at 6 (some 74) (v := ?_) rfl rfl (by kernel_rfl) (by kernel_rfl) (by kernel_rfl) (fun _ _ _ h => h) ⟨by rfl, ?_⟩ hS ?_
            rotate_left
            · intro wq hSw; have qq := HC.out.below hSw; obtain ⟨q0, _⟩ := qq.get 0 _ rfl; obtain ⟨q1, _⟩ := qq.get 1 _ rfl; obtain ⟨q2, _⟩ := qq.get 2 _ rfl; obtain ⟨q3, _⟩ := qq.get 3 _ rfl; clear qq; go_simp; try rfl
            simp only [Act.put, List.setIfInBounds_toArray, List.set_cons_zero, List.set_cons_succ]
            refine take_at 8 (some 76) (v := ?_) rfl rfl (by kernel_rfl) (by kernel_rfl) (by kernel_rfl) (fun _ _ _ h => h) ⟨by rfl, ?_⟩ hS ?_
            rotate_left
            · intro wq hSw; have qq := WC3.out.below hSw; obtain ⟨q0, _⟩ := qq.get 0 _ rfl; obtain ⟨q1, _⟩ := qq.get 1 _ rfl; obtain ⟨q2, _⟩ := qq.get 2 _ rfl; obtain ⟨q3, _⟩ := qq.get 3 _ rfl; clear qq; go_simp; try rfl
            simp only [Act.put, List.setIfInBounds_toArray, List.set_cons_zero, List.set_cons_succ]
            refine wpAnyH_ready (rs := [7]) (by kernel_rfl) (by simp) ?_
            refine AllReadyH.cons rfl (fun K hK => ?_) AllReadyH.nil
            go_simp
            go_wp2_with fail
            refine (KB _ _).mono ?_
            rintro e x4 ⟨rfl, hh⟩
            have s_x4 : Below wf.heap.size wf x4 := hS.trans (hh.mono hS.size)
            clear hh hS
            go_wp2_with fail
            refine hK.out _ _ s_x4 (fun hS => ?_)
            clear hK K s_x4
            (try simp only [Act.put, List.setIfInBounds_toArray, List.set_cons_zero, List.set_cons_succ])
            refine wpAnyH_ready (rs := [9]) (by kernel_rfl) (by simp) ?_
            refine AllReadyH.cons rfl (fun K hK => ?_) AllReadyH.nil
            go_simp
            go_wp2_with fail
            refine (KB _ _).mono ?_
            rintro e x5 ⟨rfl, hh⟩
            have s_x5 : Below wf.heap.size wf x5 := hS.trans (hh.mono hS.size)
            clear hh hS
            go_wp2_with fail
            refine hK.out _ _ s_x5 (fun hS => ?_)
            clear hK K s_x5
            (try simp only [Act.put, List.setIfInBounds_toArray, List.set_cons_zero, List.set_cons_succ])
            refine wpAnyH_ready (rs := [10]) (by kernel_rfl) (by simp) ?_
            refine AllReadyH.cons rfl (fun K hK => ?_) AllReadyH.nil
            go_simp
            go_wp2_with fail
            refine (KS _ _ _ (HI.out.below hS) (WI3.out.below hS)).mono ?_
            rintro e x6 ⟨rfl, hh⟩
            have s_x6 : Below wf.heap.size wf x6 := hS.trans (hh.mono hS.size)
            clear hh hS
            go_wp2_with fail
            refine hK.out _ _ s_x6 (fun hS => ?_)
            clear hK K s_x6
            (try simp only [Act.put, List.setIfInBounds_toArray, List.set_cons_zero, List.set_cons_succ])
            refine take_at 11 (some 79) (v := ?_) rfl rfl (by kernel_rfl) (by kernel_rfl) (by kernel_rfl) (fun _ _ _ h => h) ⟨by rfl, ?_⟩ hS ?_
            rotate_left
            · intro wq hSw; go_simp; try rfl
            simp only [Act.put, List.setIfInBounds_toArray, List.set_cons_zero, List.set_cons_succ]
            refine take_at 12 (some 6) (v := ?_) rfl rfl (by kernel_rfl) (by kernel_rfl) (by kernel_rfl) (fun _ _ _ h => h) ⟨by rfl, ?_⟩ hS ?_
            rotate_left
            · intro wq hSw; go_simp; try rfl
            simp only [Act.put, List.setIfInBounds_toArray, List.set_cons_zero, List.set_cons_succ]
            have F7 := hide hS
            clear hS
            refine wpAnyH_done (by kernel_rfl) ?_ _
            go_wp2_with fail
            exact bodyPost_ret (v := .bool true) (by simp [results, Try.results6, go_sem]) rfl ⟨rfl, BF.out.trans (F7.out.mono BF.out.size)⟩
theorem law_chain (p : Pg) (t : At) (l : List Rc) (sa : Option Addr) (sc : Nat) (kk : Int) (w : World) (h : PIn w p t) (hp : p.Num) (hl : Lies w sa (rowsC recL l)) (hr : ∀ r ∈ l, r.Fit ∧ Rc.One r) (hc : l.length ≤ sc) : Calls Try.prog 6 #[pgV p t, .slice sa l.length sc, .int .i64 kk] w fun e w' => e = .returned (.bool true) ∧ Below w.heap.size w w' := by
  by_cases h100 : 100 < l.length
  · exact chain_gt p t l sa sc kk w h hp hl hr hc h100
  · exact chain_le p t l sa sc kk w h hp hl hr hc h100
end Go.Proofs.Ytoocbpbaieedmaa
