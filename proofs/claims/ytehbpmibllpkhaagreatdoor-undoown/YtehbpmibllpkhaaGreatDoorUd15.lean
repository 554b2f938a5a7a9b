import Derived.Test.YtehbpmibllpkhaaGreatDoorUd14
set_option linter.all false
namespace Go.Proofs.YtehbpmibllpkhaaGreatDoor
open Go.RowKit Go.QK Go.Maps Go.QM Go.QU
set_option maxRecDepth 100000
theorem box_set {w : World} {b j : Nat} {cs : Array Value} (h : RBox w b 53 cs) (v : Value) : RBox (w.setCell ⟨b, j, none⟩ v) b 53 (cs.setIfInBounds j v) ∧ Keep (fun z => z = b) w (w.setCell ⟨b, j, none⟩ v) :=
  ⟨RBox.setCell h j v, (Keep.refl (fun z => z = b) w).setCell (g := b) (j := j) (fun _ => rfl) v⟩
set_option maxHeartbeats 16000000 in
theorem rleft_any (rs : List RZ) (a : Option Addr) (c : Nat) (tx : Int) (w : World) (lr : Lies w a (rzs rs)) (it : I64 tx) (ir : ∀ r ∈ rs, I64 r.delta ∧ I64 r.id) (hl : (rs.length + 1) * 168 ≤ 140737488355328) :
    Calls Tryz.prog 8 #[.slice a rs.length c, .int .i64 tx] w fun e w' => ∃ v, e = .returned (.tuple #[v, .int .i64 ((leftE tx (rs.map urOf) : Nat) : Int)]) ∧ GRow w' w.heap.size 53 17 v (leftL tx (rs.map urOf)).length (rzs ((leftL tx (rs.map urOf)).map (undZ tx))) ∧ Below w.heap.size w w' := by
  obtain ⟨N, hN⟩ : ∃ n, n = rs.length := ⟨_, rfl⟩
  rw [← hN] at hl ⊢
  obtain ⟨us, hus⟩ : ∃ z, z = rs.map urOf := ⟨_, rfl⟩
  rw [← hus]
  have HN := hide hN
  have HUS := hide hus
  have HLR := hide lr
  have HIR := hide ir
  have HIT := hide it
  have hNN : N < 1000000000000 := by omega
  clear hN hus lr ir it
  by_cases ht : 1 ≤ tx ∧ tx ≤ 2147483647
  · have HT := hide (show isTx tx = true by unfold isTx; simp [ht])
    have t1 : decide (tx < 1) = false := decide_eq_false (by omega)
    have t2 : decide (2147483647 < tx) = false := decide_eq_false (by omega)
    have t3 : decide (tx > 2147483647) = false := decide_eq_false (by omega)
    clear ht
    go_enter Tryz.func8, Tryz.ntmps8
    go_wp2_with fail
    go_loopw [6, 7] (fun v6 v7 wr => ∃ (k n : Nat) (D L : Prs Hd) (a' : Option Addr) (c' : Nat), v6 = .slice a' n c' ∧ v7 = .int .i64 (k : Int) ∧ k ≤ N ∧ n ≤ k ∧ Hl w wr tx D L n c' a' ∧ Below w.heap.size w wr ∧ At tx us k L) (fun _ v7 _ => N + 1 - (intOf v7).toNat)
    case atStart => exact ⟨0, 0, [], [], none, 0, rfl, rfl, Nat.zero_le _, Nat.le_refl _, Hl.nil _ _ _, Below.refl _ _, At.zero _ _⟩
    case round =>
      obtain ⟨k, n, D, L, a', c', rfl, rfl, hk, hnk, hh, hb, at_⟩ := hrel
      have HH := hide hh
      have BH := hide hb
      have AT := hide at_
      clear hh hb at_
      by_cases hlt : k < N
      · have d1 : decide ((k : Int) < (N : Int)) = true := decide_eq_true (by omega)
        have d2 : (k : Int) < (N : Int) := by omega
        have hx : k < rs.length := by have := HN.out; omega
        have hxu : k < us.length := by rw [HUS.out, List.length_map]; exact hx
        obtain ⟨b1, o1, rfl, l1, c1⟩ := rz_at HLR.out k hx
        obtain ⟨x, hxx⟩ : ∃ z, z = rs[k] := ⟨_, rfl⟩
        have hux : us[k] = urOf x := by
          have e := HUS.out
          have q : us[k]? = some (urOf x) := by rw [e, List.getElem?_map, List.getElem?_eq_getElem hx, hxx]; rfl
          rw [List.getElem?_eq_getElem hxu] at q
          exact Option.some.inj q
        have ix := HIR.out _ (List.getElem_mem hx)
        rw [← hxx] at ix c1
        obtain ⟨A, hA⟩ : ∃ A, A = rzA x := ⟨_, rfl⟩
        obtain ⟨u, hu⟩ : ∃ z, z = urOf x := ⟨_, rfl⟩
        have rf : RF A u := by rw [hA, hu]; exact RF.of x
        have i1 : I64 u.id := by rw [hu]; exact ix.2
        have i2 : I64 u.delta := by rw [hu]; exact ix.1
        rw [← hA] at c1
        rw [← hu] at hux
        clear hA hu hxx ix
        have C1 := hide (show ∀ wq, Below w.heap.size w wq → ∀ j v, A.toList[j]? = some v → wq.cell? ⟨b1, o1 + k * 17 + j, none⟩ = some v from fun wq hq j v hv => (hq.cell (p := ⟨b1, o1 + k * 17 + j, none⟩) l1).trans (c1 j v hv))
        have RFH := hide rf
        have I1 := hide i1
        have I2 := hide i2
        have HUX := hide hux
        clear c1 l1 rf i1 i2 hux
        have c2 := RFH.out.c2
        have HH3 := hide (show ∀ (w3 : World), Keep (fun z => z = wr.heap.size) (wr.alloc (.cells (rzA rz0) 53)) w3 → Hl w w3 tx D L n c' a' ∧ Below w.heap.size w w3 from fun w3 hk => by
          have q := newBox hk
          exact ⟨HH.out.below q, BH.out.trans (q.mono BH.out.size)⟩)
        obtain ⟨X, hX⟩ : ∃ z, z = wr.heap.size := ⟨_, rfl⟩
        have HX := hide hX
        clear hX
        have STEP := hide (show u.tx = tx → stepE L u = 0 → At tx us (k + 1) (stepL L u) from fun hq he => by
          have z := AT.out.step hxu (by rw [HUX.out]; exact hq) (by rw [HUX.out]; exact he) (by rw [HUX.out]; exact I1.out)
          rw [HUX.out] at z
          exact z)
        have BAD := hide (show u.tx = tx → stepE L u ≠ 0 → leftE tx us = stepE L u ∧ leftL tx us = [] from fun hq he => by
          have z := AT.out.bad HT.out hxu (by rw [HUX.out]; exact hq) (by rw [HUX.out]; exact he)
          rw [HUX.out] at z
          exact z)
        by_cases hq : u.tx = tx
        · by_cases hk : u.kind = 3
          · rw [hq] at c2
            have ATC := hide (fun (w3 : World) (h3 : Hl w w3 tx D L n c' a') => at_D (w := w3) u.id h3.lst (by omega))
            clear HH
            have c9 := RFH.out.c9
            have c1 := RFH.out.c1
            go_upto_region 7 with fail
            go_wp2_with (first
            | refine wpList_ld (C1.out _ BH.out) RFH.out.sz rfl ?_
            | (refine wpList_st (RBox.new _ _ _) rfl RFH.out.sz RFH.out.one rfl rfl ?_; intro w3 rb3 k3; have q2 := RFH.out.cell rb3 c2; have RB3 := hide rb3; have K3 := hide k3; clear rb3 k3; have q9 := RFH.out.cell RB3.out c9)
            | refine wpList_lb RB3.out RFH.out.sz rfl ?_
            | fail)
            refine (ATC.out _ (HH3.out _ K3.out).1).mono ?_
            rintro e w4 ⟨hres, hb4⟩
            have RB4 := hide (RB3.out.below hb4)
            have HH4 := hide ((HH3.out _ K3.out).1.below hb4)
            have W4 := hide ((HH3.out _ K3.out).2.trans (hb4.mono (HH3.out _ K3.out).2.size))
            clear hb4 q9 q2 HH3 ATC
            have q1 := RFH.out.cell RB4.out c1
            have hk3 : u.kind = 3 := hk
            rw [hk3] at q1
            have E3 := hide (show stepE L u = addE L u from by unfold stepE; rw [if_pos hk3])
            have L3 := hide (show stepL L u = putM u.id (addH L u) L from by unfold stepL; rw [if_pos hk3])
            have q4 := RFH.out.cell RB4.out RFH.out.c4
            have q5 := RFH.out.cell RB4.out RFH.out.c5
            have q6 := RFH.out.cell RB4.out RFH.out.c6
            have q7 := RFH.out.cell RB4.out RFH.out.c7
            have q8 := RFH.out.cell RB4.out RFH.out.c8
            have q9 := RFH.out.cell RB4.out c9
            clear hk
            rcases hres with ⟨i, hi, hid, rfl⟩ | ⟨hno, rfl⟩
            · obtain ⟨g, rfl, hg1, hg2⟩ := HH4.out.open_ (by have := HH4.out.len; omega)
              have hin : i < n := by have := HH4.out.len; omega
              have hin2 : (i : Int) < (n : Int) := by omega
              have di : decide ((i : Int) < 0) = false := decide_eq_false (by omega)
              obtain ⟨gn, g1, g2, g3, g4, hgot⟩ : ∃ gn g1 g2 g3 g4, D[i].2 = ⟨gn, g1, g2, g3, g4⟩ := ⟨_, _, _, _, _, rfl⟩
              have hm := HH4.out.has hi
              rw [hid, hgot] at hm
              have nn : netL L u.id = gn := by unfold netL; rw [hm]
              have NN := hide nn
              have gfit := fit_of (HH4.out.fit _ (getM_mem hm))
              go_upto_region 13 with (first
                | (refine wpList_st (cs' := rzA ⟨0, 4, tx, 0, u.wp, u.wi, u.sp, u.si, u.delta, u.id, 0, 0, 0, 0, none, 0, 0, none, 0, 0, 0⟩) (RBox.new _ _ _) rfl rfl rfl rfl rfl ?_; intro w5 rb5 k5; have RB5 := hide rb5; have B45 := hide (newBox k5); clear rb5 k5)
                | fail)
              have HG2 := hide hg2
              have HH5 := hide (HH4.out.below B45.out)
              have W5 := hide (W4.out.trans (B45.out.mono W4.out.size))
              have RB54 := hide (RB4.out.below B45.out)
              obtain ⟨Y, hY⟩ : ∃ z, z = w4.heap.size := ⟨_, rfl⟩
              have HY := hide hY
              have W4S := hide (show w.heap.size ≤ w4.heap.size from W4.out.size)
              have RBY := hide (show RBox w5 Y 53 (rzA ⟨0, 4, tx, 0, u.wp, u.wi, u.sp, u.si, u.delta, u.id, 0, 0, 0, 0, none, 0, 0, none, 0, 0, 0⟩) by rw [hY]; exact RB5.out)
              rw [← hY]
              clear hY RB5
              clear HH4 W4 RB4 q1 q4 q5 q6 q7 q8 q9
              have GC := hide (show ∀ wq, Below w5.heap.size w5 wq → wq.cell? ⟨g, i * 17 + 8, none⟩ = some (.int .i64 gn) from fun wq hq => HH5.out.cell hi (j := 8) (v := .int .i64 gn) (by show (rzA (undZ tx D[i])).toList[8]? = _; unfold undZ; rw [hgot]; rfl) wq hq)
              have RC8 := hide (show ∀ wq, Below w5.heap.size w5 wq → wq.cell? ⟨X, 8, none⟩ = some (.int .i64 u.delta) from fun wq hq => by have q := RFH.out.cell (RB54.out.below hq) RFH.out.c8; rw [← HX.out] at q; exact q)
              have IG := hide (show I64 gn from gfit)
              try rw [← HX.out]
              go_upto_region 15 with fail
              refine wp_region_held_drew (S := fun wq => Below w5.heap.size w5 wq) (by kernel_rfl) (Below.refl _ _).drew (fun hS => ?_)
              refine take_at 0 (some 59) (v := ?_) rfl rfl (by kernel_rfl) (by kernel_rfl) (by kernel_rfl) (fun _ _ _ h => h) ⟨by rfl, ?_⟩ hS ?_
              rotate_left
              · intro wq hSw; go_simp; try rfl
              simp only [Act.put, List.setIfInBounds_toArray, List.set_cons_zero, List.set_cons_succ]
              refine take_at 1 (some 60) (v := ?_) rfl rfl (by kernel_rfl) (by kernel_rfl) (by kernel_rfl) (fun _ _ _ h => h) ⟨by rfl, ?_⟩ hS ?_
              rotate_left
              · intro wq hSw; go_simp; try rfl
              simp only [Act.put, List.setIfInBounds_toArray, List.set_cons_zero, List.set_cons_succ]
              refine take_at 2 (some 61) (v := ?_) rfl rfl (by kernel_rfl) (by kernel_rfl) (by kernel_rfl) (fun _ _ _ h => h) ⟨by rfl, ?_⟩ hS ?_
              rotate_left
              · intro wq hSw; go_simp; try rfl
              simp only [Act.put, List.setIfInBounds_toArray, List.set_cons_zero, List.set_cons_succ]
              refine take_at 3 (some 62) (v := ?_) rfl rfl (by kernel_rfl) (by kernel_rfl) (by kernel_rfl) (fun _ _ _ h => h) ⟨by rfl, ?_⟩ hS ?_
              rotate_left
              · intro wq hSw; go_simp; try rfl
              simp only [Act.put, List.setIfInBounds_toArray, List.set_cons_zero, List.set_cons_succ]
              refine take_at 4 (some 63) (v := ?_) rfl rfl (by kernel_rfl) (by kernel_rfl) (by kernel_rfl) (fun _ _ _ h => h) ⟨by rfl, ?_⟩ hS ?_
              rotate_left
              · intro wq hSw; have q0 := GC.out wq hSw; go_simp; try rfl
              simp only [Act.put, List.setIfInBounds_toArray, List.set_cons_zero, List.set_cons_succ]
              refine take_at 6 (some 65) (v := ?_) rfl rfl (by kernel_rfl) (by kernel_rfl) (by kernel_rfl) (fun _ _ _ h => h) ⟨by rfl, ?_⟩ hS ?_
              rotate_left
              · intro wq hSw; go_simp; try rfl
              simp only [Act.put, List.setIfInBounds_toArray, List.set_cons_zero, List.set_cons_succ]
              refine take_at 7 (some 66) (v := ?_) rfl rfl (by kernel_rfl) (by kernel_rfl) (by kernel_rfl) (fun _ _ _ h => h) ⟨by rfl, ?_⟩ hS ?_
              rotate_left
              · intro wq hSw; have q0 := RC8.out wq hSw; go_simp; try rfl
              simp only [Act.put, List.setIfInBounds_toArray, List.set_cons_zero, List.set_cons_succ]
              refine wpAnyH_ready (rs := [5]) (by kernel_rfl) (by simp) ?_
              refine AllReadyH.cons rfl (fun K hK => ?_) AllReadyH.nil
              go_simp
              go_wp2_with fail
              refine (of_any gn _).mono ?_
              rintro e x1 ⟨rfl, hh⟩
              go_wp2_with fail
              refine hK.out _ _ (hS.trans (hh.mono hS.size)) (fun hS => ?_)
              clear hK K hh
              (try simp only [Act.put, List.setIfInBounds_toArray, List.set_cons_zero, List.set_cons_succ])
              refine wpAnyH_ready (rs := [8]) (by kernel_rfl) (by simp) ?_
              refine AllReadyH.cons rfl (fun K hK => ?_) AllReadyH.nil
              go_simp
              go_wp2_with fail
              refine (plus_w gn u.delta _ (I64.bd IG.out) I2.out).mono ?_
              rintro e x1 ⟨rfl, hh⟩
              go_wp2_with fail
              refine hK.out _ _ (hS.trans (hh.mono hS.size)) (fun hS => ?_)
              clear hK K hh
              (try simp only [Act.put, List.setIfInBounds_toArray, List.set_cons_zero, List.set_cons_succ])
              refine wpAnyH_ready (rs := [9]) (by kernel_rfl) (by simp) ?_
              refine AllReadyH.cons rfl (fun K hK => ?_) AllReadyH.nil
              go_simp
              go_wp2_with fail
              refine (fits_w (gn + u.delta) _).mono ?_
              rintro e w6 ⟨rfl, hh⟩
              go_wp2_with fail
              refine hK.out _ _ (hS.trans (hh.mono hS.size)) (fun hS => ?_)
              clear hK K hh
              (try simp only [Act.put, List.setIfInBounds_toArray, List.set_cons_zero, List.set_cons_succ])
              refine take_at 10 (some 69) (v := ?_) rfl rfl (by kernel_rfl) (by kernel_rfl) (by kernel_rfl) (fun _ _ _ h => h) ⟨by rfl, ?_⟩ hS ?_
              rotate_left
              · intro wq hSw; go_simp; try rfl
              simp only [Act.put, List.setIfInBounds_toArray, List.set_cons_zero, List.set_cons_succ]
              have D9 := hide hS
              clear hS
              refine wpAnyH_done (by kernel_rfl) ?_ _
              by_cases hov : fitB (gn + u.delta) = true
              · have hS6 := D9.out
                have IF := hide (fit_of hov)
                have w1 : wrap64 (u.delta + gn) = gn + u.delta := by rw [Int.add_comm]; exact wrapI IF.out
                have w2 : IntKind.i64.wrap (u.delta + gn) = gn + u.delta := by rw [IntKind.wrap_i64, Int.add_comm]; have := IF.out; omega
                rw [hov]
                obtain ⟨y8, f8⟩ := (RBY.out.below hS6).cells.get 8 _ rfl
                have z8 := GC.out _ hS6
                have HV := hide hov
                clear hov hS6
                go_upto_region 17 with fail
                go_region
                clear y8 f8 z8
                go_upto_region 18 with fail
                refine named (P := Code.wp _ _ _ _) ?_
                intro w7 hw7
                (try simp only [w1, w2] at hw7)
                have hx7 : w7 = w6.drew.setCell ⟨Y, 8, none⟩ (.int .i64 (gn + u.delta)) := hw7
                have RB7 := hide (show RBox w7 Y 53 (rzA ⟨0, 4, tx, 0, u.wp, u.wi, u.sp, u.si, gn + u.delta, u.id, 0, 0, 0, 0, none, 0, 0, none, 0, 0, 0⟩) by rw [hx7]; exact (box_set (RBY.out.below D9.out.drew) (.int .i64 (gn + u.delta))).1)
                have K7 := hide (show Keep (fun z => z = Y) w5 w7 by rw [hx7]; exact (Keep.of_below D9.out.drew).trans (box_set (RBY.out.below D9.out.drew) (.int .i64 (gn + u.delta))).2 (fun _ _ q => q))
                clear hw7 hx7
                have nY : ¬ (g = Y) := by have := HY.out; omega
                have R7 := hide (HH5.out.row.keep K7.out (fun q e => by cases e; exact nY))
                have B7 := hide (bkeep W5.out K7.out (Nat.le_refl _) (fun j hj => by have := HY.out; have := W4S.out; omega))
                have TH := hide (there_at (there_of R7.out) hin)
                go_wp2_with (first
                  | refine wpList_lb RB7.out rfl rfl ?_
                  | refine wpList_stAt TH.out (cs := rzA ⟨0, 4, tx, 0, u.wp, u.wi, u.sp, u.si, gn + u.delta, u.id, 0, 0, 0, 0, none, 0, 0, none, 0, 0, 0⟩) rfl rfl rfl rfl ?_
                  | fail)
                have eE : stepE L u = 0 := by rw [E3.out]; unfold addE; rw [NN.out, if_pos HV.out]
                have eH : addH L u = ⟨gn + u.delta, u.wp, u.wi, u.sp, u.si⟩ := by unfold addH; rw [NN.out]
                have sm := HH5.out.sim.change HH5.out.up hi (addH L u)
                rw [hid, ← L3.out] at sm
                have up := step_up HH5.out.up u
                have fi := step_fits HH5.out.fit u eE
                have g8 := grow_setCells (rzA ⟨0, 4, tx, 0, u.wp, u.wi, u.sp, u.si, gn + u.delta, u.id, 0, 0, 0, 0, none, 0, 0, none, 0, 0, 0⟩).toList (i * 17) _ _ R7.out
                have eR : setL (rzs (D.map (undZ tx))) (i * 17) (rzA ⟨0, 4, tx, 0, u.wp, u.wi, u.sp, u.si, gn + u.delta, u.id, 0, 0, 0, 0, none, 0, 0, none, 0, 0, 0⟩).toList = rzs ((D.set i (u.id, addH L u)).map (undZ tx)) := by rw [setL_rz (by simpa using hi), List.map_set, eH]; rfl
                rw [eR] at g8
                obtain ⟨a8, c8, e8, h8⟩ := Hl.of g8 (by rw [List.length_set, HH5.out.len]) sm up fi
                cases e8
                have H8 := hide h8
                have AT2 := hide (STEP.out hq eE)
                have B8 := hide (bkeep B7.out (keep_setCells g (rzA ⟨0, 4, tx, 0, u.wp, u.wi, u.sp, u.si, gn + u.delta, u.id, 0, 0, 0, 0, none, 0, 0, none, 0, 0, 0⟩).toList (i * 17) w7) (Nat.le_refl _) (fun j hj => by omega))
                clear g8 eR h8 sm up fi eH
                go_roundw
                case rel => exact ⟨k + 1, n, _, _, _, _, rfl, by go_num, by omega, by omega, H8.out, B8.out, AT2.out⟩
                case measure => simp [intOf]; omega
              · have hov3 : fitB (gn + u.delta) = false := by simpa using hov
                have eE : stepE L u = 10 := by rw [E3.out]; unfold addE; rw [NN.out, hov3]; rfl
                have BD := hide (BAD.out hq (by rw [eE]; decide))
                rw [eE] at BD
                rw [hov3]
                go_wp2_with fail
                go_ret2
                rw [BD.out.1, BD.out.2]
                exact ⟨_, rfl, World.ownsRow_nil _ _ _ _, W5.out.trans (D9.out.mono W5.out.size)⟩
            · have di : decide ((-1 : Int) < 0) = true := by decide
              go_upto_region 13 with (first
                | (refine wpList_st (cs' := rzA ⟨0, 4, tx, 0, u.wp, u.wi, u.sp, u.si, u.delta, u.id, 0, 0, 0, 0, none, 0, 0, none, 0, 0, 0⟩) (RBox.new _ _ _) rfl rfl rfl rfl rfl ?_; intro w5 rb5 k5; have RB5 := hide rb5; have B45 := hide (newBox k5); clear rb5 k5)
                | fail)
              have HH5 := hide (HH4.out.below B45.out)
              have W5 := hide (W4.out.trans (B45.out.mono W4.out.size))
              clear HH4 W4 RB4 q1 q4 q5 q6 q7 q8 q9
              have LZ := hide (lies_rz w5 ⟨0, 4, tx, 0, u.wp, u.wi, u.sp, u.si, u.delta, u.id, 0, 0, 0, 0, none, 0, 0, none, 0, 0, 0⟩)
              have G5 := hide (HH5.out.row.below (alloc_below w5 (.cells (rzA ⟨0, 4, tx, 0, u.wp, u.wi, u.sp, u.si, u.delta, u.id, 0, 0, 0, 0, none, 0, 0, none, 0, 0, 0⟩) 53)))
              have B5 := hide (W5.out.trans ((alloc_below w5 (.cells (rzA ⟨0, 4, tx, 0, u.wp, u.wi, u.sp, u.si, u.delta, u.id, 0, 0, 0, 0, none, 0, 0, none, 0, 0, 0⟩) 53)).mono W5.out.size))
              go_wp2_with (first
                | refine wpList_lb RB5.out rfl rfl ?_
                | refine wpList_b22 (r := ⟨0, 4, tx, 0, u.wp, u.wi, u.sp, u.si, u.delta, u.id, 0, 0, 0, 0, none, 0, 0, none, 0, 0, 0⟩) rfl ?_
                | (at_builtin; refine wpList_appW Tryz.underlying22 info53 rfl (by decide) (by decide) rfl (.tmp 55) (.tmp 57) rfl w.heap.size (.slice a' n c') n _ rfl G5.out _ 1 1 _ rfl (by rfl) LZ.out (rzs_one _) nofun (by omega) B5.out.size ?_; intro v6 w6 p1 p2 p3; have G6 := hide p1; have B6 := hide (B5.out.trans ((grown_keep p2).below B5.out.size (fun z hz q => by have := (World.ownsRow.lt G5.out z q).1; omega))); clear p1 p2 p3)
                | fail)
              have nn : netL L u.id = 0 := by unfold netL; rw [← HH5.out.sim.eq, hno]
              have eH : addH L u = ⟨u.delta, u.wp, u.wi, u.sp, u.si⟩ := by unfold addH; rw [nn, Int.zero_add]
              have eE : stepE L u = 0 := by rw [E3.out]; unfold addE; rw [nn, Int.zero_add, if_pos (by have := I2.out; unfold I64 at this; unfold fitB; simp; omega)]
              have sm := HH5.out.sim.push HH5.out.up u.id (addH L u) hno
              have up := step_up HH5.out.up u
              have fi := step_fits HH5.out.fit u eE
              rw [← L3.out] at sm
              have eR : rzs (D.map (undZ tx)) ++ rzs [⟨0, 4, tx, 0, u.wp, u.wi, u.sp, u.si, u.delta, u.id, 0, 0, 0, 0, none, 0, 0, none, 0, 0, 0⟩] = rzs ((D ++ [(u.id, addH L u)]).map (undZ tx)) := by rw [← rzs_app, List.map_append, eH]; rfl
              have g6 := G6.out
              rw [eR] at g6
              obtain ⟨a6, c6, rfl, h6⟩ := Hl.of g6 (by rw [List.length_append, HH5.out.len]; rfl) sm up fi
              have H6 := hide h6
              have AT2 := hide (STEP.out hq eE)
              clear g6 eR h6 sm up fi eH
              go_roundw
              case rel => exact ⟨k + 1, n + 1, _, _, a6, c6, rfl, by go_num, by omega, by omega, H6.out, B6.out, AT2.out⟩
              case measure => simp [intOf]; omega
          · by_cases hk2 : u.kind = 4
            · rw [hq] at c2
              have ATC := hide (fun (w3 : World) (h3 : Hl w w3 tx D L n c' a') => at_D (w := w3) u.id h3.lst (by omega))
              clear HH
              have c9 := RFH.out.c9
              have c1 := RFH.out.c1
              go_upto_region 7 with fail
              go_wp2_with (first
              | refine wpList_ld (C1.out _ BH.out) RFH.out.sz rfl ?_
              | (refine wpList_st (RBox.new _ _ _) rfl RFH.out.sz RFH.out.one rfl rfl ?_; intro w3 rb3 k3; have q2 := RFH.out.cell rb3 c2; have RB3 := hide rb3; have K3 := hide k3; clear rb3 k3; have q9 := RFH.out.cell RB3.out c9)
              | refine wpList_lb RB3.out RFH.out.sz rfl ?_
              | fail)
              refine (ATC.out _ (HH3.out _ K3.out).1).mono ?_
              rintro e w4 ⟨hres, hb4⟩
              have RB4 := hide (RB3.out.below hb4)
              have HH4 := hide ((HH3.out _ K3.out).1.below hb4)
              have W4 := hide ((HH3.out _ K3.out).2.trans (hb4.mono (HH3.out _ K3.out).2.size))
              clear hb4 q9 q2 HH3 ATC
              have q1 := RFH.out.cell RB4.out c1
              have hk4 : u.kind = 4 := hk2
              rw [hk4] at q1
              have E4 := hide (show stepE L u = undE L u from by unfold stepE; rw [if_neg hk, if_pos hk4])
              have L4 := hide (show stepL L u = delM L u.id from by unfold stepL; rw [if_neg hk, if_pos hk4])
              have q4 := RFH.out.cell RB4.out RFH.out.c4
              have q5 := RFH.out.cell RB4.out RFH.out.c5
              have q6 := RFH.out.cell RB4.out RFH.out.c6
              have q7 := RFH.out.cell RB4.out RFH.out.c7
              have q8 := RFH.out.cell RB4.out RFH.out.c8
              clear hk hk2
              rcases hres with ⟨i, hi, hid, rfl⟩ | ⟨hno, rfl⟩
              · obtain ⟨g, rfl, hg1, hg2⟩ := HH4.out.open_ (by have := HH4.out.len; omega)
                have hin : i < n := by have := HH4.out.len; omega
                have hin2 : (i : Int) < (n : Int) := by omega
                have di : decide ((i : Int) < 0) = false := decide_eq_false (by omega)
                obtain ⟨gn, g1, g2, g3, g4, hgot⟩ : ∃ gn g1 g2 g3 g4, D[i].2 = ⟨gn, g1, g2, g3, g4⟩ := ⟨_, _, _, _, _, rfl⟩
                have hm := HH4.out.has hi
                rw [hid, hgot] at hm
                have nn : netL L u.id = gn := by unfold netL; rw [hm]
                have NN := hide nn
                skip
                have z8 := HH4.out.cell hi (j := 8) (v := .int .i64 gn) (by show (rzA (undZ tx D[i])).toList[8]? = _; unfold undZ; rw [hgot]; rfl) w4 (Below.refl _ _)
                have z4 := HH4.out.cell hi (j := 4) (v := .int .i64 g1) (by show (rzA (undZ tx D[i])).toList[4]? = _; unfold undZ; rw [hgot]; rfl) w4 (Below.refl _ _)
                have z5 := HH4.out.cell hi (j := 5) (v := .int .i64 g2) (by show (rzA (undZ tx D[i])).toList[5]? = _; unfold undZ; rw [hgot]; rfl) w4 (Below.refl _ _)
                have z6 := HH4.out.cell hi (j := 6) (v := .int .i64 g3) (by show (rzA (undZ tx D[i])).toList[6]? = _; unfold undZ; rw [hgot]; rfl) w4 (Below.refl _ _)
                have z7 := HH4.out.cell hi (j := 7) (v := .int .i64 g4) (by show (rzA (undZ tx D[i])).toList[7]? = _; unfold undZ; rw [hgot]; rfl) w4 (Below.refl _ _)
                by_cases h0 : gn = u.delta
                · subst h0
                  by_cases h1 : g1 = u.wp
                  · subst h1
                    by_cases h2 : g2 = u.wi
                    · subst h2
                      by_cases h3 : g3 = u.sp
                      · subst h3
                        by_cases h4 : g4 = u.si
                        · subst h4
                          have eE : stepE L u = 0 := by rw [E4.out]; unfold undE; rw [hm]; show (if sameHd _ u = true then 0 else 60) = 0; rw [if_pos (by simp [sameHd])]
                          have AT2 := hide (STEP.out hq eE)
                          have sm := HH4.out.sim.cut hi
                          rw [hid, ← L4.out] at sm
                          have SM := hide sm
                          have UP := hide (step_up HH4.out.up u)
                          have FI := hide (step_fits HH4.out.fit u eE)
                          clear hm eE sm
                          go_upto_region 22 with fail
                          go_quiet (fail)
                          go_upto_region 24 with fail
                          refine named (P := Code.wp _ _ _ _) ?_
                          intro w5 hw5
                          have B45 := hide (show Below w4.heap.size w4 w5 by rw [hw5]; exact below_drewN (Below.refl _ _) _)
                          clear hw5 z8 z4 z5 z6 z7 q4 q5 q6 q7 q8
                          have HH5 := hide (HH4.out.below B45.out)
                          have W5 := hide (W4.out.trans (B45.out.mono W4.out.size))
                          clear HH4 W4
                          have s1 := fun wq => slice22 (a := some ⟨g, 0, none⟩) (n := n) (cap := c') i wq (by have := HH5.out.lst.cap; omega) nofun
                          have LT := hide (lies_take HH5.out.lst.lies i)
                          have MT := hide (show (rzs ((D.map (undZ tx)).take i)).length = i * 17 by rw [rzs_len, List.length_take, HH5.out.lst.mlen, Nat.min_eq_left (by omega)])
                          go_upto_region 26 with (first
                            | (at_builtin; refine wpList_appW Tryz.underlying22 info53 rfl (by decide) (by decide) rfl (.tmp 115) (.tmp 118) rfl w5.heap.size (.slice none 0 0) 0 [] rfl (World.ownsRow_nil _ _ _ _) _ i c' _ rfl MT.out LT.out (rzs_one _) nofun (by omega) (Nat.le_refl _) ?_; intro v6 w6 p1 p2 p3; rw [Nat.zero_add, List.nil_append] at p1; obtain ⟨a4, c4, e4, -⟩ := GRow.lies p1; subst e4; have G4 := hide p1; have B4 := hide (show Below w5.heap.size w5 w6 from (Below.refl _ _).grown p2 (Nat.le_refl _) (by nofun)); clear p1 p2 p3))
                          clear s1 LT MT
                          obtain ⟨M, hM⟩ : ∃ z, z = i + 1 := ⟨_, rfl⟩
                          have e9 : IntKind.i64.wrap ((i : Int) + 1) = ((M : Nat) : Int) := by rw [IntKind.wrap_i64]; omega
                          have e10 : (i : Int) + 1 = ((M : Nat) : Int) := by omega
                          obtain ⟨ad, s2, ead, -⟩ := tail22 (b := g) (off := 0) (n := n) (c := c') (k := M) (by omega) HH5.out.lst.cap
                          have L4b := HH5.out.lst.below B4.out
                          have LT := hide (lies_tail L4b.lies (k := M) (ad := ad) (by rw [L4b.mlen]; omega) (fun h => ead (by rw [L4b.mlen] at h; exact h)))
                          have MT := hide (show (rzs ((D.map (undZ tx)).drop M)).length = (n - M) * 17 by rw [rzs_len, List.length_drop, L4b.mlen])
                          have HMM := hide hM
                          clear L4b ead hM
                          go_wp2_with (first
                            | (at_builtin; refine wpList_appW Tryz.underlying22 info53 rfl (by decide) (by decide) rfl (.tmp 120) (.tmp 124) rfl w5.heap.size (.slice a4 i c4) i _ rfl G4.out _ (n - M) (c' - M) _ rfl MT.out LT.out (rzs_one _) nofun (by have := HMM.out; omega) B4.out.size ?_; intro v7 w7 p1 p2 p3; have G7 := hide p1; have B7 := hide (B4.out.trans ((grown_keep p2).below B4.out.size (fun z hz q => by have := (World.ownsRow.lt G4.out z q).1; omega))); clear p1 p2 p3)
                            | fail)
                          have g7 := G7.out
                          have en : i + (n - M) = n - 1 := by have := HMM.out; omega
                          rw [← rzs_app, HMM.out, cut_map, ← HMM.out, en] at g7
                          have lc := cutAt_len D hi
                          obtain ⟨a7, c7, rfl, h7⟩ := Hl.of (GRow.mono g7 W5.out.size) (by have := HH5.out.len; omega) SM.out UP.out FI.out
                          have H7 := hide h7
                          have B8 := hide (W5.out.trans (B7.out.mono W5.out.size))
                          clear g7 h7
                          go_roundw
                          case rel => exact ⟨k + 1, n - 1, _, _, _, _, rfl, by go_num, by omega, by omega, H7.out, B8.out, AT2.out⟩
                          case measure => simp [intOf]; omega
                        · have n4 : ¬ (u.si = g4) := fun q => h4 q.symm
                          have m4 : decide (u.si = g4) = false := decide_eq_false n4
                          have o4 : (u.si == g4) = false := by simpa using n4
                          have eE : stepE L u = 60 := by rw [E4.out]; unfold undE; rw [hm]; show (if sameHd _ u = true then 0 else 60) = 60; rw [if_neg (by simp [sameHd, h4])]
                          have BD := hide (BAD.out hq (by rw [eE]; decide))
                          rw [eE] at BD
                          clear hm eE
                          go_upto_region 22 with fail
                          go_quiet (fail)
                          go_wp2_with fail
                          go_ret2
                          rw [BD.out.1, BD.out.2]
                          exact ⟨_, rfl, World.ownsRow_nil _ _ _ _, below_drewN W4.out _⟩
                      · have n3 : ¬ (u.sp = g3) := fun q => h3 q.symm
                        have m3 : decide (u.sp = g3) = false := decide_eq_false n3
                        have o3 : (u.sp == g3) = false := by simpa using n3
                        have eE : stepE L u = 60 := by rw [E4.out]; unfold undE; rw [hm]; show (if sameHd _ u = true then 0 else 60) = 60; rw [if_neg (by simp [sameHd, h3])]
                        have BD := hide (BAD.out hq (by rw [eE]; decide))
                        rw [eE] at BD
                        clear hm eE
                        go_upto_region 22 with fail
                        go_quiet (fail)
                        go_wp2_with fail
                        go_ret2
                        rw [BD.out.1, BD.out.2]
                        exact ⟨_, rfl, World.ownsRow_nil _ _ _ _, below_drewN W4.out _⟩
                    · have n2 : ¬ (u.wi = g2) := fun q => h2 q.symm
                      have m2 : decide (u.wi = g2) = false := decide_eq_false n2
                      have o2 : (u.wi == g2) = false := by simpa using n2
                      have eE : stepE L u = 60 := by rw [E4.out]; unfold undE; rw [hm]; show (if sameHd _ u = true then 0 else 60) = 60; rw [if_neg (by simp [sameHd, h2])]
                      have BD := hide (BAD.out hq (by rw [eE]; decide))
                      rw [eE] at BD
                      clear hm eE
                      go_upto_region 22 with fail
                      go_quiet (fail)
                      go_wp2_with fail
                      go_ret2
                      rw [BD.out.1, BD.out.2]
                      exact ⟨_, rfl, World.ownsRow_nil _ _ _ _, below_drewN W4.out _⟩
                  · have n1 : ¬ (u.wp = g1) := fun q => h1 q.symm
                    have m1 : decide (u.wp = g1) = false := decide_eq_false n1
                    have o1 : (u.wp == g1) = false := by simpa using n1
                    have eE : stepE L u = 60 := by rw [E4.out]; unfold undE; rw [hm]; show (if sameHd _ u = true then 0 else 60) = 60; rw [if_neg (by simp [sameHd, h1])]
                    have BD := hide (BAD.out hq (by rw [eE]; decide))
                    rw [eE] at BD
                    clear hm eE
                    go_upto_region 22 with fail
                    go_quiet (fail)
                    go_wp2_with fail
                    go_ret2
                    rw [BD.out.1, BD.out.2]
                    exact ⟨_, rfl, World.ownsRow_nil _ _ _ _, below_drewN W4.out _⟩
                · have n0 : ¬ (u.delta = gn) := fun q => h0 q.symm
                  have m0 : decide (u.delta = gn) = false := decide_eq_false n0
                  have o0 : (u.delta == gn) = false := by simpa using n0
                  have eE : stepE L u = 60 := by rw [E4.out]; unfold undE; rw [hm]; show (if sameHd _ u = true then 0 else 60) = 60; rw [if_neg (by simp [sameHd, h0])]
                  have BD := hide (BAD.out hq (by rw [eE]; decide))
                  rw [eE] at BD
                  clear hm eE
                  have p0 : (u.delta != gn) = true := by simpa using n0
                  clear n0 m0 o0 h0 z4 z5 z6 z7 q4 q5 q6 q7
                  go_upto_region 22 with fail
                  go_quiet (fail)
                  go_wp2_with fail
                  go_ret2
                  rw [BD.out.1, BD.out.2]
                  exact ⟨_, rfl, World.ownsRow_nil _ _ _ _, below_drewN W4.out _⟩
              · have di : decide ((-1 : Int) < 0) = true := by decide
                have eE : stepE L u = 120 := by rw [E4.out]; unfold undE; rw [← HH4.out.sim.eq, hno]
                have BD := hide (BAD.out hq (by rw [eE]; decide))
                rw [eE] at BD
                go_wp2_with fail
                go_ret2
                rw [BD.out.1, BD.out.2]
                exact ⟨_, rfl, World.ownsRow_nil _ _ _ _, W4.out⟩
            · by_cases hk3 : u.kind = 5
              · rw [hq] at c2
                have ATC := hide (fun (w3 : World) (h3 : Hl w w3 tx D L n c' a') => at_D (w := w3) u.id h3.lst (by omega))
                clear HH
                have c9 := RFH.out.c9
                have c1 := RFH.out.c1
                go_upto_region 7 with fail
                go_wp2_with (first
                | refine wpList_ld (C1.out _ BH.out) RFH.out.sz rfl ?_
                | (refine wpList_st (RBox.new _ _ _) rfl RFH.out.sz RFH.out.one rfl rfl ?_; intro w3 rb3 k3; have q2 := RFH.out.cell rb3 c2; have RB3 := hide rb3; have K3 := hide k3; clear rb3 k3; have q9 := RFH.out.cell RB3.out c9)
                | refine wpList_lb RB3.out RFH.out.sz rfl ?_
                | fail)
                refine (ATC.out _ (HH3.out _ K3.out).1).mono ?_
                rintro e w4 ⟨hres, hb4⟩
                have RB4 := hide (RB3.out.below hb4)
                have HH4 := hide ((HH3.out _ K3.out).1.below hb4)
                have W4 := hide ((HH3.out _ K3.out).2.trans (hb4.mono (HH3.out _ K3.out).2.size))
                clear hb4 q9 q2 HH3 ATC
                have q1 := RFH.out.cell RB4.out c1
                have hk5 : u.kind = 5 := hk3
                rw [hk5] at q1
                obtain ⟨z, rfl⟩ : ∃ z : Int, e = .returned (.int .i64 z) := by rcases hres with ⟨i, hi, hid, rfl⟩ | ⟨hno, rfl⟩ <;> exact ⟨_, rfl⟩
                have eE : stepE L u = 0 := by unfold stepE; rw [if_neg hk, if_neg hk2]
                have eL : stepL L u = [] := by unfold stepL; rw [if_neg hk, if_neg hk2, if_pos hk5]
                have AT2 := STEP.out hq eE
                rw [eL] at AT2
                have AT3 := hide AT2
                clear AT2 eE eL hres hk hk2 hk3
                go_wp2_with fail
                go_roundw
                case rel => exact ⟨k + 1, 0, [], [], none, 0, rfl, by go_num, by omega, by omega, Hl.nil _ _ _, W4.out, AT3.out⟩
                case measure => simp [intOf]; omega
              · rw [hq] at c2
                have ATC := hide (fun (w3 : World) (h3 : Hl w w3 tx D L n c' a') => at_D (w := w3) u.id h3.lst (by omega))
                clear HH
                have c9 := RFH.out.c9
                have c1 := RFH.out.c1
                go_upto_region 7 with fail
                go_wp2_with (first
                | refine wpList_ld (C1.out _ BH.out) RFH.out.sz rfl ?_
                | (refine wpList_st (RBox.new _ _ _) rfl RFH.out.sz RFH.out.one rfl rfl ?_; intro w3 rb3 k3; have q2 := RFH.out.cell rb3 c2; have RB3 := hide rb3; have K3 := hide k3; clear rb3 k3; have q9 := RFH.out.cell RB3.out c9)
                | refine wpList_lb RB3.out RFH.out.sz rfl ?_
                | fail)
                refine (ATC.out _ (HH3.out _ K3.out).1).mono ?_
                rintro e w4 ⟨hres, hb4⟩
                have RB4 := hide (RB3.out.below hb4)
                have HH4 := hide ((HH3.out _ K3.out).1.below hb4)
                have W4 := hide ((HH3.out _ K3.out).2.trans (hb4.mono (HH3.out _ K3.out).2.size))
                clear hb4 q9 q2 HH3 ATC
                have q1 := RFH.out.cell RB4.out c1
                obtain ⟨z, rfl⟩ : ∃ z : Int, e = .returned (.int .i64 z) := by rcases hres with ⟨i, hi, hid, rfl⟩ | ⟨hno, rfl⟩ <;> exact ⟨_, rfl⟩
                have eE : stepE L u = 0 := by unfold stepE; rw [if_neg hk, if_neg hk2]
                have eL : stepL L u = L := by unfold stepL; rw [if_neg hk, if_neg hk2, if_neg hk3]
                have AT2 := STEP.out hq eE
                rw [eL] at AT2
                have AT3 := hide AT2
                clear AT2 eE eL hres
                have m3 : decide (u.kind = 3) = false := decide_eq_false hk
                have m4 : decide (u.kind = 4) = false := decide_eq_false hk2
                have m5 : decide (u.kind = 5) = false := decide_eq_false hk3
                have o3 : (u.kind == 3) = false := by simpa using hk
                have o4 : (u.kind == 4) = false := by simpa using hk2
                have o5 : (u.kind == 5) = false := by simpa using hk3
                go_wp2_with fail
                go_roundw
                case rel => exact ⟨k + 1, n, D, L, a', c', rfl, by go_num, by omega, by omega, HH4.out, W4.out, AT3.out⟩
                case measure => simp [intOf]; omega
        · have AT2 := hide (AT.out.skip hxu (by rw [HUX.out]; exact hq))
          have nd : decide (u.tx = tx) = false := decide_eq_false hq
          have nb : (u.tx == tx) = false := by simpa using hq
          go_upto_region 7 with fail
          go_wp2_with (first
          | refine wpList_ld (C1.out _ BH.out) RFH.out.sz rfl ?_
          | (refine wpList_st (RBox.new _ _ _) rfl RFH.out.sz RFH.out.one rfl rfl ?_; intro w3 rb3 k3; have q2 := RFH.out.cell rb3 c2; have RB3 := hide rb3; have K3 := hide k3; clear rb3 k3; skip)
          | refine wpList_lb RB3.out RFH.out.sz rfl ?_
          | fail)
          go_roundw
          case rel => exact ⟨k + 1, n, D, L, a', c', rfl, by go_num, by omega, by omega, (HH3.out _ K3.out).1, (HH3.out _ K3.out).2, AT2.out⟩
          case measure => simp [intOf]; omega
      · obtain rfl : N = k := by omega
        have d1 : decide ((N : Int) < (N : Int)) = false := decide_eq_false (by omega)
        have eN : us.length = N := by rw [HUS.out, List.length_map, ← HN.out]
        have q := AT.out
        rw [← eN] at q
        obtain ⟨z1, z2⟩ := q.done HT.out
        have UN := hide (rising_any tx D L a' c' n wr HH.out.lst HH.out.sim HH.out.up (by omega))
        have Z1 := hide z1
        have Z2 := hide z2
        clear q z1 z2 eN
        go_wp2_with fail
        refine UN.out.mono ?_
        rintro e w2 ⟨v, rfl, g2, b2⟩
        go_wp2_with fail
        go_ret2
        rw [Z1.out, Z2.out]
        exact ⟨_, rfl, GRow.mono g2 BH.out.size, BH.out.trans (b2.mono BH.out.size)⟩
  · have hx : isTx tx = false := by unfold isTx; simp; omega
    have e1 : leftE tx us = 130 := by unfold leftE; rw [hx]; rfl
    have e2 : leftL tx us = [] := by unfold leftL; rw [hx]; rfl
    rw [e1, e2]
    clear e1 e2 hx
    by_cases h1 : tx < 1
    · have t1 : decide (tx < 1) = true := decide_eq_true h1
      go_enter Tryz.func8, Tryz.ntmps8
      go_wp2_with fail
      go_ret2
      exact ⟨_, rfl, World.ownsRow_nil _ _ _ _, Below.refl _ _⟩
    · have t1 : decide (tx < 1) = false := decide_eq_false h1
      have t2 : decide (2147483647 < tx) = true := decide_eq_true (by omega)
      have t3 : decide (tx > 2147483647) = true := decide_eq_true (by omega)
      go_enter Tryz.func8, Tryz.ntmps8
      go_wp2_with fail
      go_ret2
      exact ⟨_, rfl, World.ownsRow_nil _ _ _ _, Below.refl _ _⟩
end Go.Proofs.YtehbpmibllpkhaaGreatDoor
