import Derived.Test.YtaohdmaenplbpaaGreatLdAL
set_option linter.all false
namespace Go.Proofs.YtaohdmaenplbpaaGreat
open Go.RowKit Go.QK Quota Go.Maps Go.QM
set_option maxRecDepth 100000
set_option maxHeartbeats 20000000 in
theorem sumOf_st {lab : Nat → Nat} {T : Nat → Prop} {w : World} {sb lb : Nat} {vc ve : Value} {es : List SE} {C : Ctrs} {H H' : Helds} (hst : St lab T w sb lb vc ve es C H) (ok : SOk es H') (eok : ∀ x ∈ es, x.e.Ok) (g : Int) : Calls Tryz.prog 20 #[ptr sb, .int .i64 g] w fun r w' => r = .returned (.tuple #[wd (sumG (ctrsOf es) g), wd (lowG (ctrsOf es) g), wd (highG (ctrsOf es) g)]) ∧ Below w.heap.size w w' := by
  obtain ⟨a1, c1, a2, c2, rfl, rfl⟩ := hst.form
  obtain ⟨n, hn⟩ : ∃ n, n = es.length := ⟨_, rfl⟩
  rw [← hn] at hst
  have n8 : n ≤ 8 := by rw [hn]; exact ok.few
  have NE := hide hn
  have EOK := hide eok
  have NF := hide (show ∀ x ∈ es, x.e.nets.length ≤ 6 from fun x hx => nets_few ok hx (eok x hx))
  have OK := hide ok
  have HS := hide hst
  clear ok hst hn eok
  obtain ⟨e1, e2, e3⟩ := sum_three (es := es) g
  obtain ⟨A, hA⟩ : ∃ z, z = sumG (ctrsOf es) g := ⟨_, rfl⟩
  obtain ⟨L, hL⟩ : ∃ z, z = lowG (ctrsOf es) g := ⟨_, rfl⟩
  obtain ⟨U, hU⟩ : ∃ z, z = highG (ctrsOf es) g := ⟨_, rfl⟩
  rw [← hA, ← hL, ← hU]
  have E1 := hide (e1.trans hA.symm)
  have E2 := hide ((gN_lows g es).1.trans (e2.trans hL.symm))
  have E3 := hide ((gN_lows g es).2.trans (e3.trans hU.symm))
  clear e1 e2 e3 hA hL hU
  have KO := hide (fun w' => of_any 0 w')
  go_enter Tryz.func20, Tryz.ntmps20
  go_upto_region 1 with fail
  refine named (P := Code.wp _ _ _ _) ?_
  intro w1 hw1
  obtain ⟨b, hb⟩ : ∃ b, b = w.heap.size := ⟨_, rfl⟩
  have f0 : Cells w1 b [.int .i64 0, .int .i64 0] := by
    rw [hw1, hb]; exact ((Cells.new w #[.int .i64 0, .int .i64 0] 59).below (alloc_below _ _)).below (alloc_below _ _)
  have f1 : Cells w1 (b + 1) [.int .i64 0, .int .i64 0] := by
    rw [hw1, hb]
    have := (Cells.new (w.alloc (.cells #[.int .i64 0, .int .i64 0] 59)) #[.int .i64 0, .int .i64 0] 59).below (alloc_below _ (.cells #[.int .i64 0, .int .i64 0] 59))
    simpa using this
  have f2 : Cells w1 (b + 2) [.int .i64 0, .int .i64 0] := by
    rw [hw1, hb]
    have := Cells.new ((w.alloc (.cells #[.int .i64 0, .int .i64 0] 59)).alloc (.cells #[.int .i64 0, .int .i64 0] 59)) #[.int .i64 0, .int .i64 0] 59
    simpa using this
  have b1 : Below w.heap.size w w1 := by
    rw [hw1]; exact ((alloc_below _ _).alloc (by simp) _).alloc (by simp; omega) _
  have z1 : w1.heap.size = b + 3 := by rw [hw1, hb]; simp
  have F0 := hide f0
  have F1 := hide f1
  have F2 := hide f2
  have B1' := hide b1
  have Z1 := hide z1
  have LOW := hide (show w.heap.size ≤ b by omega)
  rw [← hb]
  clear hw1 hb f0 f1 f2 b1 z1
  go_upto_region 2 with (go_at_call 39; refine (KO.out _).mono ?_; rintro r w2 ⟨rfl, hb2⟩)
  refine named (P := Code.wp _ _ _ _) ?_
  intro w3 hw3
  obtain ⟨sx, hsx⟩ : ∃ b, b = w2.heap.size := ⟨_, rfl⟩
  have b23 : Below w2.heap.size w2 w3 := by rw [hw3]; exact alloc_below _ _
  have G3 := hide (show Cells w3 sx [.int .i64 (wh 0), .int .i64 (wl 0)] by rw [hw3, hsx]; exact Cells.new _ _ _)
  have SX := hide (show b + 2 < sx by have := hb2.size; have := Z1.out; omega)
  have S3 := hide (show w3.heap.size = sx + 1 by rw [hw3, hsx]; simp)
  have b13 : Below w1.heap.size w1 w3 := hb2.trans (b23.mono hb2.size)
  have H0 := hide (F0.out.below b13)
  have H1 := hide (F1.out.below b13)
  have H2 := hide (F2.out.below b13)
  have B3 := hide (B1'.out.trans (b13.mono B1'.out.size))
  rw [← hsx]
  clear hw3 hsx b23 hb2 b13 F0 F1 F2 B1' Z1
  go_upto_region 3 with (go_at_call 39; refine (KO.out _).mono ?_; rintro r w4 ⟨rfl, hb4⟩)
  refine named (P := Code.wp _ _ _ _) ?_
  intro w5 hw5
  obtain ⟨bx, hbx⟩ : ∃ b, b = w4.heap.size := ⟨_, rfl⟩
  have b45 : Below w4.heap.size w4 w5 := by rw [hw5]; exact alloc_below _ _
  have b35 : Below w3.heap.size w3 w5 := hb4.trans (b45.mono hb4.size)
  have M5 := hide (show Sm w w5 b sx bx (.slice none 0 0) 0 0 [] from ⟨B3.out.trans (b35.mono B3.out.size), LOW.out, SX.out, by have := hb4.size; have := S3.out; omega, H0.out.below b35, H1.out.below b35, H2.out.below b35, G3.out.below b35, by rw [hw5, hbx]; exact Cells.new _ _ _, World.ownsRow_nil _ _ _ _⟩)
  rw [← hbx]
  clear hw5 hbx b45 hb4 b35 H0 H1 H2 G3 B3 S3 SX LOW KO
  go_wp2_with fail
  go_loopw [10, 9] (fun v u wr => ∃ (i : Nat), v = .int .i64 (i : Int) ∧ i ≤ n ∧ Sm w wr b sx bx u (gS Esc.val g (es.take i)) (gS Esc.base g (es.take i)) (gN g (es.take i))) (fun v _ _ => n + 1 - (intOf v).toNat)
  case atStart => exact ⟨0, rfl, Nat.zero_le _, M5.out⟩
  case round =>
    clear M5
    obtain ⟨i, rfl, hi, hM⟩ := hrel
    obtain ⟨na, nc, rfl, -⟩ := GRow.lies hM.ns
    have HR := hide hM
    have g1 := ((HS.out.below hM.be).box.get 1 _ rfl).1
    by_cases hlt : i < n
    · have hie : i < es.length := by rw [← NE.out]; exact hlt
      obtain ⟨cb, co, eb, eo, rfl, rfl, sees⟩ := HS.out.see hie
      have XC := hide sees
      have KV := hide (fun (wz : World) (h : Below w.heap.size w wz) => value_any _ _ _ wz ((HS.out.esc i hie).keep (Keep.of_below (S := fun _ => False) h) id id))
      have KT := hide (fun (wz : World) (h : Below w.heap.size w wz) => settled_any _ _ _ wz ((HS.out.esc i hie).keep (Keep.of_below (S := fun _ => False) h) id id))
      have KN := hide (fun (t : Int) (ht : I64 t) (wz : World) (h : Below w.heap.size w wz) => net_any _ _ _ t wz ((HS.out.esc i hie).keep (Keep.of_below (S := fun _ => False) h) id id) ht)
      have eo' := EOK.out _ (List.getElem_mem hie)
      have NT := hide (OK.out.nets _ (List.getElem_mem hie))
      have NL := hide (NF.out _ (List.getElem_mem hie))
      have GV := hide (gS_take Esc.val g hie)
      have GB := hide (gS_take Esc.base g hie)
      have GN := hide (gN_take g hie)
      have tk : ∀ x ∈ es.take i, x ∈ es := fun x hx => List.mem_of_mem_take hx
      have tl : (es.take i).length ≤ 8 := by rw [List.length_take]; omega
      have bv := gS_in (F := Esc.val) (g := g) (es := es.take i) (fun x hx => by have := (EOK.out x (tk x hx)).part (fun _ => true); rw [List.filter_eq_self.2 (by simp)] at this; exact this)
      have bb := gS_in (F := Esc.base) (g := g) (es := es.take i) (fun x hx => (EOK.out x (tk x hx)).rng.2.2.2)
      have NLEN := hide (gN_len (g := g) (es := es.take i) (fun x hx => NF.out x (tk x hx)))
      have ev : I64 es[i].e.val := by have := eo'.part (fun _ => true); rw [List.filter_eq_self.2 (by simp)] at this; exact this
      have RI := hide eo'.rise
      obtain ⟨sv, hsv⟩ : ∃ z, z = gS Esc.val g (es.take i) := ⟨_, rfl⟩
      obtain ⟨bs, hbs⟩ : ∃ z, z = gS Esc.base g (es.take i) := ⟨_, rfl⟩
      obtain ⟨zs, hzs⟩ : ∃ z, z = gN g (es.take i) := ⟨_, rfl⟩
      rw [← hsv] at GV bv HR hM
      rw [← hbs] at GB bb HR hM
      rw [← hzs] at GN HR NLEN hM ⊢
      have KP := hide (fun wz => plus_w sv es[i].e.val wz (by unfold Bd; omega) ev)
      have KQ := hide (fun wz => plus_w bs es[i].e.base wz (by unfold Bd; omega) eo'.rng.2.2.2)
      clear hsv hbs hzs bv bb ev eo' sees tk
      generalize es[i] = x at *
      obtain ⟨id, grp, v0, xb, xm, e⟩ := x
      simp only at KV KT KN KP KQ XC GV GB GN NT NL RI
      have hZl : zs.length ≤ 48 := by have := NLEN.out; omega
      obtain ⟨m0, m1, m2, x0, x1, x2, x3, x4, xe⟩ := XC.out _ hM.be
      clear hM g1
      by_cases hgr : grp = g
      · have e1 : (grp == g) = true := by simpa using hgr
        rw [if_pos hgr] at GV GB GN
        clear hgr
        go_upto_region 8 with fail
        clear m0 m1 m2 x0 x1 x2 x3 x4 xe e1
        go_cut [] from 18 to 78 (fun w' => Sm w w' b sx bx (.slice na zs.length nc) (sv + e.val) bs zs)
        case first =>
          refine wp_region_held_drew (S := fun wz => Below w.heap.size w wz) (by kernel_rfl) HR.out.be.drew (fun hS => ?_)
          have HM := hide (HR.out.below (show Below wr.heap.size wr wr.drew from (Below.refl _ _).drew))
          generalize wr.drew = yy at *
          refine take_at 1 (some 38) (v := ?_) rfl rfl (by kernel_rfl) (by kernel_rfl) (by kernel_rfl) (fun _ _ _ h => h) ⟨by rfl, ?_⟩ hS ?_
          rotate_left
          · intro wz hSw; obtain ⟨m0, m1, m2, x0, x1, x2, x3, x4, xe⟩ := XC.out _ hSw; go_simp; try rfl
          simp only [Act.put, List.setIfInBounds_toArray, List.set_cons_zero, List.set_cons_succ]
          refine take_at 2 (some 39) (v := ?_) rfl rfl (by kernel_rfl) (by kernel_rfl) (by kernel_rfl) (fun _ _ _ h => h) ⟨by rfl, ?_⟩ hS ?_
          rotate_left
          · intro wz hSw; obtain ⟨m0, m1, m2, x0, x1, x2, x3, x4, xe⟩ := XC.out _ hSw; go_simp; try rfl
          simp only [Act.put, List.setIfInBounds_toArray, List.set_cons_zero, List.set_cons_succ]
          refine take_at 3 (some 40) (v := ?_) rfl rfl (by kernel_rfl) (by kernel_rfl) (by kernel_rfl) (fun _ _ _ h => h) ⟨by rfl, ?_⟩ hS ?_
          rotate_left
          · intro wz hSw; obtain ⟨m0, m1, m2, x0, x1, x2, x3, x4, xe⟩ := XC.out _ hSw; go_simp; try rfl
          simp only [Act.put, List.setIfInBounds_toArray, List.set_cons_zero, List.set_cons_succ]
          refine take_at 4 (some 41) (v := ?_) rfl rfl (by kernel_rfl) (by kernel_rfl) (by kernel_rfl) (fun _ _ _ h => h) ⟨by rfl, ?_⟩ hS ?_
          rotate_left
          · intro wz hSw; obtain ⟨m0, m1, m2, x0, x1, x2, x3, x4, xe⟩ := XC.out _ hSw; go_simp; try rfl
          simp only [Act.put, List.setIfInBounds_toArray, List.set_cons_zero, List.set_cons_succ]
          refine take_at 5 (some 42) (v := ?_) rfl rfl (by kernel_rfl) (by kernel_rfl) (by kernel_rfl) (fun _ _ _ h => h) ⟨by rfl, ?_⟩ hS ?_
          rotate_left
          · intro wz hSw; obtain ⟨m0, m1, m2, x0, x1, x2, x3, x4, xe⟩ := XC.out _ hSw; go_simp; try rfl
          simp only [Act.put, List.setIfInBounds_toArray, List.set_cons_zero, List.set_cons_succ]
          refine take_at 6 (some 43) (v := ?_) rfl rfl (by kernel_rfl) (by kernel_rfl) (by kernel_rfl) (fun _ _ _ h => h) ⟨by rfl, ?_⟩ hS ?_
          rotate_left
          · intro wz hSw; obtain ⟨m0, m1, m2, x0, x1, x2, x3, x4, xe⟩ := XC.out _ hSw; go_simp; try rfl
          simp only [Act.put, List.setIfInBounds_toArray, List.set_cons_zero, List.set_cons_succ]
          refine take_at 7 (some 44) (v := ?_) rfl rfl (by kernel_rfl) (by kernel_rfl) (by kernel_rfl) (fun _ _ _ h => h) ⟨by rfl, ?_⟩ hS ?_
          rotate_left
          · intro wz hSw; obtain ⟨m0, m1, m2, x0, x1, x2, x3, x4, xe⟩ := XC.out _ hSw; go_simp; try rfl
          simp only [Act.put, List.setIfInBounds_toArray, List.set_cons_zero, List.set_cons_succ]
          refine wpAnyH_ready (rs := [0, 8]) (by kernel_rfl) (by simp) ?_
          refine AllReadyH.cons rfl (fun K hK => ?_) (AllReadyH.cons rfl (fun K hK => ?_) AllReadyH.nil)
          · obtain ⟨q0, _⟩ := HM.out.sm.get 0 _ rfl
            obtain ⟨q1, _⟩ := HM.out.sm.get 1 _ rfl
            go_simp
            go_wp2_with fail
            refine hK.out _ _ hS (fun hS => ?_)
            clear hK K q0 q1
            (try simp only [Act.put, List.setIfInBounds_toArray, List.set_cons_zero, List.set_cons_succ])
            refine wpAnyH_ready (rs := [8]) (by kernel_rfl) (by simp) ?_
            refine AllReadyH.cons rfl (fun K hK => ?_) AllReadyH.nil
            go_simp
            go_wp2_with fail
            refine (KV.out _ hS).mono ?_
            rintro e u1 ⟨rfl, hh⟩
            have s_u1 : Below w.heap.size w u1 := hS.trans (hh.mono hS.size)
            have HN := hide (HM.out.below hh)
            clear HM
            have HM := HN
            clear HN
            clear hh hS
            go_wp2_with fail
            refine hK.out _ _ s_u1 (fun hS => ?_)
            clear hK K s_u1
            (try simp only [Act.put, List.setIfInBounds_toArray, List.set_cons_zero, List.set_cons_succ])
            refine wpAnyH_ready (rs := [9]) (by kernel_rfl) (by simp) ?_
            refine AllReadyH.cons rfl (fun K hK => ?_) AllReadyH.nil
            go_simp
            go_wp2_with fail
            refine (KP.out _).mono ?_
            rintro e u2 ⟨rfl, hh⟩
            have s_u2 : Below w.heap.size w u2 := hS.trans (hh.mono hS.size)
            have HN := hide (HM.out.below hh)
            clear HM
            have HM := HN
            clear HN
            clear hh hS
            go_wp2_with fail
            refine hK.out _ _ s_u2 (fun hS => ?_)
            clear hK K s_u2
            (try simp only [Act.put, List.setIfInBounds_toArray, List.set_cons_zero, List.set_cons_succ])
            have HZ := hide (HM.out.setS (sv + e.val))
            obtain ⟨q0, p0⟩ := HM.out.sm.get 0 _ rfl
            obtain ⟨q1, p1⟩ := HM.out.sm.get 1 _ rfl
            clear hS
            refine wpAnyH_ready (rs := [10]) (by kernel_rfl) (by simp) ?_
            refine AllReadyH.cons rfl (fun K hK => ?_) AllReadyH.nil
            go_simp
            go_wp2_with fail
            refine hK.out _ _ HZ.out.be (fun hS => ?_)
            clear hK K q0 q1 p0 p1 hS
            (try simp only [Act.put, List.setIfInBounds_toArray, List.set_cons_zero, List.set_cons_succ])
            refine wpAnyH_done (by kernel_rfl) ?_ _
            go_wp2_with fail
            go_meet
            exact HZ.out
          · go_simp
            go_wp2_with fail
            refine (KV.out _ hS).mono ?_
            rintro e u1 ⟨rfl, hh⟩
            have s_u1 : Below w.heap.size w u1 := hS.trans (hh.mono hS.size)
            have HN := hide (HM.out.below hh)
            clear HM
            have HM := HN
            clear HN
            clear hh hS
            go_wp2_with fail
            refine hK.out _ _ s_u1 (fun hS => ?_)
            clear hK K s_u1
            (try simp only [Act.put, List.setIfInBounds_toArray, List.set_cons_zero, List.set_cons_succ])
            refine wpAnyH_ready (rs := [0]) (by kernel_rfl) (by simp) ?_
            refine AllReadyH.cons rfl (fun K hK => ?_) AllReadyH.nil
            obtain ⟨q0, _⟩ := HM.out.sm.get 0 _ rfl
            obtain ⟨q1, _⟩ := HM.out.sm.get 1 _ rfl
            go_simp
            go_wp2_with fail
            refine hK.out _ _ hS (fun hS => ?_)
            clear hK K q0 q1
            (try simp only [Act.put, List.setIfInBounds_toArray, List.set_cons_zero, List.set_cons_succ])
            refine wpAnyH_ready (rs := [9]) (by kernel_rfl) (by simp) ?_
            refine AllReadyH.cons rfl (fun K hK => ?_) AllReadyH.nil
            go_simp
            go_wp2_with fail
            refine (KP.out _).mono ?_
            rintro e u2 ⟨rfl, hh⟩
            have s_u2 : Below w.heap.size w u2 := hS.trans (hh.mono hS.size)
            have HN := hide (HM.out.below hh)
            clear HM
            have HM := HN
            clear HN
            clear hh hS
            go_wp2_with fail
            refine hK.out _ _ s_u2 (fun hS => ?_)
            clear hK K s_u2
            (try simp only [Act.put, List.setIfInBounds_toArray, List.set_cons_zero, List.set_cons_succ])
            have HZ := hide (HM.out.setS (sv + e.val))
            obtain ⟨q0, p0⟩ := HM.out.sm.get 0 _ rfl
            obtain ⟨q1, p1⟩ := HM.out.sm.get 1 _ rfl
            clear hS
            refine wpAnyH_ready (rs := [10]) (by kernel_rfl) (by simp) ?_
            refine AllReadyH.cons rfl (fun K hK => ?_) AllReadyH.nil
            go_simp
            go_wp2_with fail
            refine hK.out _ _ HZ.out.be (fun hS => ?_)
            clear hK K q0 q1 p0 p1 hS
            (try simp only [Act.put, List.setIfInBounds_toArray, List.set_cons_zero, List.set_cons_succ])
            refine wpAnyH_done (by kernel_rfl) ?_ _
            go_wp2_with fail
            go_meet
            exact HZ.out
        case rest =>
          have H6 := hide hcut
          clear hcut HR KV KP
          obtain ⟨V, hV⟩ : ∃ V, V = sv + e.val := ⟨_, rfl⟩
          rw [← hV] at H6 GV
          clear hV
          go_upto_region 9 with fail
          go_cut [] from 18 to 78 (fun w' => Sm w w' b sx bx (.slice na zs.length nc) V (bs + e.base) zs)
          case first =>
            refine wp_region_held_drew (S := fun wz => Below w.heap.size w wz) (by kernel_rfl) H6.out.be.drew (fun hS => ?_)
            have HM := hide (H6.out.below (show Below wc.heap.size wc wc.drew from (Below.refl _ _).drew))
            generalize wc.drew = yy at *
            refine take_at 1 (some 48) (v := ?_) rfl rfl (by kernel_rfl) (by kernel_rfl) (by kernel_rfl) (fun _ _ _ h => h) ⟨by rfl, ?_⟩ hS ?_
            rotate_left
            · intro wz hSw; obtain ⟨m0, m1, m2, x0, x1, x2, x3, x4, xe⟩ := XC.out _ hSw; go_simp; try rfl
            simp only [Act.put, List.setIfInBounds_toArray, List.set_cons_zero, List.set_cons_succ]
            refine take_at 2 (some 49) (v := ?_) rfl rfl (by kernel_rfl) (by kernel_rfl) (by kernel_rfl) (fun _ _ _ h => h) ⟨by rfl, ?_⟩ hS ?_
            rotate_left
            · intro wz hSw; obtain ⟨m0, m1, m2, x0, x1, x2, x3, x4, xe⟩ := XC.out _ hSw; go_simp; try rfl
            simp only [Act.put, List.setIfInBounds_toArray, List.set_cons_zero, List.set_cons_succ]
            refine take_at 3 (some 50) (v := ?_) rfl rfl (by kernel_rfl) (by kernel_rfl) (by kernel_rfl) (fun _ _ _ h => h) ⟨by rfl, ?_⟩ hS ?_
            rotate_left
            · intro wz hSw; obtain ⟨m0, m1, m2, x0, x1, x2, x3, x4, xe⟩ := XC.out _ hSw; go_simp; try rfl
            simp only [Act.put, List.setIfInBounds_toArray, List.set_cons_zero, List.set_cons_succ]
            refine take_at 4 (some 51) (v := ?_) rfl rfl (by kernel_rfl) (by kernel_rfl) (by kernel_rfl) (fun _ _ _ h => h) ⟨by rfl, ?_⟩ hS ?_
            rotate_left
            · intro wz hSw; obtain ⟨m0, m1, m2, x0, x1, x2, x3, x4, xe⟩ := XC.out _ hSw; go_simp; try rfl
            simp only [Act.put, List.setIfInBounds_toArray, List.set_cons_zero, List.set_cons_succ]
            refine take_at 5 (some 52) (v := ?_) rfl rfl (by kernel_rfl) (by kernel_rfl) (by kernel_rfl) (fun _ _ _ h => h) ⟨by rfl, ?_⟩ hS ?_
            rotate_left
            · intro wz hSw; obtain ⟨m0, m1, m2, x0, x1, x2, x3, x4, xe⟩ := XC.out _ hSw; go_simp; try rfl
            simp only [Act.put, List.setIfInBounds_toArray, List.set_cons_zero, List.set_cons_succ]
            refine take_at 6 (some 53) (v := ?_) rfl rfl (by kernel_rfl) (by kernel_rfl) (by kernel_rfl) (fun _ _ _ h => h) ⟨by rfl, ?_⟩ hS ?_
            rotate_left
            · intro wz hSw; obtain ⟨m0, m1, m2, x0, x1, x2, x3, x4, xe⟩ := XC.out _ hSw; go_simp; try rfl
            simp only [Act.put, List.setIfInBounds_toArray, List.set_cons_zero, List.set_cons_succ]
            refine take_at 7 (some 54) (v := ?_) rfl rfl (by kernel_rfl) (by kernel_rfl) (by kernel_rfl) (fun _ _ _ h => h) ⟨by rfl, ?_⟩ hS ?_
            rotate_left
            · intro wz hSw; obtain ⟨m0, m1, m2, x0, x1, x2, x3, x4, xe⟩ := XC.out _ hSw; go_simp; try rfl
            simp only [Act.put, List.setIfInBounds_toArray, List.set_cons_zero, List.set_cons_succ]
            refine wpAnyH_ready (rs := [0, 8]) (by kernel_rfl) (by simp) ?_
            refine AllReadyH.cons rfl (fun K hK => ?_) (AllReadyH.cons rfl (fun K hK => ?_) AllReadyH.nil)
            · obtain ⟨q0, _⟩ := HM.out.ba.get 0 _ rfl
              obtain ⟨q1, _⟩ := HM.out.ba.get 1 _ rfl
              go_simp
              go_wp2_with fail
              refine hK.out _ _ hS (fun hS => ?_)
              clear hK K q0 q1
              (try simp only [Act.put, List.setIfInBounds_toArray, List.set_cons_zero, List.set_cons_succ])
              refine wpAnyH_ready (rs := [8]) (by kernel_rfl) (by simp) ?_
              refine AllReadyH.cons rfl (fun K hK => ?_) AllReadyH.nil
              go_simp
              go_wp2_with fail
              refine (KT.out _ hS).mono ?_
              rintro e u1 ⟨rfl, hh⟩
              have s_u1 : Below w.heap.size w u1 := hS.trans (hh.mono hS.size)
              have HN := hide (HM.out.below hh)
              clear HM
              have HM := HN
              clear HN
              clear hh hS
              go_wp2_with fail
              refine hK.out _ _ s_u1 (fun hS => ?_)
              clear hK K s_u1
              (try simp only [Act.put, List.setIfInBounds_toArray, List.set_cons_zero, List.set_cons_succ])
              refine wpAnyH_ready (rs := [9]) (by kernel_rfl) (by simp) ?_
              refine AllReadyH.cons rfl (fun K hK => ?_) AllReadyH.nil
              go_simp
              go_wp2_with fail
              refine (KQ.out _).mono ?_
              rintro e u2 ⟨rfl, hh⟩
              have s_u2 : Below w.heap.size w u2 := hS.trans (hh.mono hS.size)
              have HN := hide (HM.out.below hh)
              clear HM
              have HM := HN
              clear HN
              clear hh hS
              go_wp2_with fail
              refine hK.out _ _ s_u2 (fun hS => ?_)
              clear hK K s_u2
              (try simp only [Act.put, List.setIfInBounds_toArray, List.set_cons_zero, List.set_cons_succ])
              have HZ := hide (HM.out.setB (bs + e.base))
              obtain ⟨q0, p0⟩ := HM.out.ba.get 0 _ rfl
              obtain ⟨q1, p1⟩ := HM.out.ba.get 1 _ rfl
              clear hS
              refine wpAnyH_ready (rs := [10]) (by kernel_rfl) (by simp) ?_
              refine AllReadyH.cons rfl (fun K hK => ?_) AllReadyH.nil
              go_simp
              go_wp2_with fail
              refine hK.out _ _ HZ.out.be (fun hS => ?_)
              clear hK K q0 q1 p0 p1 hS
              (try simp only [Act.put, List.setIfInBounds_toArray, List.set_cons_zero, List.set_cons_succ])
              refine wpAnyH_done (by kernel_rfl) ?_ _
              go_wp2_with fail
              go_meet
              exact HZ.out
            · go_simp
              go_wp2_with fail
              refine (KT.out _ hS).mono ?_
              rintro e u1 ⟨rfl, hh⟩
              have s_u1 : Below w.heap.size w u1 := hS.trans (hh.mono hS.size)
              have HN := hide (HM.out.below hh)
              clear HM
              have HM := HN
              clear HN
              clear hh hS
              go_wp2_with fail
              refine hK.out _ _ s_u1 (fun hS => ?_)
              clear hK K s_u1
              (try simp only [Act.put, List.setIfInBounds_toArray, List.set_cons_zero, List.set_cons_succ])
              refine wpAnyH_ready (rs := [0]) (by kernel_rfl) (by simp) ?_
              refine AllReadyH.cons rfl (fun K hK => ?_) AllReadyH.nil
              obtain ⟨q0, _⟩ := HM.out.ba.get 0 _ rfl
              obtain ⟨q1, _⟩ := HM.out.ba.get 1 _ rfl
              go_simp
              go_wp2_with fail
              refine hK.out _ _ hS (fun hS => ?_)
              clear hK K q0 q1
              (try simp only [Act.put, List.setIfInBounds_toArray, List.set_cons_zero, List.set_cons_succ])
              refine wpAnyH_ready (rs := [9]) (by kernel_rfl) (by simp) ?_
              refine AllReadyH.cons rfl (fun K hK => ?_) AllReadyH.nil
              go_simp
              go_wp2_with fail
              refine (KQ.out _).mono ?_
              rintro e u2 ⟨rfl, hh⟩
              have s_u2 : Below w.heap.size w u2 := hS.trans (hh.mono hS.size)
              have HN := hide (HM.out.below hh)
              clear HM
              have HM := HN
              clear HN
              clear hh hS
              go_wp2_with fail
              refine hK.out _ _ s_u2 (fun hS => ?_)
              clear hK K s_u2
              (try simp only [Act.put, List.setIfInBounds_toArray, List.set_cons_zero, List.set_cons_succ])
              have HZ := hide (HM.out.setB (bs + e.base))
              obtain ⟨q0, p0⟩ := HM.out.ba.get 0 _ rfl
              obtain ⟨q1, p1⟩ := HM.out.ba.get 1 _ rfl
              clear hS
              refine wpAnyH_ready (rs := [10]) (by kernel_rfl) (by simp) ?_
              refine AllReadyH.cons rfl (fun K hK => ?_) AllReadyH.nil
              go_simp
              go_wp2_with fail
              refine hK.out _ _ HZ.out.be (fun hS => ?_)
              clear hK K q0 q1 p0 p1 hS
              (try simp only [Act.put, List.setIfInBounds_toArray, List.set_cons_zero, List.set_cons_succ])
              refine wpAnyH_done (by kernel_rfl) ?_ _
              go_wp2_with fail
              go_meet
              exact HZ.out
          case rest =>
            have H7 := hide hcut
            clear hcut H6 KT KQ
            obtain ⟨Bb, hV⟩ : ∃ V, V = bs + e.base := ⟨_, rfl⟩
            rw [← hV] at H7 GB
            clear hV
            have NB := hide (nB_one (e := e) NT.out)
            go_wp2_with fail
            go_loopw [11, 9] (fun v u wq => ∃ (t : Nat), v = .int .i64 (t : Int) ∧ 1 ≤ t ∧ t ≤ 7 ∧ Sm w wq b sx bx u V Bb (zs ++ nB e (t : Int))) (fun v _ _ => 8 - (intOf v).toNat)
            case atStart => exact ⟨1, rfl, Nat.le_refl _, by omega, by rw [show ((1 : Nat) : Int) = 1 from rfl, NB.out.1, List.append_nil]; exact H7.out⟩
            case round =>
              clear H7
              obtain ⟨t, rfl, ht1, ht7, hM⟩ := hrel
              obtain ⟨ma, mc, rfl, -⟩ := GRow.lies hM.ns
              by_cases ht : t ≤ 6
              · have KW := hide (KN.out (t : Int) (by unfold I64; omega) wr hM.be)
                have NX := hide (nets_before RI.out (t : Int))
                have HQ := hide hM
                obtain ⟨m0, m1, m2, x0, x1, x2, x3, x4, xe⟩ := XC.out _ hM.be
                clear hM
                obtain ⟨q, hq⟩ : ∃ q, q = holdB e.nets (t : Int) := ⟨_, rfl⟩
                obtain ⟨nv, hnv⟩ : ∃ q, q = netV e.nets (t : Int) := ⟨_, rfl⟩
                rw [← hq, ← hnv] at KW NX
                have NX2 := hide (show nB e ((t : Int) + 1) = nB e (t : Int) ++ (if q = true then [nv] else []) from NX.out)
                clear hq hnv NX
                have nl := nB_len (e := e) (t := (t : Int))
                have nl6 := NL.out
                obtain ⟨ys, hys⟩ : ∃ ys, ys = zs ++ nB e (t : Int) := ⟨_, rfl⟩
                have yl : ys.length ≤ 54 := by rw [hys, List.length_append]; omega
                have YS := hide (show zs ++ nB e ((t : Int) + 1) = ys ++ (if q = true then [nv] else []) by rw [NX2.out, ← List.append_assoc, hys])
                rw [← hys] at HQ ⊢
                clear hys nl NX2
                go_upto_region 14 with (go_at_call 18; refine KW.out.mono ?_; rintro r w8 ⟨rfl, hb8⟩)
                have H8 := hide (HQ.out.below hb8)
                clear m0 m1 m2 x0 x1 x2 x3 x4 xe KW hb8 HQ
                cases q with
                | true =>
                  have KF := hide (fun wz => of_any nv wz)
                  go_upto_region 15 with fail
                  go_wp2_with (first | (go_at_call 39; refine (KF.out _).mono ?_; rintro r w9 ⟨rfl, hb9⟩; have H9 := hide (H8.out.below hb9); have b9 := alloc_below w9 (.cells #[.int .i64 (wh nv), .int .i64 (wl nv)] 59); have H10 := hide (H9.out.below b9); have LI := hide (lies_lit w9 #[.int .i64 (wh nv), .int .i64 (wl nv)] 59); have sz := H10.out.lt; clear hb9 b9 H8 H9) | (at_builtin; refine wpList_appR Tryz.underlying88 info59 rfl (by decide) (by decide) rfl (.tmp _) (.tmp _) rfl (bx + 1) _ ys.length _ rfl H10.out.ns (some ⟨w9.heap.size, 0, none⟩) 1 1 [.int .i64 (wh nv), .int .i64 (wl nv)] rfl rfl LI.out (by simp [Value.oneCell']) (by nofun) (by omega) (by omega) ?_; intro v' w11 q1 q2 q3; obtain ⟨av, cv, rfl, -⟩ := GRow.lies q1))
                  have kp := (Keep.refl (fun z => (Value.slice ma ys.length mc).ownBlock = some z) _).grown q2 (fun g hg _ => hg)
                  have off : ∀ z, z ≤ bx → ¬ (Value.slice ma ys.length mc).ownBlock = some z := fun z hz q => by have := (World.ownsRow.lt H10.out.ns z q).1; omega
                  have t1 := H10.out.lo
                  have t2 := H10.out.o1
                  have t3 := H10.out.o2
                  have H11 := hide (show Sm w w11 b sx bx (.slice av (ys.length + 1) cv) V Bb (ys ++ [nv]) from ⟨H10.out.be.trans (kp.below H10.out.be.size (fun z hz q => by have := (World.ownsRow.lt H10.out.ns z q).1; omega)), t1, t2, t3, H10.out.r0.keep kp (off _ (by omega)), H10.out.r1.keep kp (off _ (by omega)), H10.out.r2.keep kp (off _ (by omega)), H10.out.sm.keep kp (off _ (by omega)), H10.out.ba.keep kp (off _ (by omega)), by rw [rows_snoc2, List.length_append]; exact q1⟩)
                  clear q1 q2 q3 kp off t1 t2 t3 H10 LI
                  go_wp2_with fail
                  go_roundw
                  case rel => exact ⟨t + 1, by go_num, by omega, by omega, by rw [show ((t + 1 : Nat) : Int) = (t : Int) + 1 by omega, YS.out]; exact H11.out⟩
                  case measure => simp [intOf]; omega
                | false =>
                  go_wp2_with fail
                  go_roundw
                  case rel => exact ⟨t + 1, by go_num, by omega, by omega, by rw [show ((t + 1 : Nat) : Int) = (t : Int) + 1 by omega, YS.out]; simpa using H8.out⟩
                  case measure => simp [intOf]; omega
              · obtain rfl : t = 7 := by omega
                have H8 := hide hM
                clear hM
                have e7 : zs ++ nB e ((7 : Nat) : Int) = gN g (es.take (i + 1)) := by rw [GN.out]; exact congrArg (zs ++ ·) NB.out.2
                rw [e7] at H8 ⊢
                clear e7
                rw [← GV.out, ← GB.out] at H8
                obtain ⟨zz, hzz⟩ : ∃ z, z = gN g (es.take (i + 1)) := ⟨_, rfl⟩
                rw [← hzz] at H8 ⊢
                have HZZ := hide hzz
                clear hzz GN
                go_wp2_with fail
                go_roundw
                case rel => exact ⟨i + 1, by go_num, by omega, by rw [← HZZ.out]; exact H8.out⟩
                case measure => simp [intOf]; omega
      · have e1 : (grp == g) = false := by simpa using hgr
        rw [if_neg hgr, Int.add_zero] at GV GB
        rw [if_neg hgr, List.append_nil] at GN
        clear hgr
        go_wp2_with fail
        go_roundw
        case rel => exact ⟨i + 1, by go_num, by omega, by rw [GV.out, GB.out, GN.out]; exact HR.out⟩
        case measure => simp [intOf]; omega
    · obtain rfl : i = n := by omega
      have et : es.take i = es := by rw [NE.out, List.take_length]
      rw [et] at HR ⊢
      have bb := gS_in (F := Esc.base) (g := g) (es := es) (fun x hx => (EOK.out x hx).rng.2.2.2)
      have gl := gN_len (g := g) (es := es) (fun x hx => NF.out x hx)
      rw [← NE.out] at gl bb
      have KW := hide (fun a c wz (h : Lies wz a (rowsC wdC (gN g es))) => rWorst_any (gS Esc.base g es) (gN g es) a c wz h (by unfold B7; omega) (gN_in EOK.out) (by omega))
      rw [E2.out, E3.out] at KW
      rw [E1.out] at HR
      obtain ⟨na', nc', e0, nl, -⟩ := GRow.lies HR.out.ns
      cases e0
      have NLI := hide nl
      generalize gS Esc.base g es = bs at *
      generalize gN g es = zs at *
      clear et bb gl hM E1 E2 E3 nl
      obtain ⟨q0, -⟩ := HR.out.ba.get 0 _ rfl
      obtain ⟨q1, -⟩ := HR.out.ba.get 1 _ rfl
      go_upto_region 17 with (go_at_call 56; refine (KW.out _ _ _ NLI.out).mono ?_; rintro r w6 ⟨rfl, hb6⟩)
      have H6 := hide (HR.out.below hb6)
      refine named (P := Code.wp _ _ _ _) ?_
      intro w7 hw7
      clear q0 q1 KW NLI
      obtain ⟨lx, hlx⟩ : ∃ z, z = w6.heap.size := ⟨_, rfl⟩
      have L7 : Cells w7 lx [.int .i64 (wh L), .int .i64 (wl L)] := by rw [hw7, hlx]; exact (Cells.new w6 #[.int .i64 (wh L), .int .i64 (wl L)] 59).below (alloc_below _ _)
      have U7 : Cells w7 (lx + 1) [.int .i64 (wh U), .int .i64 (wl U)] := by
        rw [hw7, hlx]
        have := Cells.new (w6.alloc (.cells #[.int .i64 (wh L), .int .i64 (wl L)] 59)) #[.int .i64 (wh U), .int .i64 (wl U)] 59
        simpa using this
      have b67 : Below w6.heap.size w6 w7 := by rw [hw7]; exact (alloc_below _ _).alloc (by simp) _
      have H7 := hide (H6.out.below b67)
      have o0 := H7.out.lo
      have o1 := H7.out.o1
      have o2 := H7.out.o2
      have o3 : bx < lx := by rw [hlx]; exact H6.out.lt
      rw [← hlx]
      clear hw7 hlx b67 H6 hb6 HR
      have L7' := hide L7
      have U7' := hide U7
      clear L7 U7
      go_upto_region 17 with fail
      refine wp_region_held_drew (S := fun wz => wz.cell? ⟨sx, 0, none⟩ = some (.int .i64 (wh A)) ∧ wz.cell? ⟨sx, 1, none⟩ = some (.int .i64 (wl A)) ∧ wz.cell? ⟨lx, 0, none⟩ = some (.int .i64 (wh L)) ∧ wz.cell? ⟨lx, 1, none⟩ = some (.int .i64 (wl L)) ∧ wz.cell? ⟨lx + 1, 0, none⟩ = some (.int .i64 (wh U)) ∧ wz.cell? ⟨lx + 1, 1, none⟩ = some (.int .i64 (wl U))) (by kernel_rfl) ⟨(H7.out.sm.get 0 _ rfl).1, (H7.out.sm.get 1 _ rfl).1, (L7'.out.get 0 _ rfl).1, (L7'.out.get 1 _ rfl).1, (U7'.out.get 0 _ rfl).1, (U7'.out.get 1 _ rfl).1⟩ (fun hS => ?_)
      have DR := show Below w7.heap.size w7 w7.drew from (Below.refl _ _).drew
      have R0 := hide (H7.out.r0.below DR)
      have R1 := hide (H7.out.r1.below DR)
      have R2 := hide (H7.out.r2.below DR)
      have X0 := hide (H7.out.sm.below DR)
      have X1 := hide (L7'.out.below DR)
      have X2 := hide (U7'.out.below DR)
      have BE := hide H7.out.be.drew
      generalize w7.drew = y0 at *
      clear DR L7' U7' H7
      refine take_at 0 (some 85) (v := ?_) rfl rfl (by kernel_rfl) (by kernel_rfl) (by kernel_rfl) (fun _ _ _ h => h) ⟨by rfl, ?_⟩ hS ?_
      rotate_left
      · intro wz hSw; obtain ⟨s0, s1, s2, s3, s4, s5⟩ := hSw; go_simp; try rfl
      simp only [Act.put, List.setIfInBounds_toArray, List.set_cons_zero, List.set_cons_succ]
      refine take_at 1 (some 86) (v := ?_) rfl rfl (by kernel_rfl) (by kernel_rfl) (by kernel_rfl) (fun _ _ _ h => h) ⟨by rfl, ?_⟩ hS ?_
      rotate_left
      · intro wz hSw; obtain ⟨s0, s1, s2, s3, s4, s5⟩ := hSw; go_simp; try rfl
      simp only [Act.put, List.setIfInBounds_toArray, List.set_cons_zero, List.set_cons_succ]
      refine take_at 2 (some 87) (v := ?_) rfl rfl (by kernel_rfl) (by kernel_rfl) (by kernel_rfl) (fun _ _ _ h => h) ⟨by rfl, ?_⟩ hS ?_
      rotate_left
      · intro wz hSw; obtain ⟨s0, s1, s2, s3, s4, s5⟩ := hSw; go_simp; try rfl
      simp only [Act.put, List.setIfInBounds_toArray, List.set_cons_zero, List.set_cons_succ]
      refine wpAnyH_ready (rs := [3]) (by kernel_rfl) (by simp) ?_
      refine AllReadyH.cons rfl (fun K hK => ?_) AllReadyH.nil
      obtain ⟨q0, t0⟩ := R0.out.get 0 _ rfl
      obtain ⟨q1, t1⟩ := R0.out.get 1 _ rfl
      have K8 := ((Keep.refl (fun i => i = b) y0).setCell (g := b) (j := 0) (fun _ => rfl) (.int .i64 (wh A))).setCell (g := b) (j := 1) (fun _ => rfl) (.int .i64 (wl A))
      have N0 := hide (show Cells _ b [.int .i64 (wh A), .int .i64 (wl A)] by simpa using (R0.out.stored (j := 0) (by simp) (.int .i64 (wh A))).stored (j := 1) (by simp) (.int .i64 (wl A)))
      have M0 := hide (X0.out.keep K8 (by omega))
      have N1 := hide (R1.out.keep K8 (by omega))
      have M1 := hide (X1.out.keep K8 (by omega))
      have N2 := hide (R2.out.keep K8 (by omega))
      have M2 := hide (X2.out.keep K8 (by omega))
      have BN := hide (BE.out.trans (K8.below BE.out.size (fun i hi q => by omega)))
      clear K8 R0 R1 R2 X0 X1 X2 BE hS
      go_simp
      go_wp2_with fail
      refine hK.out _ _ ⟨(M0.out.get 0 _ rfl).1, (M0.out.get 1 _ rfl).1, (M1.out.get 0 _ rfl).1, (M1.out.get 1 _ rfl).1, (M2.out.get 0 _ rfl).1, (M2.out.get 1 _ rfl).1⟩ (fun hS => ?_)
      clear hK K q0 t0 q1 t1
      (try simp only [Act.put, List.setIfInBounds_toArray, List.set_cons_zero, List.set_cons_succ])
      refine named (P := wpAnyH _ _ _ _ _ _ _ _) ?_
      intro x1 hx
      rw [← hx] at N0 N1 N2 M0 M1 M2 BN hS
      clear hx
      have R0 := N0
      have R1 := N1
      have R2 := N2
      have X0 := M0
      have X1 := M1
      have X2 := M2
      have BE := BN
      clear N0 N1 N2 M0 M1 M2 BN
      refine wpAnyH_ready (rs := [4]) (by kernel_rfl) (by simp) ?_
      refine AllReadyH.cons rfl (fun K hK => ?_) AllReadyH.nil
      obtain ⟨q0, t0⟩ := R1.out.get 0 _ rfl
      obtain ⟨q1, t1⟩ := R1.out.get 1 _ rfl
      have K8 := ((Keep.refl (fun i => i = (b + 1)) x1).setCell (g := (b + 1)) (j := 0) (fun _ => rfl) (.int .i64 (wh L))).setCell (g := (b + 1)) (j := 1) (fun _ => rfl) (.int .i64 (wl L))
      have N1 := hide (show Cells _ (b + 1) [.int .i64 (wh L), .int .i64 (wl L)] by simpa using (R1.out.stored (j := 0) (by simp) (.int .i64 (wh L))).stored (j := 1) (by simp) (.int .i64 (wl L)))
      have N0 := hide (R0.out.keep K8 (by omega))
      have M0 := hide (X0.out.keep K8 (by omega))
      have M1 := hide (X1.out.keep K8 (by omega))
      have N2 := hide (R2.out.keep K8 (by omega))
      have M2 := hide (X2.out.keep K8 (by omega))
      have BN := hide (BE.out.trans (K8.below BE.out.size (fun i hi q => by omega)))
      clear K8 R0 R1 R2 X0 X1 X2 BE hS
      go_simp
      go_wp2_with fail
      refine hK.out _ _ ⟨(M0.out.get 0 _ rfl).1, (M0.out.get 1 _ rfl).1, (M1.out.get 0 _ rfl).1, (M1.out.get 1 _ rfl).1, (M2.out.get 0 _ rfl).1, (M2.out.get 1 _ rfl).1⟩ (fun hS => ?_)
      clear hK K q0 t0 q1 t1
      (try simp only [Act.put, List.setIfInBounds_toArray, List.set_cons_zero, List.set_cons_succ])
      refine named (P := wpAnyH _ _ _ _ _ _ _ _) ?_
      intro x2 hx
      rw [← hx] at N0 N1 N2 M0 M1 M2 BN hS
      clear hx
      have R0 := N0
      have R1 := N1
      have R2 := N2
      have X0 := M0
      have X1 := M1
      have X2 := M2
      have BE := BN
      clear N0 N1 N2 M0 M1 M2 BN
      refine wpAnyH_ready (rs := [5]) (by kernel_rfl) (by simp) ?_
      refine AllReadyH.cons rfl (fun K hK => ?_) AllReadyH.nil
      obtain ⟨q0, t0⟩ := R2.out.get 0 _ rfl
      obtain ⟨q1, t1⟩ := R2.out.get 1 _ rfl
      have K8 := ((Keep.refl (fun i => i = (b + 2)) x2).setCell (g := (b + 2)) (j := 0) (fun _ => rfl) (.int .i64 (wh U))).setCell (g := (b + 2)) (j := 1) (fun _ => rfl) (.int .i64 (wl U))
      have N2 := hide (show Cells _ (b + 2) [.int .i64 (wh U), .int .i64 (wl U)] by simpa using (R2.out.stored (j := 0) (by simp) (.int .i64 (wh U))).stored (j := 1) (by simp) (.int .i64 (wl U)))
      have N0 := hide (R0.out.keep K8 (by omega))
      have M0 := hide (X0.out.keep K8 (by omega))
      have N1 := hide (R1.out.keep K8 (by omega))
      have M1 := hide (X1.out.keep K8 (by omega))
      have M2 := hide (X2.out.keep K8 (by omega))
      have BN := hide (BE.out.trans (K8.below BE.out.size (fun i hi q => by omega)))
      clear K8 R0 R1 R2 X0 X1 X2 BE hS
      go_simp
      go_wp2_with fail
      refine hK.out _ _ ⟨(M0.out.get 0 _ rfl).1, (M0.out.get 1 _ rfl).1, (M1.out.get 0 _ rfl).1, (M1.out.get 1 _ rfl).1, (M2.out.get 0 _ rfl).1, (M2.out.get 1 _ rfl).1⟩ (fun hS => ?_)
      clear hK K q0 t0 q1 t1
      (try simp only [Act.put, List.setIfInBounds_toArray, List.set_cons_zero, List.set_cons_succ])
      refine named (P := wpAnyH _ _ _ _ _ _ _ _) ?_
      intro x3 hx
      rw [← hx] at N0 N1 N2 M0 M1 M2 BN hS
      clear hx
      have R0 := N0
      have R1 := N1
      have R2 := N2
      have X0 := M0
      have X1 := M1
      have X2 := M2
      have BE := BN
      clear N0 N1 N2 M0 M1 M2 BN
      refine wpAnyH_done (by kernel_rfl) ?_ _
      clear hS
      obtain ⟨p0, -⟩ := R0.out.get 0 _ rfl
      obtain ⟨p1, -⟩ := R0.out.get 1 _ rfl
      obtain ⟨p2, -⟩ := R1.out.get 0 _ rfl
      obtain ⟨p3, -⟩ := R1.out.get 1 _ rfl
      obtain ⟨p4, -⟩ := R2.out.get 0 _ rfl
      obtain ⟨p5, -⟩ := R2.out.get 1 _ rfl
      go_wp2_with fail
      refine bodyPost_ret (v := .tuple #[wd A, wd L, wd U]) (by simp [results, Tryz.results20, go_sem, p0, p1, p2, p3, p4, p5]) rfl ⟨rfl, BE.out⟩
theorem sumOf_any {T : Nat → Prop} {w : World} {sb : Nat} {es : List SE} {H : Helds} (h : Sto T w sb es H) (g : Int) : Calls Tryz.prog 20 #[ptr sb, .int .i64 g] w fun r w' => r = .returned (.tuple #[wd (sumG (ctrsOf es) g), wd (lowG (ctrsOf es) g), wd (highG (ctrsOf es) g)]) ∧ Below w.heap.size w w' := by
  obtain ⟨ok, lab, lb, vc, ve, hst⟩ := h
  obtain ⟨S0, hl⟩ := hst.lg
  exact sumOf_st hst ok (fun x hx => hl.ok.1.all _ (List.mem_map_of_mem hx)) g
end Go.Proofs.YtaohdmaenplbpaaGreat
