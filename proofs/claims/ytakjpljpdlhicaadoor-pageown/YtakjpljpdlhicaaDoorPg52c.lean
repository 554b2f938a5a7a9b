import Derived.Test.YtakjpljpdlhicaaDoorPg52a
set_option linter.all false
namespace Go.Proofs.YtakjpljpdlhicaaDoor
open Go.RowKit Go.QK Go.Pg
set_option maxRecDepth 100000
set_option maxHeartbeats 64000000 in
theorem mark_l2 : markT.T2 := by
  intro w0 w B L bs ws ps qs gB cB gW cW gP cP aR cR eW HX HL1 HL2 nb nb0 m1 np np0 m2 HNB HNP nr ST0 zz3 w2 M eB eP eR u5 u15 u16 u17 u18 u19 u20 u21 u22 u23 u24 u25 u26 u27 u28 u29 u30 u31 u32 u33 u34 u35 u36 u37 u38 u39 u40 u41 u42 u43 u44 u45 u46 u47 u48 u49 u50 u51 u52 u53 u54 u55 u56 u57 u58 u59 u60 u61 u62 u63 u64 u65 u66 u67 u68 u69 u70 u71 u72 u73 u74 u75 u76 u77 u78 u79 u80 u81 u82 u83 u84 u85 u86 u87 u88 u89 u90 u91 u92 u93 u94 u95 u96 u97 T zB zW aM cM aV cV u7 u8 u9 u98 u99 u100 u101 u102 u103 u104 u105 u106 u107 u108 u109 u110 u111 u112 u113 u114 u115 u116 u117 u118 u119 u120 u121 u122 u123 u124 u125 u126 u127 u128 u129 u130 u131 u132 u133 u134 u135 u136 u137 u138 u139 u140 u141 u142 u143 wx zz18 wr u11 u12 u144 u145 u146 u147 u148 u149 u150 u151 u152 u153 u154 u155 u156 u157 u158 u159 u160 u161 u162 u163 u164 u165 u166 u167 u168 u169 u170 u171 u172 u173 u174 u175 u176 u177 u178 u179 u180 u181 u182 u183 u184 i lab I U hi SAH hlt d1 d2 hip pn pl pc pg ta tc tb td RP n m CI GI HPS HN HM hn3 hm3 zM aQ cQ HP SPH I23 FM zz20 zz21 w3 P lab1 H1 HTC HTG U1 HTG1 HU1 zz25 zz26 zz27 zz28 u0 hS HA0 e7 e8 K hK
  have hq := HA0.out.box (w' := u0.alloc (.cells #[.int .i64 (-(i : Int)), .int .i64 0] 59)) [.int .i64 (-(i : Int)), .int .i64 0] u0.heap.size (alloc_below _ _) (Nat.le_refl _) (Cells.new u0 #[.int .i64 (-(i : Int)), .int .i64 0] 59)
  refine wp_b25 (x := .tmp 175) rfl rfl ?_
  refine hK.out _ _ (show _ ∧ _ ∧ _ ∧ _ from ⟨((hq.xs (P, [.int .i64 pn, .int .i64 pl, .slice ta n tc, .slice tb m td]) (by simp)).cells.get 0 _ rfl).1, ((hq.xs (P, [.int .i64 pn, .int .i64 pl, .slice ta n tc, .slice tb m td]) (by simp)).cells.get 1 _ rfl).1, ((hq.xs (P, [.int .i64 pn, .int .i64 pl, .slice ta n tc, .slice tb m td]) (by simp)).cells.get 2 _ rfl).1, ((hq.xs (P, [.int .i64 pn, .int .i64 pl, .slice ta n tc, .slice tb m td]) (by simp)).cells.get 3 _ rfl).1⟩) (fun hS => ?_)
  clear hK K
  (try simp only [Act.put, List.setIfInBounds_toArray, List.set_cons_zero, List.set_cons_succ])
  obtain ⟨u1, hu⟩ : ∃ z : World, z = u0.alloc (.cells #[.int .i64 (-(i : Int)), .int .i64 0] 59) := ⟨_, rfl⟩
  rw [← hu] at hq hS ⊢
  clear hu
  obtain ⟨b16, hb⟩ : ∃ z, z = u0.heap.size := ⟨_, rfl⟩
  rw [← hb] at hq ⊢
  have Hb16 := hide (show B ≤ b16 by have := HA0.out.bs; omega)
  clear hb
  have HA1 := hide hq
  clear hq
  refine wpAnyH_ready (rs := [9, 19]) (by kernel_rfl) (by simp) ?_
  refine AllReadyH.cons rfl (fun K hK => ?_) (AllReadyH.cons rfl (fun K hK => ?_) AllReadyH.nil)
  · have hq := HA1.out.box (w' := u1.alloc (.cells #[.int .i64 (-(i : Int)), .int .i64 0, .int .i64 0, .int .i64 0, .int .i64 0] 57)) [.int .i64 (-(i : Int)), .int .i64 0, .int .i64 0, .int .i64 0, .int .i64 0] u1.heap.size (alloc_below _ _) (Nat.le_refl _) (Cells.new u1 #[.int .i64 (-(i : Int)), .int .i64 0, .int .i64 0, .int .i64 0, .int .i64 0] 57)
    refine wp_b24 (x := .tmp 168) rfl rfl ?_
    refine hK.out _ _ (show _ ∧ _ ∧ _ ∧ _ from ⟨((hq.xs (P, [.int .i64 pn, .int .i64 pl, .slice ta n tc, .slice tb m td]) (by simp)).cells.get 0 _ rfl).1, ((hq.xs (P, [.int .i64 pn, .int .i64 pl, .slice ta n tc, .slice tb m td]) (by simp)).cells.get 1 _ rfl).1, ((hq.xs (P, [.int .i64 pn, .int .i64 pl, .slice ta n tc, .slice tb m td]) (by simp)).cells.get 2 _ rfl).1, ((hq.xs (P, [.int .i64 pn, .int .i64 pl, .slice ta n tc, .slice tb m td]) (by simp)).cells.get 3 _ rfl).1⟩) (fun hS => ?_)
    clear hK K
    (try simp only [Act.put, List.setIfInBounds_toArray, List.set_cons_zero, List.set_cons_succ])
    obtain ⟨u2, hu⟩ : ∃ z : World, z = u1.alloc (.cells #[.int .i64 (-(i : Int)), .int .i64 0, .int .i64 0, .int .i64 0, .int .i64 0] 57) := ⟨_, rfl⟩
    rw [← hu] at hq hS ⊢
    clear hu
    obtain ⟨b9, hb⟩ : ∃ z, z = u1.heap.size := ⟨_, rfl⟩
    rw [← hb] at hq ⊢
    have Hb9 := hide (show B ≤ b9 by have := HA1.out.bs; omega)
    clear hb
    have HA2 := hide hq
    clear hq
    refine wpAnyH_ready (rs := [10, 19]) (by kernel_rfl) (by simp) ?_
    refine AllReadyH.cons rfl (fun K hK => ?_) (AllReadyH.cons rfl (fun K hK => ?_) AllReadyH.nil)
    · obtain ⟨vv, x2, r1, ⟨a1, c1, e1⟩, -, -, hh⟩ := HA2.out.push (t0 := 24) Tryd.underlying24 info57 rfl (by decide) (by decide) 24 (key := 200 + 2 * i) (by omega) HTC.out CI.out ⟨b9, 0, none⟩ 1 1 [.int .i64 (-(i : Int)), .int .i64 0, .int .i64 0, .int .i64 0, .int .i64 0] rfl (cells_lies ((HA2.out.xs (b9, [.int .i64 (-(i : Int)), .int .i64 0, .int .i64 0, .int .i64 0, .int .i64 0]) (by simp)).cells)) (by simp [Value.oneCell']) (by omega)
      subst e1
      have hq := hh _ _ rfl; rw [← HU1.out] at hq
      have r2 := hide r1
      clear hh r1
      refine wp_run 170 (.tmp 165) (.tmp 169) rfl rfl rfl rfl rfl r2.out ?_
      refine hK.out _ _ (show _ ∧ _ ∧ _ ∧ _ from ⟨((hq.xs (P, [.int .i64 pn, .int .i64 pl, .slice ta n tc, .slice tb m td]) (by simp)).cells.get 0 _ rfl).1, ((hq.xs (P, [.int .i64 pn, .int .i64 pl, .slice ta n tc, .slice tb m td]) (by simp)).cells.get 1 _ rfl).1, ((hq.xs (P, [.int .i64 pn, .int .i64 pl, .slice ta n tc, .slice tb m td]) (by simp)).cells.get 2 _ rfl).1, ((hq.xs (P, [.int .i64 pn, .int .i64 pl, .slice ta n tc, .slice tb m td]) (by simp)).cells.get 3 _ rfl).1⟩) (fun hS => ?_)
      clear hK K
      (try simp only [Act.put, List.setIfInBounds_toArray, List.set_cons_zero, List.set_cons_succ])
      obtain ⟨u3, hu⟩ : ∃ z : World, z = x2 := ⟨_, rfl⟩
      rw [← hu] at hq hS ⊢
      clear hu r2
      have HA3 := hide hq
      clear hq
      refine wpAnyH_ready (rs := [17, 19]) (by kernel_rfl) (by simp) ?_
      refine AllReadyH.cons rfl (fun K hK => ?_) (AllReadyH.cons rfl (fun K hK => ?_) AllReadyH.nil)
      · obtain ⟨vv, x3, r1, ⟨a2, c2, e1⟩, -, -, hh⟩ := HA3.out.push (t0 := 25) Tryd.underlying25 info59 rfl (by decide) (by decide) 25 (key := 201 + 2 * i) (by omega) HTG1.out (by rw [put_other _ _ (by omega)]; exact GI.out) ⟨b16, 0, none⟩ 1 1 [.int .i64 (-(i : Int)), .int .i64 0] rfl (cells_lies ((HA3.out.xs (b16, [.int .i64 (-(i : Int)), .int .i64 0]) (by simp)).cells)) (by simp [Value.oneCell']) (by omega)
        subst e1
        have hq := hh _ _ rfl
        have r2 := hide r1
        clear hh r1
        refine wp_run 177 (.tmp 172) (.tmp 176) rfl rfl rfl rfl rfl r2.out ?_
        refine hK.out _ _ (show _ ∧ _ ∧ _ ∧ _ from ⟨((hq.xs (P, [.int .i64 pn, .int .i64 pl, .slice ta n tc, .slice tb m td]) (by simp)).cells.get 0 _ rfl).1, ((hq.xs (P, [.int .i64 pn, .int .i64 pl, .slice ta n tc, .slice tb m td]) (by simp)).cells.get 1 _ rfl).1, ((hq.xs (P, [.int .i64 pn, .int .i64 pl, .slice ta n tc, .slice tb m td]) (by simp)).cells.get 2 _ rfl).1, ((hq.xs (P, [.int .i64 pn, .int .i64 pl, .slice ta n tc, .slice tb m td]) (by simp)).cells.get 3 _ rfl).1⟩) (fun hS => ?_)
        clear hK K
        (try simp only [Act.put, List.setIfInBounds_toArray, List.set_cons_zero, List.set_cons_succ])
        obtain ⟨u4, hu⟩ : ∃ z : World, z = x3 := ⟨_, rfl⟩
        rw [← hu] at hq hS ⊢
        clear hu r2
        have HA4 := hide hq
        clear hq
        refine take_at 18 (some 178) (v := .agg #[.int .i64 pn, .int .i64 pl, .slice a1 (n + 1) c1, .slice a2 (m + 1) c2]) rfl rfl (by kernel_rfl) (by kernel_rfl) (by kernel_rfl) (fun _ _ _ h => h) ⟨by rfl, fun wq hSw => exec_build27 rfl rfl rfl rfl rfl⟩ hS ?_
        (try simp only [Act.put, List.setIfInBounds_toArray, List.set_cons_zero, List.set_cons_succ])
        refine wpAnyH_ready (rs := [19]) (by kernel_rfl) (by simp) ?_
        refine AllReadyH.cons rfl (fun K hK => ?_) AllReadyH.nil
        have hq := HA4.out.box (w' := u4.alloc (.cells #[.int .i64 0, .int .i64 0, .slice none 0 0, .slice none 0 0] 27)) [.int .i64 0, .int .i64 0, .slice none 0 0, .slice none 0 0] u4.heap.size (alloc_below _ _) (Nat.le_refl _) (Cells.new u4 #[.int .i64 0, .int .i64 0, .slice none 0 0, .slice none 0 0] 27)
        go_simp
        (try go_wp2_with fail)
        refine hK.out _ _ (show _ ∧ _ ∧ _ ∧ _ from ⟨((hq.xs (P, [.int .i64 pn, .int .i64 pl, .slice ta n tc, .slice tb m td]) (by simp)).cells.get 0 _ rfl).1, ((hq.xs (P, [.int .i64 pn, .int .i64 pl, .slice ta n tc, .slice tb m td]) (by simp)).cells.get 1 _ rfl).1, ((hq.xs (P, [.int .i64 pn, .int .i64 pl, .slice ta n tc, .slice tb m td]) (by simp)).cells.get 2 _ rfl).1, ((hq.xs (P, [.int .i64 pn, .int .i64 pl, .slice ta n tc, .slice tb m td]) (by simp)).cells.get 3 _ rfl).1⟩) (fun hS => ?_)
        clear hK K
        (try simp only [Act.put, List.setIfInBounds_toArray, List.set_cons_zero, List.set_cons_succ])
        obtain ⟨u5, hu⟩ : ∃ z : World, z = u4.alloc (.cells #[.int .i64 0, .int .i64 0, .slice none 0 0, .slice none 0 0] 27) := ⟨_, rfl⟩
        rw [← hu] at hq hS ⊢
        clear hu
        obtain ⟨R, hb⟩ : ∃ z, z = u4.heap.size := ⟨_, rfl⟩
        rw [← hb] at hq ⊢
        have HR := hide (show B ≤ R by have := HA4.out.bs; omega)
        have HNE := hide (show P ≠ R by have := (HA4.out.xs (P, [.int .i64 pn, .int .i64 pl, .slice ta n tc, .slice tb m td]) (by simp)).cells.1; omega)
        clear hb
        have HA5 := hide hq
        clear hq
        refine wpAnyH_ready (rs := [20]) (by kernel_rfl) (by simp) ?_
        refine AllReadyH.cons rfl (fun K hK => ?_) AllReadyH.nil
        have xc := (HA5.out.xs (R, [.int .i64 0, .int .i64 0, .slice none 0 0, .slice none 0 0]) (by simp)).cells
        obtain ⟨y0, z0⟩ := xc.get 0 _ rfl
        obtain ⟨y1, z1⟩ := xc.get 1 _ rfl
        obtain ⟨y2, z2⟩ := xc.get 2 _ rfl
        obtain ⟨y3, z3⟩ := xc.get 3 _ rfl
        have g0 := HA5.out.xset (R := R) (cs := [.int .i64 0, .int .i64 0, .slice none 0 0, .slice none 0 0]) (by simp) (j := 0) (by simp) (.int .i64 pn) HR.out
        have g1 := g0.xset (R := R) (List.mem_singleton.2 rfl) (j := 1) (by simp) (.int .i64 pl) HR.out
        have g2 := g1.xset (R := R) (List.mem_singleton.2 rfl) (j := 2) (by simp) (.slice a1 (n + 1) c1) HR.out
        have g3 := g2.xset (R := R) (List.mem_singleton.2 rfl) (j := 3) (by simp) (.slice a2 (m + 1) c2) HR.out
        have sP4 := (show _ ∧ _ ∧ _ ∧ _ from ⟨((HA5.out.xs (P, [.int .i64 pn, .int .i64 pl, .slice ta n tc, .slice tb m td]) (by simp)).cells.get 0 _ rfl).1, ((HA5.out.xs (P, [.int .i64 pn, .int .i64 pl, .slice ta n tc, .slice tb m td]) (by simp)).cells.get 1 _ rfl).1, ((HA5.out.xs (P, [.int .i64 pn, .int .i64 pl, .slice ta n tc, .slice tb m td]) (by simp)).cells.get 2 _ rfl).1, ((HA5.out.xs (P, [.int .i64 pn, .int .i64 pl, .slice ta n tc, .slice tb m td]) (by simp)).cells.get 3 _ rfl).1⟩)
        simp only [List.set_cons_succ, List.set_cons_zero] at g3
        have G3 := hide g3
        clear g0 g1 g2 g3 xc
        go_simp
        go_wp2_with fail
        refine hK.out _ _ (p4_keep HNE.out sP4) (fun hS => ?_)
        clear hK K
        (try simp only [Act.put, List.setIfInBounds_toArray, List.set_cons_zero, List.set_cons_succ])
        refine wpAnyH_done (by kernel_rfl) ?_ _
        go_wp2_with fail
        go_meet
        exact ⟨R, a1, c1, a2, c2, _, rfl, G3.out⟩
      · have hq := HA3.out.box (w' := u3.alloc (.cells #[.int .i64 0, .int .i64 0, .slice none 0 0, .slice none 0 0] 27)) [.int .i64 0, .int .i64 0, .slice none 0 0, .slice none 0 0] u3.heap.size (alloc_below _ _) (Nat.le_refl _) (Cells.new u3 #[.int .i64 0, .int .i64 0, .slice none 0 0, .slice none 0 0] 27)
        go_simp
        (try go_wp2_with fail)
        refine hK.out _ _ (show _ ∧ _ ∧ _ ∧ _ from ⟨((hq.xs (P, [.int .i64 pn, .int .i64 pl, .slice ta n tc, .slice tb m td]) (by simp)).cells.get 0 _ rfl).1, ((hq.xs (P, [.int .i64 pn, .int .i64 pl, .slice ta n tc, .slice tb m td]) (by simp)).cells.get 1 _ rfl).1, ((hq.xs (P, [.int .i64 pn, .int .i64 pl, .slice ta n tc, .slice tb m td]) (by simp)).cells.get 2 _ rfl).1, ((hq.xs (P, [.int .i64 pn, .int .i64 pl, .slice ta n tc, .slice tb m td]) (by simp)).cells.get 3 _ rfl).1⟩) (fun hS => ?_)
        clear hK K
        (try simp only [Act.put, List.setIfInBounds_toArray, List.set_cons_zero, List.set_cons_succ])
        obtain ⟨u4, hu⟩ : ∃ z : World, z = u3.alloc (.cells #[.int .i64 0, .int .i64 0, .slice none 0 0, .slice none 0 0] 27) := ⟨_, rfl⟩
        rw [← hu] at hq hS ⊢
        clear hu
        obtain ⟨R, hb⟩ : ∃ z, z = u3.heap.size := ⟨_, rfl⟩
        rw [← hb] at hq ⊢
        have HR := hide (show B ≤ R by have := HA3.out.bs; omega)
        have HNE := hide (show P ≠ R by have := (HA3.out.xs (P, [.int .i64 pn, .int .i64 pl, .slice ta n tc, .slice tb m td]) (by simp)).cells.1; omega)
        clear hb
        have HA4 := hide hq
        clear hq
        refine wpAnyH_ready (rs := [17]) (by kernel_rfl) (by simp) ?_
        refine AllReadyH.cons rfl (fun K hK => ?_) AllReadyH.nil
        obtain ⟨vv, x4, r1, ⟨a2, c2, e1⟩, -, -, hh⟩ := HA4.out.push (t0 := 25) Tryd.underlying25 info59 rfl (by decide) (by decide) 25 (key := 201 + 2 * i) (by omega) HTG1.out (by rw [put_other _ _ (by omega)]; exact GI.out) ⟨b16, 0, none⟩ 1 1 [.int .i64 (-(i : Int)), .int .i64 0] rfl (cells_lies ((HA4.out.xs (b16, [.int .i64 (-(i : Int)), .int .i64 0]) (by simp)).cells)) (by simp [Value.oneCell']) (by omega)
        subst e1
        have hq := hh _ _ rfl
        have r2 := hide r1
        clear hh r1
        refine wp_run 177 (.tmp 172) (.tmp 176) rfl rfl rfl rfl rfl r2.out ?_
        refine hK.out _ _ (show _ ∧ _ ∧ _ ∧ _ from ⟨((hq.xs (P, [.int .i64 pn, .int .i64 pl, .slice ta n tc, .slice tb m td]) (by simp)).cells.get 0 _ rfl).1, ((hq.xs (P, [.int .i64 pn, .int .i64 pl, .slice ta n tc, .slice tb m td]) (by simp)).cells.get 1 _ rfl).1, ((hq.xs (P, [.int .i64 pn, .int .i64 pl, .slice ta n tc, .slice tb m td]) (by simp)).cells.get 2 _ rfl).1, ((hq.xs (P, [.int .i64 pn, .int .i64 pl, .slice ta n tc, .slice tb m td]) (by simp)).cells.get 3 _ rfl).1⟩) (fun hS => ?_)
        clear hK K
        (try simp only [Act.put, List.setIfInBounds_toArray, List.set_cons_zero, List.set_cons_succ])
        obtain ⟨u5, hu⟩ : ∃ z : World, z = x4 := ⟨_, rfl⟩
        rw [← hu] at hq hS ⊢
        clear hu r2
        have HA5 := hide hq
        clear hq
        refine take_at 18 (some 178) (v := .agg #[.int .i64 pn, .int .i64 pl, .slice a1 (n + 1) c1, .slice a2 (m + 1) c2]) rfl rfl (by kernel_rfl) (by kernel_rfl) (by kernel_rfl) (fun _ _ _ h => h) ⟨by rfl, fun wq hSw => exec_build27 rfl rfl rfl rfl rfl⟩ hS ?_
        (try simp only [Act.put, List.setIfInBounds_toArray, List.set_cons_zero, List.set_cons_succ])
        refine wpAnyH_ready (rs := [20]) (by kernel_rfl) (by simp) ?_
        refine AllReadyH.cons rfl (fun K hK => ?_) AllReadyH.nil
        have xc := (HA5.out.xs (R, [.int .i64 0, .int .i64 0, .slice none 0 0, .slice none 0 0]) (by simp)).cells
        obtain ⟨y0, z0⟩ := xc.get 0 _ rfl
        obtain ⟨y1, z1⟩ := xc.get 1 _ rfl
        obtain ⟨y2, z2⟩ := xc.get 2 _ rfl
        obtain ⟨y3, z3⟩ := xc.get 3 _ rfl
        have g0 := HA5.out.xset (R := R) (cs := [.int .i64 0, .int .i64 0, .slice none 0 0, .slice none 0 0]) (by simp) (j := 0) (by simp) (.int .i64 pn) HR.out
        have g1 := g0.xset (R := R) (List.mem_singleton.2 rfl) (j := 1) (by simp) (.int .i64 pl) HR.out
        have g2 := g1.xset (R := R) (List.mem_singleton.2 rfl) (j := 2) (by simp) (.slice a1 (n + 1) c1) HR.out
        have g3 := g2.xset (R := R) (List.mem_singleton.2 rfl) (j := 3) (by simp) (.slice a2 (m + 1) c2) HR.out
        have sP4 := (show _ ∧ _ ∧ _ ∧ _ from ⟨((HA5.out.xs (P, [.int .i64 pn, .int .i64 pl, .slice ta n tc, .slice tb m td]) (by simp)).cells.get 0 _ rfl).1, ((HA5.out.xs (P, [.int .i64 pn, .int .i64 pl, .slice ta n tc, .slice tb m td]) (by simp)).cells.get 1 _ rfl).1, ((HA5.out.xs (P, [.int .i64 pn, .int .i64 pl, .slice ta n tc, .slice tb m td]) (by simp)).cells.get 2 _ rfl).1, ((HA5.out.xs (P, [.int .i64 pn, .int .i64 pl, .slice ta n tc, .slice tb m td]) (by simp)).cells.get 3 _ rfl).1⟩)
        simp only [List.set_cons_succ, List.set_cons_zero] at g3
        have G3 := hide g3
        clear g0 g1 g2 g3 xc
        go_simp
        go_wp2_with fail
        refine hK.out _ _ (p4_keep HNE.out sP4) (fun hS => ?_)
        clear hK K
        (try simp only [Act.put, List.setIfInBounds_toArray, List.set_cons_zero, List.set_cons_succ])
        refine wpAnyH_done (by kernel_rfl) ?_ _
        go_wp2_with fail
        go_meet
        exact ⟨R, a1, c1, a2, c2, _, rfl, G3.out⟩
    · have hq := HA2.out.box (w' := u2.alloc (.cells #[.int .i64 0, .int .i64 0, .slice none 0 0, .slice none 0 0] 27)) [.int .i64 0, .int .i64 0, .slice none 0 0, .slice none 0 0] u2.heap.size (alloc_below _ _) (Nat.le_refl _) (Cells.new u2 #[.int .i64 0, .int .i64 0, .slice none 0 0, .slice none 0 0] 27)
      go_simp
      (try go_wp2_with fail)
      refine hK.out _ _ (show _ ∧ _ ∧ _ ∧ _ from ⟨((hq.xs (P, [.int .i64 pn, .int .i64 pl, .slice ta n tc, .slice tb m td]) (by simp)).cells.get 0 _ rfl).1, ((hq.xs (P, [.int .i64 pn, .int .i64 pl, .slice ta n tc, .slice tb m td]) (by simp)).cells.get 1 _ rfl).1, ((hq.xs (P, [.int .i64 pn, .int .i64 pl, .slice ta n tc, .slice tb m td]) (by simp)).cells.get 2 _ rfl).1, ((hq.xs (P, [.int .i64 pn, .int .i64 pl, .slice ta n tc, .slice tb m td]) (by simp)).cells.get 3 _ rfl).1⟩) (fun hS => ?_)
      clear hK K
      (try simp only [Act.put, List.setIfInBounds_toArray, List.set_cons_zero, List.set_cons_succ])
      obtain ⟨u3, hu⟩ : ∃ z : World, z = u2.alloc (.cells #[.int .i64 0, .int .i64 0, .slice none 0 0, .slice none 0 0] 27) := ⟨_, rfl⟩
      rw [← hu] at hq hS ⊢
      clear hu
      obtain ⟨R, hb⟩ : ∃ z, z = u2.heap.size := ⟨_, rfl⟩
      rw [← hb] at hq ⊢
      have HR := hide (show B ≤ R by have := HA2.out.bs; omega)
      have HNE := hide (show P ≠ R by have := (HA2.out.xs (P, [.int .i64 pn, .int .i64 pl, .slice ta n tc, .slice tb m td]) (by simp)).cells.1; omega)
      clear hb
      have HA3 := hide hq
      clear hq
      refine wpAnyH_ready (rs := [10]) (by kernel_rfl) (by simp) ?_
      refine AllReadyH.cons rfl (fun K hK => ?_) AllReadyH.nil
      obtain ⟨vv, x3, r1, ⟨a1, c1, e1⟩, -, -, hh⟩ := HA3.out.push (t0 := 24) Tryd.underlying24 info57 rfl (by decide) (by decide) 24 (key := 200 + 2 * i) (by omega) HTC.out CI.out ⟨b9, 0, none⟩ 1 1 [.int .i64 (-(i : Int)), .int .i64 0, .int .i64 0, .int .i64 0, .int .i64 0] rfl (cells_lies ((HA3.out.xs (b9, [.int .i64 (-(i : Int)), .int .i64 0, .int .i64 0, .int .i64 0, .int .i64 0]) (by simp)).cells)) (by simp [Value.oneCell']) (by omega)
      subst e1
      have hq := hh _ _ rfl; rw [← HU1.out] at hq
      have r2 := hide r1
      clear hh r1
      refine wp_run 170 (.tmp 165) (.tmp 169) rfl rfl rfl rfl rfl r2.out ?_
      refine hK.out _ _ (show _ ∧ _ ∧ _ ∧ _ from ⟨((hq.xs (P, [.int .i64 pn, .int .i64 pl, .slice ta n tc, .slice tb m td]) (by simp)).cells.get 0 _ rfl).1, ((hq.xs (P, [.int .i64 pn, .int .i64 pl, .slice ta n tc, .slice tb m td]) (by simp)).cells.get 1 _ rfl).1, ((hq.xs (P, [.int .i64 pn, .int .i64 pl, .slice ta n tc, .slice tb m td]) (by simp)).cells.get 2 _ rfl).1, ((hq.xs (P, [.int .i64 pn, .int .i64 pl, .slice ta n tc, .slice tb m td]) (by simp)).cells.get 3 _ rfl).1⟩) (fun hS => ?_)
      clear hK K
      (try simp only [Act.put, List.setIfInBounds_toArray, List.set_cons_zero, List.set_cons_succ])
      obtain ⟨u4, hu⟩ : ∃ z : World, z = x3 := ⟨_, rfl⟩
      rw [← hu] at hq hS ⊢
      clear hu r2
      have HA4 := hide hq
      clear hq
      refine wpAnyH_ready (rs := [17]) (by kernel_rfl) (by simp) ?_
      refine AllReadyH.cons rfl (fun K hK => ?_) AllReadyH.nil
      obtain ⟨vv, x4, r1, ⟨a2, c2, e1⟩, -, -, hh⟩ := HA4.out.push (t0 := 25) Tryd.underlying25 info59 rfl (by decide) (by decide) 25 (key := 201 + 2 * i) (by omega) HTG1.out (by rw [put_other _ _ (by omega)]; exact GI.out) ⟨b16, 0, none⟩ 1 1 [.int .i64 (-(i : Int)), .int .i64 0] rfl (cells_lies ((HA4.out.xs (b16, [.int .i64 (-(i : Int)), .int .i64 0]) (by simp)).cells)) (by simp [Value.oneCell']) (by omega)
      subst e1
      have hq := hh _ _ rfl
      have r2 := hide r1
      clear hh r1
      refine wp_run 177 (.tmp 172) (.tmp 176) rfl rfl rfl rfl rfl r2.out ?_
      refine hK.out _ _ (show _ ∧ _ ∧ _ ∧ _ from ⟨((hq.xs (P, [.int .i64 pn, .int .i64 pl, .slice ta n tc, .slice tb m td]) (by simp)).cells.get 0 _ rfl).1, ((hq.xs (P, [.int .i64 pn, .int .i64 pl, .slice ta n tc, .slice tb m td]) (by simp)).cells.get 1 _ rfl).1, ((hq.xs (P, [.int .i64 pn, .int .i64 pl, .slice ta n tc, .slice tb m td]) (by simp)).cells.get 2 _ rfl).1, ((hq.xs (P, [.int .i64 pn, .int .i64 pl, .slice ta n tc, .slice tb m td]) (by simp)).cells.get 3 _ rfl).1⟩) (fun hS => ?_)
      clear hK K
      (try simp only [Act.put, List.setIfInBounds_toArray, List.set_cons_zero, List.set_cons_succ])
      obtain ⟨u5, hu⟩ : ∃ z : World, z = x4 := ⟨_, rfl⟩
      rw [← hu] at hq hS ⊢
      clear hu r2
      have HA5 := hide hq
      clear hq
      refine take_at 18 (some 178) (v := .agg #[.int .i64 pn, .int .i64 pl, .slice a1 (n + 1) c1, .slice a2 (m + 1) c2]) rfl rfl (by kernel_rfl) (by kernel_rfl) (by kernel_rfl) (fun _ _ _ h => h) ⟨by rfl, fun wq hSw => exec_build27 rfl rfl rfl rfl rfl⟩ hS ?_
      (try simp only [Act.put, List.setIfInBounds_toArray, List.set_cons_zero, List.set_cons_succ])
      refine wpAnyH_ready (rs := [20]) (by kernel_rfl) (by simp) ?_
      refine AllReadyH.cons rfl (fun K hK => ?_) AllReadyH.nil
      have xc := (HA5.out.xs (R, [.int .i64 0, .int .i64 0, .slice none 0 0, .slice none 0 0]) (by simp)).cells
      obtain ⟨y0, z0⟩ := xc.get 0 _ rfl
      obtain ⟨y1, z1⟩ := xc.get 1 _ rfl
      obtain ⟨y2, z2⟩ := xc.get 2 _ rfl
      obtain ⟨y3, z3⟩ := xc.get 3 _ rfl
      have g0 := HA5.out.xset (R := R) (cs := [.int .i64 0, .int .i64 0, .slice none 0 0, .slice none 0 0]) (by simp) (j := 0) (by simp) (.int .i64 pn) HR.out
      have g1 := g0.xset (R := R) (List.mem_singleton.2 rfl) (j := 1) (by simp) (.int .i64 pl) HR.out
      have g2 := g1.xset (R := R) (List.mem_singleton.2 rfl) (j := 2) (by simp) (.slice a1 (n + 1) c1) HR.out
      have g3 := g2.xset (R := R) (List.mem_singleton.2 rfl) (j := 3) (by simp) (.slice a2 (m + 1) c2) HR.out
      have sP4 := (show _ ∧ _ ∧ _ ∧ _ from ⟨((HA5.out.xs (P, [.int .i64 pn, .int .i64 pl, .slice ta n tc, .slice tb m td]) (by simp)).cells.get 0 _ rfl).1, ((HA5.out.xs (P, [.int .i64 pn, .int .i64 pl, .slice ta n tc, .slice tb m td]) (by simp)).cells.get 1 _ rfl).1, ((HA5.out.xs (P, [.int .i64 pn, .int .i64 pl, .slice ta n tc, .slice tb m td]) (by simp)).cells.get 2 _ rfl).1, ((HA5.out.xs (P, [.int .i64 pn, .int .i64 pl, .slice ta n tc, .slice tb m td]) (by simp)).cells.get 3 _ rfl).1⟩)
      simp only [List.set_cons_succ, List.set_cons_zero] at g3
      have G3 := hide g3
      clear g0 g1 g2 g3 xc
      go_simp
      go_wp2_with fail
      refine hK.out _ _ (p4_keep HNE.out sP4) (fun hS => ?_)
      clear hK K
      (try simp only [Act.put, List.setIfInBounds_toArray, List.set_cons_zero, List.set_cons_succ])
      refine wpAnyH_done (by kernel_rfl) ?_ _
      go_wp2_with fail
      go_meet
      exact ⟨R, a1, c1, a2, c2, _, rfl, G3.out⟩
  · have hq := HA1.out.box (w' := u1.alloc (.cells #[.int .i64 0, .int .i64 0, .slice none 0 0, .slice none 0 0] 27)) [.int .i64 0, .int .i64 0, .slice none 0 0, .slice none 0 0] u1.heap.size (alloc_below _ _) (Nat.le_refl _) (Cells.new u1 #[.int .i64 0, .int .i64 0, .slice none 0 0, .slice none 0 0] 27)
    go_simp
    (try go_wp2_with fail)
    refine hK.out _ _ (show _ ∧ _ ∧ _ ∧ _ from ⟨((hq.xs (P, [.int .i64 pn, .int .i64 pl, .slice ta n tc, .slice tb m td]) (by simp)).cells.get 0 _ rfl).1, ((hq.xs (P, [.int .i64 pn, .int .i64 pl, .slice ta n tc, .slice tb m td]) (by simp)).cells.get 1 _ rfl).1, ((hq.xs (P, [.int .i64 pn, .int .i64 pl, .slice ta n tc, .slice tb m td]) (by simp)).cells.get 2 _ rfl).1, ((hq.xs (P, [.int .i64 pn, .int .i64 pl, .slice ta n tc, .slice tb m td]) (by simp)).cells.get 3 _ rfl).1⟩) (fun hS => ?_)
    clear hK K
    (try simp only [Act.put, List.setIfInBounds_toArray, List.set_cons_zero, List.set_cons_succ])
    obtain ⟨u2, hu⟩ : ∃ z : World, z = u1.alloc (.cells #[.int .i64 0, .int .i64 0, .slice none 0 0, .slice none 0 0] 27) := ⟨_, rfl⟩
    rw [← hu] at hq hS ⊢
    clear hu
    obtain ⟨R, hb⟩ : ∃ z, z = u1.heap.size := ⟨_, rfl⟩
    rw [← hb] at hq ⊢
    have HR := hide (show B ≤ R by have := HA1.out.bs; omega)
    have HNE := hide (show P ≠ R by have := (HA1.out.xs (P, [.int .i64 pn, .int .i64 pl, .slice ta n tc, .slice tb m td]) (by simp)).cells.1; omega)
    clear hb
    have HA2 := hide hq
    clear hq
    refine wpAnyH_ready (rs := [9]) (by kernel_rfl) (by simp) ?_
    refine AllReadyH.cons rfl (fun K hK => ?_) AllReadyH.nil
    have hq := HA2.out.box (w' := u2.alloc (.cells #[.int .i64 (-(i : Int)), .int .i64 0, .int .i64 0, .int .i64 0, .int .i64 0] 57)) [.int .i64 (-(i : Int)), .int .i64 0, .int .i64 0, .int .i64 0, .int .i64 0] u2.heap.size (alloc_below _ _) (Nat.le_refl _) (Cells.new u2 #[.int .i64 (-(i : Int)), .int .i64 0, .int .i64 0, .int .i64 0, .int .i64 0] 57)
    refine wp_b24 (x := .tmp 168) rfl rfl ?_
    refine hK.out _ _ (show _ ∧ _ ∧ _ ∧ _ from ⟨((hq.xs (P, [.int .i64 pn, .int .i64 pl, .slice ta n tc, .slice tb m td]) (by simp)).cells.get 0 _ rfl).1, ((hq.xs (P, [.int .i64 pn, .int .i64 pl, .slice ta n tc, .slice tb m td]) (by simp)).cells.get 1 _ rfl).1, ((hq.xs (P, [.int .i64 pn, .int .i64 pl, .slice ta n tc, .slice tb m td]) (by simp)).cells.get 2 _ rfl).1, ((hq.xs (P, [.int .i64 pn, .int .i64 pl, .slice ta n tc, .slice tb m td]) (by simp)).cells.get 3 _ rfl).1⟩) (fun hS => ?_)
    clear hK K
    (try simp only [Act.put, List.setIfInBounds_toArray, List.set_cons_zero, List.set_cons_succ])
    obtain ⟨u3, hu⟩ : ∃ z : World, z = u2.alloc (.cells #[.int .i64 (-(i : Int)), .int .i64 0, .int .i64 0, .int .i64 0, .int .i64 0] 57) := ⟨_, rfl⟩
    rw [← hu] at hq hS ⊢
    clear hu
    obtain ⟨b9, hb⟩ : ∃ z, z = u2.heap.size := ⟨_, rfl⟩
    rw [← hb] at hq ⊢
    have Hb9 := hide (show B ≤ b9 by have := HA2.out.bs; omega)
    clear hb
    have HA3 := hide hq
    clear hq
    refine wpAnyH_ready (rs := [10]) (by kernel_rfl) (by simp) ?_
    refine AllReadyH.cons rfl (fun K hK => ?_) AllReadyH.nil
    obtain ⟨vv, x3, r1, ⟨a1, c1, e1⟩, -, -, hh⟩ := HA3.out.push (t0 := 24) Tryd.underlying24 info57 rfl (by decide) (by decide) 24 (key := 200 + 2 * i) (by omega) HTC.out CI.out ⟨b9, 0, none⟩ 1 1 [.int .i64 (-(i : Int)), .int .i64 0, .int .i64 0, .int .i64 0, .int .i64 0] rfl (cells_lies ((HA3.out.xs (b9, [.int .i64 (-(i : Int)), .int .i64 0, .int .i64 0, .int .i64 0, .int .i64 0]) (by simp)).cells)) (by simp [Value.oneCell']) (by omega)
    subst e1
    have hq := hh _ _ rfl; rw [← HU1.out] at hq
    have r2 := hide r1
    clear hh r1
    refine wp_run 170 (.tmp 165) (.tmp 169) rfl rfl rfl rfl rfl r2.out ?_
    refine hK.out _ _ (show _ ∧ _ ∧ _ ∧ _ from ⟨((hq.xs (P, [.int .i64 pn, .int .i64 pl, .slice ta n tc, .slice tb m td]) (by simp)).cells.get 0 _ rfl).1, ((hq.xs (P, [.int .i64 pn, .int .i64 pl, .slice ta n tc, .slice tb m td]) (by simp)).cells.get 1 _ rfl).1, ((hq.xs (P, [.int .i64 pn, .int .i64 pl, .slice ta n tc, .slice tb m td]) (by simp)).cells.get 2 _ rfl).1, ((hq.xs (P, [.int .i64 pn, .int .i64 pl, .slice ta n tc, .slice tb m td]) (by simp)).cells.get 3 _ rfl).1⟩) (fun hS => ?_)
    clear hK K
    (try simp only [Act.put, List.setIfInBounds_toArray, List.set_cons_zero, List.set_cons_succ])
    obtain ⟨u4, hu⟩ : ∃ z : World, z = x3 := ⟨_, rfl⟩
    rw [← hu] at hq hS ⊢
    clear hu r2
    have HA4 := hide hq
    clear hq
    refine wpAnyH_ready (rs := [17]) (by kernel_rfl) (by simp) ?_
    refine AllReadyH.cons rfl (fun K hK => ?_) AllReadyH.nil
    obtain ⟨vv, x4, r1, ⟨a2, c2, e1⟩, -, -, hh⟩ := HA4.out.push (t0 := 25) Tryd.underlying25 info59 rfl (by decide) (by decide) 25 (key := 201 + 2 * i) (by omega) HTG1.out (by rw [put_other _ _ (by omega)]; exact GI.out) ⟨b16, 0, none⟩ 1 1 [.int .i64 (-(i : Int)), .int .i64 0] rfl (cells_lies ((HA4.out.xs (b16, [.int .i64 (-(i : Int)), .int .i64 0]) (by simp)).cells)) (by simp [Value.oneCell']) (by omega)
    subst e1
    have hq := hh _ _ rfl
    have r2 := hide r1
    clear hh r1
    refine wp_run 177 (.tmp 172) (.tmp 176) rfl rfl rfl rfl rfl r2.out ?_
    refine hK.out _ _ (show _ ∧ _ ∧ _ ∧ _ from ⟨((hq.xs (P, [.int .i64 pn, .int .i64 pl, .slice ta n tc, .slice tb m td]) (by simp)).cells.get 0 _ rfl).1, ((hq.xs (P, [.int .i64 pn, .int .i64 pl, .slice ta n tc, .slice tb m td]) (by simp)).cells.get 1 _ rfl).1, ((hq.xs (P, [.int .i64 pn, .int .i64 pl, .slice ta n tc, .slice tb m td]) (by simp)).cells.get 2 _ rfl).1, ((hq.xs (P, [.int .i64 pn, .int .i64 pl, .slice ta n tc, .slice tb m td]) (by simp)).cells.get 3 _ rfl).1⟩) (fun hS => ?_)
    clear hK K
    (try simp only [Act.put, List.setIfInBounds_toArray, List.set_cons_zero, List.set_cons_succ])
    obtain ⟨u5, hu⟩ : ∃ z : World, z = x4 := ⟨_, rfl⟩
    rw [← hu] at hq hS ⊢
    clear hu r2
    have HA5 := hide hq
    clear hq
    refine take_at 18 (some 178) (v := .agg #[.int .i64 pn, .int .i64 pl, .slice a1 (n + 1) c1, .slice a2 (m + 1) c2]) rfl rfl (by kernel_rfl) (by kernel_rfl) (by kernel_rfl) (fun _ _ _ h => h) ⟨by rfl, fun wq hSw => exec_build27 rfl rfl rfl rfl rfl⟩ hS ?_
    (try simp only [Act.put, List.setIfInBounds_toArray, List.set_cons_zero, List.set_cons_succ])
    refine wpAnyH_ready (rs := [20]) (by kernel_rfl) (by simp) ?_
    refine AllReadyH.cons rfl (fun K hK => ?_) AllReadyH.nil
    have xc := (HA5.out.xs (R, [.int .i64 0, .int .i64 0, .slice none 0 0, .slice none 0 0]) (by simp)).cells
    obtain ⟨y0, z0⟩ := xc.get 0 _ rfl
    obtain ⟨y1, z1⟩ := xc.get 1 _ rfl
    obtain ⟨y2, z2⟩ := xc.get 2 _ rfl
    obtain ⟨y3, z3⟩ := xc.get 3 _ rfl
    have g0 := HA5.out.xset (R := R) (cs := [.int .i64 0, .int .i64 0, .slice none 0 0, .slice none 0 0]) (by simp) (j := 0) (by simp) (.int .i64 pn) HR.out
    have g1 := g0.xset (R := R) (List.mem_singleton.2 rfl) (j := 1) (by simp) (.int .i64 pl) HR.out
    have g2 := g1.xset (R := R) (List.mem_singleton.2 rfl) (j := 2) (by simp) (.slice a1 (n + 1) c1) HR.out
    have g3 := g2.xset (R := R) (List.mem_singleton.2 rfl) (j := 3) (by simp) (.slice a2 (m + 1) c2) HR.out
    have sP4 := (show _ ∧ _ ∧ _ ∧ _ from ⟨((HA5.out.xs (P, [.int .i64 pn, .int .i64 pl, .slice ta n tc, .slice tb m td]) (by simp)).cells.get 0 _ rfl).1, ((HA5.out.xs (P, [.int .i64 pn, .int .i64 pl, .slice ta n tc, .slice tb m td]) (by simp)).cells.get 1 _ rfl).1, ((HA5.out.xs (P, [.int .i64 pn, .int .i64 pl, .slice ta n tc, .slice tb m td]) (by simp)).cells.get 2 _ rfl).1, ((HA5.out.xs (P, [.int .i64 pn, .int .i64 pl, .slice ta n tc, .slice tb m td]) (by simp)).cells.get 3 _ rfl).1⟩)
    simp only [List.set_cons_succ, List.set_cons_zero] at g3
    have G3 := hide g3
    clear g0 g1 g2 g3 xc
    go_simp
    go_wp2_with fail
    refine hK.out _ _ (p4_keep HNE.out sP4) (fun hS => ?_)
    clear hK K
    (try simp only [Act.put, List.setIfInBounds_toArray, List.set_cons_zero, List.set_cons_succ])
    refine wpAnyH_done (by kernel_rfl) ?_ _
    go_wp2_with fail
    go_meet
    exact ⟨R, a1, c1, a2, c2, _, rfl, G3.out⟩
end Go.Proofs.YtakjpljpdlhicaaDoor
