import Derived.Test.YtakjpljpdlhicaaDoorPg38
set_option linter.all false
namespace Go.Proofs.YtakjpljpdlhicaaDoor
open Go.RowKit Go.QK Go.Pg
set_option maxRecDepth 100000
set_option maxHeartbeats 8000000 in
theorem kept_any (p : PageM) (t u : At) (B g1 g2 : Nat) (w : World) (h : Lent w B p u g1 g2) (hm : Mks w) (hcs : Lies w t.a (ctrsC p.cs)) (hgs : Lies w t.b (grpsC p.gs)) (hl1 : p.cs.length ≤ 10000000000000) (hl2 : p.gs.length ≤ 10000000000000) :
    Calls Tryd.prog 18 #[pageV p u, pageV p t] w fun e w' => e = .returned (.bool true) ∧ Below w.heap.size w w' := by
  obtain ⟨m1, m2, s1, s2⟩ := h.marks
  obtain ⟨lu1, lu2, k1, k2⟩ := h.lies
  have e1 := h.ta
  have e2 := h.tb
  clear h
  have KB := hide (fun w' => back_any p u w')
  have KR := hide (fun w' => ref_any p t w')
  have KS := hide (fun w' (hb : Below w.heap.size w w') => same_trueW p u t w' (lu1.below hb) (lu2.below hb) (hcs.below hb) (hgs.below hb) hl1 hl2)
  obtain ⟨num, lsn, cs, gs⟩ := p
  obtain ⟨ta, tc, tb, td⟩ := t
  obtain ⟨ua, uc, ub, ud⟩ := u
  simp only at e1 e2 m1 m2 k1 k2 hl1 hl2
  subst e1 e2
  simp only [pageV] at *
  have MK := hide hm
  have M1 := hide m1
  have M2 := hide m2
  have t1 := fun wq => slice24 (a := some ⟨g1, 0, none⟩) (n := cs.length) (cap := uc) (cs.length + 1) wq k1 nofun
  have t2 := fun wq => slice25 (a := some ⟨g2, 0, none⟩) (n := gs.length) (cap := ud) (gs.length + 1) wq k2 nofun
  clear hm m1 m2 lu1 lu2 hcs hgs
  go_enter Tryd.func18, Tryd.ntmps18
  go_upto_region 3 with fail
  refine named (P := Code.wp _ _ _ _) ?_
  intro w0 hw0
  obtain ⟨nb, hnb⟩ : ∃ nb, nb = w.heap.size := ⟨_, rfl⟩
  rw [← hnb]
  have b0 : Below w.heap.size w w0 := by rw [hw0]; exact Below.trans (alloc_below _ _) ((alloc_below _ _).mono (alloc_below _ _).size)
  have CO := hide (show Cells w0 nb [.int .i64 num, .int .i64 lsn, .slice (some ⟨g1, 0, none⟩) cs.length uc, .slice (some ⟨g2, 0, none⟩) gs.length ud] by rw [hw0, hnb]; exact (Cells.new w _ _).below (alloc_below _ _))
  have CP := hide (show Cells w0 (nb + 1) [.int .i64 num, .int .i64 lsn, .slice ta cs.length tc, .slice tb gs.length td] by rw [hw0, hnb, show w.heap.size + 1 = (w.alloc (.cells (#[.int .i64 num, .int .i64 lsn, .slice (some ⟨g1, 0, none⟩) cs.length uc, .slice (some ⟨g2, 0, none⟩) gs.length ud]) 27)).heap.size from (Array.size_push _).symm]; exact Cells.new _ _ _)
  have N1 := hide (show ∀ wz, Below w0.heap.size w0 wz → ∀ j v, (ctrC mkC)[j]? = some v → wz.cell? ⟨g1, cs.length * 5 + j, none⟩ = some v from fun wz hb j v hv => ((b0.trans (hb.mono b0.size)).cell (p := ⟨g1, cs.length * 5 + j, none⟩) s1).trans (M1.out j v hv))
  have N2 := hide (show ∀ wz, Below w0.heap.size w0 wz → ∀ j v, (grpC mkG)[j]? = some v → wz.cell? ⟨g2, gs.length * 2 + j, none⟩ = some v from fun wz hb j v hv => ((b0.trans (hb.mono b0.size)).cell (p := ⟨g2, gs.length * 2 + j, none⟩) s2).trans (M2.out j v hv))
  have MK0 := hide (MK.out.below b0)
  have B0 := hide b0
  clear hw0 hnb b0 M1 M2 MK s1 s2 t1 t2
  refine wp_region_held_drew (S := fun wq => Below w0.heap.size w0 wq) (by kernel_rfl) (Below.refl _ _).drew (fun hS => ?_)
  refine take_at 0 (some 21) (v := ?_) rfl rfl (by kernel_rfl) (by kernel_rfl) (by kernel_rfl) (fun _ _ _ h => h) ⟨by rfl, ?_⟩ hS ?_
  rotate_left
  · intro wq hSw; have qq := (CO.out.below hSw); obtain ⟨q0, _⟩ := qq.get 0 _ rfl; obtain ⟨q1, _⟩ := qq.get 1 _ rfl; obtain ⟨q2, _⟩ := qq.get 2 _ rfl; obtain ⟨q3, _⟩ := qq.get 3 _ rfl; clear qq; go_simp; try rfl
  simp only [Act.put, List.setIfInBounds_toArray, List.set_cons_zero, List.set_cons_succ]
  refine take_at 2 (some 23) (v := ?_) rfl rfl (by kernel_rfl) (by kernel_rfl) (by kernel_rfl) (fun _ _ _ h => h) ⟨by rfl, ?_⟩ hS ?_
  rotate_left
  · intro wq hSw; have qq := (CP.out.below hSw); obtain ⟨q0, _⟩ := qq.get 0 _ rfl; obtain ⟨q1, _⟩ := qq.get 1 _ rfl; obtain ⟨q2, _⟩ := qq.get 2 _ rfl; obtain ⟨q3, _⟩ := qq.get 3 _ rfl; clear qq; go_simp; try rfl
  simp only [Act.put, List.setIfInBounds_toArray, List.set_cons_zero, List.set_cons_succ]
  refine wpAnyH_ready (rs := [1]) (by kernel_rfl) (by simp) ?_
  refine AllReadyH.cons rfl (fun K hK => ?_) AllReadyH.nil
  go_simp
  go_wp2_with fail
  refine (KB.out _).mono ?_
  rintro e x1 ⟨rfl, hh⟩
  go_wp2_with fail
  refine hK.out _ _ (hS.trans (hh.mono hS.size)) (fun hS => ?_)
  clear hK K
  (try simp only [Act.put, List.setIfInBounds_toArray, List.set_cons_zero, List.set_cons_succ])
  refine wpAnyH_ready (rs := [3]) (by kernel_rfl) (by simp) ?_
  refine AllReadyH.cons rfl (fun K hK => ?_) AllReadyH.nil
  go_simp
  go_wp2_with fail
  refine (KR.out _).mono ?_
  rintro e x2 ⟨rfl, hh2⟩
  go_wp2_with fail
  refine hK.out _ _ (hS.trans (hh2.mono hS.size)) (fun hS => ?_)
  clear hK K
  (try simp only [Act.put, List.setIfInBounds_toArray, List.set_cons_zero, List.set_cons_succ])
  refine wpAnyH_ready (rs := [4]) (by kernel_rfl) (by simp) ?_
  refine AllReadyH.cons rfl (fun K hK => ?_) AllReadyH.nil
  go_simp
  go_wp2_with fail
  refine (KS.out _ (B0.out.trans (hS.mono B0.out.size))).mono ?_
  rintro e x3 ⟨rfl, hh3⟩
  go_wp2_with fail
  refine hK.out _ _ (hS.trans (hh3.mono hS.size)) (fun hS => ?_)
  clear hK K
  (try simp only [Act.put, List.setIfInBounds_toArray, List.set_cons_zero, List.set_cons_succ])
  refine take_at 5 (some 26) (v := ?_) rfl rfl (by kernel_rfl) (by kernel_rfl) (by kernel_rfl) (fun _ _ _ h => h) ⟨by rfl, ?_⟩ hS ?_
  rotate_left
  · intro wq hSw; go_simp; try rfl
  simp only [Act.put, List.setIfInBounds_toArray, List.set_cons_zero, List.set_cons_succ]
  refine take_at 6 (some 27) (v := ?_) rfl rfl (by kernel_rfl) (by kernel_rfl) (by kernel_rfl) (fun _ _ _ h => h) ⟨by rfl, ?_⟩ hS ?_
  rotate_left
  · intro wq hSw; go_simp; try rfl
  simp only [Act.put, List.setIfInBounds_toArray, List.set_cons_zero, List.set_cons_succ]
  refine take_at 7 (some 28) (v := ?_) rfl rfl (by kernel_rfl) (by kernel_rfl) (by kernel_rfl) (fun _ _ _ h => h) ⟨by rfl, ?_⟩ hS ?_
  rotate_left
  · intro wq hSw; go_simp; try rfl
  simp only [Act.put, List.setIfInBounds_toArray, List.set_cons_zero, List.set_cons_succ]
  refine take_at 8 (some 29) (v := ?_) rfl rfl (by kernel_rfl) (by kernel_rfl) (by kernel_rfl) (fun _ _ _ h => h) ⟨by rfl, ?_⟩ hS ?_
  rotate_left
  · intro wq hSw; obtain ⟨q2, _⟩ := (CP.out.below hSw).get 2 _ rfl; go_simp; try rfl
  simp only [Act.put, List.setIfInBounds_toArray, List.set_cons_zero, List.set_cons_succ]
  refine take_at 9 (some 30) (v := ?_) rfl rfl (by kernel_rfl) (by kernel_rfl) (by kernel_rfl) (fun _ _ _ h => h) ⟨by rfl, ?_⟩ hS ?_
  rotate_left
  · intro wq hSw; go_simp; try rfl
  simp only [Act.put, List.setIfInBounds_toArray, List.set_cons_zero, List.set_cons_succ]
  refine take_at 10 (some 31) (v := ?_) rfl rfl (by kernel_rfl) (by kernel_rfl) (by kernel_rfl) (fun _ _ _ h => h) ⟨by rfl, ?_⟩ hS ?_
  rotate_left
  · intro wq hSw; have q : ((cs.length : Int) < (cs.length : Int) + 1) := (by omega); go_simp; try rfl
  simp only [Act.put, List.setIfInBounds_toArray, List.set_cons_zero, List.set_cons_succ]
  refine take_at 11 (some 32) (v := ?_) rfl rfl (by kernel_rfl) (by kernel_rfl) (by kernel_rfl) (fun _ _ _ h => h) ⟨by rfl, ?_⟩ hS ?_
  rotate_left
  · intro wq hSw; have r0 := N1.out wq hSw 0 _ rfl; have r1 := N1.out wq hSw 1 _ rfl; have r2 := N1.out wq hSw 2 _ rfl; have r3 := N1.out wq hSw 3 _ rfl; have r4 := N1.out wq hSw 4 _ rfl; rw [Nat.add_zero] at r0; go_simp; try rfl
  simp only [Act.put, List.setIfInBounds_toArray, List.set_cons_zero, List.set_cons_succ]
  refine take_at 12 (some 33) (v := ?_) rfl rfl (by kernel_rfl) (by kernel_rfl) (by kernel_rfl) (fun _ _ _ h => h) ⟨by rfl, ?_⟩ hS ?_
  rotate_left
  · intro wq hSw; obtain ⟨n0, n1, n2, n3, n4⟩ := (MK0.out.below hSw).ctr; go_simp; try rfl
  simp only [Act.put, List.setIfInBounds_toArray, List.set_cons_zero, List.set_cons_succ]
  refine take_at 13 (some 34) (v := ?_) rfl rfl (by kernel_rfl) (by kernel_rfl) (by kernel_rfl) (fun _ _ _ h => h) ⟨by rfl, ?_⟩ hS ?_
  rotate_left
  · intro wq hSw; go_simp; try rfl
  simp only [Act.put, List.setIfInBounds_toArray, List.set_cons_zero, List.set_cons_succ]
  refine take_at 14 (some 35) (v := ?_) rfl rfl (by kernel_rfl) (by kernel_rfl) (by kernel_rfl) (fun _ _ _ h => h) ⟨by rfl, ?_⟩ hS ?_
  rotate_left
  · intro wq hSw; go_simp; try rfl
  simp only [Act.put, List.setIfInBounds_toArray, List.set_cons_zero, List.set_cons_succ]
  refine take_at 15 (some 36) (v := ?_) rfl rfl (by kernel_rfl) (by kernel_rfl) (by kernel_rfl) (fun _ _ _ h => h) ⟨by rfl, ?_⟩ hS ?_
  rotate_left
  · intro wq hSw; go_simp; try rfl
  simp only [Act.put, List.setIfInBounds_toArray, List.set_cons_zero, List.set_cons_succ]
  refine take_at 16 (some 37) (v := ?_) rfl rfl (by kernel_rfl) (by kernel_rfl) (by kernel_rfl) (fun _ _ _ h => h) ⟨by rfl, ?_⟩ hS ?_
  rotate_left
  · intro wq hSw; go_simp; try rfl
  simp only [Act.put, List.setIfInBounds_toArray, List.set_cons_zero, List.set_cons_succ]
  refine take_at 17 (some 38) (v := ?_) rfl rfl (by kernel_rfl) (by kernel_rfl) (by kernel_rfl) (fun _ _ _ h => h) ⟨by rfl, ?_⟩ hS ?_
  rotate_left
  · intro wq hSw; go_simp; try rfl
  simp only [Act.put, List.setIfInBounds_toArray, List.set_cons_zero, List.set_cons_succ]
  refine take_at 18 (some 39) (v := ?_) rfl rfl (by kernel_rfl) (by kernel_rfl) (by kernel_rfl) (fun _ _ _ h => h) ⟨by rfl, ?_⟩ hS ?_
  rotate_left
  · intro wq hSw; obtain ⟨q2, _⟩ := (CP.out.below hSw).get 3 _ rfl; go_simp; try rfl
  simp only [Act.put, List.setIfInBounds_toArray, List.set_cons_zero, List.set_cons_succ]
  refine take_at 19 (some 40) (v := ?_) rfl rfl (by kernel_rfl) (by kernel_rfl) (by kernel_rfl) (fun _ _ _ h => h) ⟨by rfl, ?_⟩ hS ?_
  rotate_left
  · intro wq hSw; go_simp; try rfl
  simp only [Act.put, List.setIfInBounds_toArray, List.set_cons_zero, List.set_cons_succ]
  refine take_at 20 (some 41) (v := ?_) rfl rfl (by kernel_rfl) (by kernel_rfl) (by kernel_rfl) (fun _ _ _ h => h) ⟨by rfl, ?_⟩ hS ?_
  rotate_left
  · intro wq hSw; have q : ((gs.length : Int) < (gs.length : Int) + 1) := (by omega); go_simp; try rfl
  simp only [Act.put, List.setIfInBounds_toArray, List.set_cons_zero, List.set_cons_succ]
  refine take_at 21 (some 42) (v := ?_) rfl rfl (by kernel_rfl) (by kernel_rfl) (by kernel_rfl) (fun _ _ _ h => h) ⟨by rfl, ?_⟩ hS ?_
  rotate_left
  · intro wq hSw; have r0 := N2.out wq hSw 0 _ rfl; have r1 := N2.out wq hSw 1 _ rfl; rw [Nat.add_zero] at r0; go_simp; try rfl
  simp only [Act.put, List.setIfInBounds_toArray, List.set_cons_zero, List.set_cons_succ]
  refine take_at 22 (some 43) (v := ?_) rfl rfl (by kernel_rfl) (by kernel_rfl) (by kernel_rfl) (fun _ _ _ h => h) ⟨by rfl, ?_⟩ hS ?_
  rotate_left
  · intro wq hSw; obtain ⟨n0, n1⟩ := (MK0.out.below hSw).grp; go_simp; try rfl
  simp only [Act.put, List.setIfInBounds_toArray, List.set_cons_zero, List.set_cons_succ]
  refine take_at 23 (some 44) (v := ?_) rfl rfl (by kernel_rfl) (by kernel_rfl) (by kernel_rfl) (fun _ _ _ h => h) ⟨by rfl, ?_⟩ hS ?_
  rotate_left
  · intro wq hSw; go_simp; try rfl
  simp only [Act.put, List.setIfInBounds_toArray, List.set_cons_zero, List.set_cons_succ]
  refine take_at 24 (some 45) (v := ?_) rfl rfl (by kernel_rfl) (by kernel_rfl) (by kernel_rfl) (fun _ _ _ h => h) ⟨by rfl, ?_⟩ hS ?_
  rotate_left
  · intro wq hSw; go_simp; try rfl
  simp only [Act.put, List.setIfInBounds_toArray, List.set_cons_zero, List.set_cons_succ]
  refine take_at 25 (some 4) (v := ?_) rfl rfl (by kernel_rfl) (by kernel_rfl) (by kernel_rfl) (fun _ _ _ h => h) ⟨by rfl, ?_⟩ hS ?_
  rotate_left
  · intro wq hSw; go_simp; try rfl
  simp only [Act.put, List.setIfInBounds_toArray, List.set_cons_zero, List.set_cons_succ]
  have SS := hide hS
  clear hS
  refine wpAnyH_done (by kernel_rfl) ?_ _
  go_wp2_with fail
  go_ret
  exact ⟨rfl, B0.out.trans (SS.out.mono B0.out.size)⟩
end Go.Proofs.YtakjpljpdlhicaaDoor
