import Derived.Test.YtehbpmibllpkhaaGreatDoorUd3
set_option linter.all false
namespace Go.Proofs.YtehbpmibllpkhaaGreatDoor
open Go.RowKit Go.QK Go.Maps Go.QM Go.QU
set_option maxRecDepth 100000
theorem del_len {L : Prs Hd} (k : Int) : (delM L k).length ≤ L.length := len_del L k
set_option maxHeartbeats 8000000 in
theorem undo_any (b m : Nat) (L : Prs Hd) (A : Array Value) (r : UR) (w : World) (h : PB w b m L) (hr : RF A r) (i1 : I64 r.id) :
    Calls Tryz.prog 34 #[ptr b, .agg A] w fun e w' => e = .returned (.int .i64 ((undE L r : Nat) : Int)) ∧ PB w' b m (if undE L r = 0 then delM L r.id else L) ∧ Keep (fun z => z = m) w w' := by
  obtain ⟨gn, g1, g2, g3, g4, hgot⟩ : ∃ gn g1 g2 g3 g4, gotH L r.id = ⟨gn, g1, g2, g3, g4⟩ := ⟨_, _, _, _, _, rfl⟩
  have hne := h.ne
  obtain ⟨w2, hw2⟩ : ∃ z, z = w.alloc (.cells A 53) := ⟨_, rfl⟩
  obtain ⟨X, hX⟩ : ∃ z, z = w.heap.size := ⟨_, rfl⟩
  have PB2 := hide (show PB w2 b m L by rw [hw2]; exact h.below (alloc_below _ _))
  have RB2 := hide (show RBox w2 X 53 A by rw [hw2, hX]; exact RBox.new _ _ _)
  have K2 := hide (show Below w.heap.size w w2 by rw [hw2]; exact alloc_below _ _)
  have lt := h.lt
  have BX := hide (show b < X ∧ m < X by rw [hX]; exact lt)
  have FIN := hide (show ∀ w3, Keep (fun z => z = m) w2 w3 → AnyAt Tryz.prog 3 w3 m (delM (bkV L) r.id) → PB w3 b m (delM L r.id) from fun w3 hk hm => ⟨PB2.out.box.keep hk hne, by rw [← delM_bkV]; exact hm, h.up.del _, del_fits h.fits _, by have := del_len (L := L) r.id; have := h.few; omega⟩)
  obtain ⟨sm, hsm⟩ : ∃ z, z = (getM L r.id).isSome := ⟨_, rfl⟩
  have hE : undE L r = if sm = true then (if sameHd ⟨gn, g1, g2, g3, g4⟩ r = true then 0 else 60) else 120 := by
    unfold undE
    unfold gotH at hgot
    rw [hsm]
    cases hq : getM L r.id with
    | none => rfl
    | some x => rw [hq] at hgot; simp only [Option.getD_some] at hgot; rw [hgot]; rfl
  obtain ⟨E, hEE⟩ : ∃ E, E = undE L r := ⟨_, rfl⟩
  rw [← hEE] at hE ⊢
  have HE := hide hE
  have HG := hide hgot
  have HS := hide hsm
  clear hE hEE hgot hsm lt h
  go_enter Tryz.func34, Tryz.ntmps34
  go_upto_region 1 with fail
  rw [← hw2, ← hX]
  have HW2 := hide hw2
  have HX := hide hX
  clear hw2 hX
  refine wp_region_held_drew (S := fun wq => Below w2.heap.size w2 wq) (by kernel_rfl) (Below.refl _ _).drew (fun hS => ?_)
  have hW0 := hide hS
  generalize w2.drew = we at *
  refine take_at 0 (some 8) (v := ?_) rfl rfl (by kernel_rfl) (by kernel_rfl) (by kernel_rfl) (fun _ _ _ h => h) ⟨by rfl, ?_⟩ hS ?_
  rotate_left
  · intro wq hSw; go_simp; try rfl
  simp only [Act.put, List.setIfInBounds_toArray, List.set_cons_zero, List.set_cons_succ]
  refine take_at 1 (some 9) (v := ?_) rfl rfl (by kernel_rfl) (by kernel_rfl) (by kernel_rfl) (fun _ _ _ h => h) ⟨by rfl, ?_⟩ hS ?_
  rotate_left
  · intro wq hSw; go_simp; try rfl
  simp only [Act.put, List.setIfInBounds_toArray, List.set_cons_zero, List.set_cons_succ]
  refine take_at 2 (some 10) (v := ?_) rfl rfl (by kernel_rfl) (by kernel_rfl) (by kernel_rfl) (fun _ _ _ h => h) ⟨by rfl, ?_⟩ hS ?_
  rotate_left
  · intro wq hSw; go_simp; try rfl
  simp only [Act.put, List.setIfInBounds_toArray, List.set_cons_zero, List.set_cons_succ]
  refine take_at 3 (some 11) (v := ?_) rfl rfl (by kernel_rfl) (by kernel_rfl) (by kernel_rfl) (fun _ _ _ h => h) ⟨by rfl, ?_⟩ hS ?_
  rotate_left
  · intro wq hSw; have q0 := ((PB2.out.below hSw).box.get 0 _ rfl).1; go_simp; try rfl
  simp only [Act.put, List.setIfInBounds_toArray, List.set_cons_zero, List.set_cons_succ]
  refine take_at 4 (some 12) (v := ?_) rfl rfl (by kernel_rfl) (by kernel_rfl) (by kernel_rfl) (fun _ _ _ h => h) ⟨by rfl, ?_⟩ hS ?_
  rotate_left
  · intro wq hSw; go_simp; try rfl
  simp only [Act.put, List.setIfInBounds_toArray, List.set_cons_zero, List.set_cons_succ]
  refine take_at 5 (some 13) (v := ?_) rfl rfl (by kernel_rfl) (by kernel_rfl) (by kernel_rfl) (fun _ _ _ h => h) ⟨by rfl, ?_⟩ hS ?_
  rotate_left
  · intro wq hSw; go_simp; try rfl
  simp only [Act.put, List.setIfInBounds_toArray, List.set_cons_zero, List.set_cons_succ]
  refine take_at 6 (some 14) (v := ?_) rfl rfl (by kernel_rfl) (by kernel_rfl) (by kernel_rfl) (fun _ _ _ h => h) ⟨by rfl, ?_⟩ hS ?_
  rotate_left
  · intro wq hSw; have qc9 := hr.cell (RB2.out.below hSw) hr.c9; go_simp; try rfl
  simp only [Act.put, List.setIfInBounds_toArray, List.set_cons_zero, List.set_cons_succ]
  refine take_at 7 (some 15) (v := ?_) rfl rfl (by kernel_rfl) (by kernel_rfl) (by kernel_rfl) (fun _ _ _ h => h) ⟨by rfl, ?_⟩ hS ?_
  rotate_left
  · intro wq hSw; have q0 := (PB2.out.below hSw).look2 i1; simp only [HG.out, hdV, ← HS.out] at q0; go_simp; try rfl
  simp only [Act.put, List.setIfInBounds_toArray, List.set_cons_zero, List.set_cons_succ]
  refine take_at 8 (some 7) (v := ?_) rfl rfl (by kernel_rfl) (by kernel_rfl) (by kernel_rfl) (fun _ _ _ h => h) ⟨by rfl, ?_⟩ hS ?_
  rotate_left
  · intro wq hSw; go_simp; try rfl
  simp only [Act.put, List.setIfInBounds_toArray, List.set_cons_zero, List.set_cons_succ]
  refine take_at 9 (some 16) (v := ?_) rfl rfl (by kernel_rfl) (by kernel_rfl) (by kernel_rfl) (fun _ _ _ h => h) ⟨by rfl, ?_⟩ hS ?_
  rotate_left
  · intro wq hSw; go_simp; try rfl
  simp only [Act.put, List.setIfInBounds_toArray, List.set_cons_zero, List.set_cons_succ]
  refine take_at 10 (some 17) (v := ?_) rfl rfl (by kernel_rfl) (by kernel_rfl) (by kernel_rfl) (fun _ _ _ h => h) ⟨by rfl, ?_⟩ hS ?_
  rotate_left
  · intro wq hSw; go_simp; try rfl
  simp only [Act.put, List.setIfInBounds_toArray, List.set_cons_zero, List.set_cons_succ]
  refine wpAnyH_ready (rs := [11]) (by kernel_rfl) (by simp) ?_
  refine AllReadyH.cons rfl (fun K hK => ?_) AllReadyH.nil
  go_simp
  (try go_wp2_with fail)
  refine hK.out _ _ (hS.trans ((alloc_below we (.cells #[.int .i64 0, .int .i64 0, .int .i64 0, .int .i64 0, .int .i64 0] 98)).mono hS.size)) (fun hS => ?_)
  clear hK K
  (try simp only [Act.put, List.setIfInBounds_toArray, List.set_cons_zero, List.set_cons_succ])
  obtain ⟨u, hu⟩ : ∃ z : World, z = we.alloc (.cells #[.int .i64 0, .int .i64 0, .int .i64 0, .int .i64 0, .int .i64 0] 98) := ⟨_, rfl⟩
  obtain ⟨Y, hY⟩ : ∃ z, z = we.heap.size := ⟨_, rfl⟩
  have CY := hide (show Cells u Y [.int .i64 0, .int .i64 0, .int .i64 0, .int .i64 0, .int .i64 0] by rw [hu, hY]; exact Cells.new we #[.int .i64 0, .int .i64 0, .int .i64 0, .int .i64 0, .int .i64 0] 98)
  rw [← hu, ← hY]
  rw [← hu] at hS
  clear hu
  have SY := hide (show w2.heap.size ≤ Y by rw [hY]; exact hW0.out.size)
  clear hY
  obtain ⟨y0, z0⟩ := CY.out.get 0 _ rfl
  obtain ⟨y1, z1⟩ := CY.out.get 1 _ rfl
  obtain ⟨y2, z2⟩ := CY.out.get 2 _ rfl
  obtain ⟨y3, z3⟩ := CY.out.get 3 _ rfl
  obtain ⟨y4, z4⟩ := CY.out.get 4 _ rfl
  have CY2 := hide (show Cells (((((u.setCell ⟨Y, 0, none⟩ (.int .i64 gn)).setCell ⟨Y, 1, none⟩ (.int .i64 g1)).setCell ⟨Y, 2, none⟩ (.int .i64 g2)).setCell ⟨Y, 3, none⟩ (.int .i64 g3)).setCell ⟨Y, 4, none⟩ (.int .i64 g4)) Y [.int .i64 gn, .int .i64 g1, .int .i64 g2, .int .i64 g3, .int .i64 g4] from (((((CY.out.stored (j := 0) (by simp) (.int .i64 gn)).stored (j := 1) (by simp) (.int .i64 g1)).stored (j := 2) (by simp) (.int .i64 g2)).stored (j := 3) (by simp) (.int .i64 g3)).stored (j := 4) (by simp) (.int .i64 g4)))
  have hS2 : Below w2.heap.size w2 (((((u.setCell ⟨Y, 0, none⟩ (.int .i64 gn)).setCell ⟨Y, 1, none⟩ (.int .i64 g1)).setCell ⟨Y, 2, none⟩ (.int .i64 g2)).setCell ⟨Y, 3, none⟩ (.int .i64 g3)).setCell ⟨Y, 4, none⟩ (.int .i64 g4)) := hS.trans (((((((Keep.refl (fun z => z = Y) u).setCell (g := Y) (j := 0) (fun _ => rfl) (.int .i64 gn)).setCell (g := Y) (j := 1) (fun _ => rfl) (.int .i64 g1)).setCell (g := Y) (j := 2) (fun _ => rfl) (.int .i64 g2)).setCell (g := Y) (j := 3) (fun _ => rfl) (.int .i64 g3)).setCell (g := Y) (j := 4) (fun _ => rfl) (.int .i64 g4)).below hS.size (fun z hz e => by have := SY.out; omega))
  refine wpAnyH_ready (rs := [12]) (by kernel_rfl) (by simp) ?_
  refine AllReadyH.cons rfl (fun K hK => ?_) AllReadyH.nil
  go_simp
  go_wp2_with fail
  refine hK.out _ _ hS2 (fun hS => ?_)
  clear hK K
  (try simp only [Act.put, List.setIfInBounds_toArray, List.set_cons_zero, List.set_cons_succ])
  clear hS2 y0 z0 y1 z1 y2 z2 y3 z3 y4 z4
  obtain ⟨u2, hu2⟩ : ∃ z : World, z = (((((u.setCell ⟨Y, 0, none⟩ (.int .i64 gn)).setCell ⟨Y, 1, none⟩ (.int .i64 g1)).setCell ⟨Y, 2, none⟩ (.int .i64 g2)).setCell ⟨Y, 3, none⟩ (.int .i64 g3)).setCell ⟨Y, 4, none⟩ (.int .i64 g4)) := ⟨_, rfl⟩
  rw [← hu2] at CY2 hS ⊢
  clear hu2 CY
  refine take_at 13 (some 6) (v := ?_) rfl rfl (by kernel_rfl) (by kernel_rfl) (by kernel_rfl) (fun _ _ _ h => h) ⟨by rfl, ?_⟩ hS ?_
  rotate_left
  · intro wq hSw; go_simp; try rfl
  simp only [Act.put, List.setIfInBounds_toArray, List.set_cons_zero, List.set_cons_succ]
  have D9 := hide hS
  clear hS
  refine wpAnyH_done (by kernel_rfl) ?_ _
  cases sm
  · have e0 : E = 120 := by rw [HE.out]; rfl
    go_wp2_with fail
    go_ret
    exact ⟨rfl, PB2.out.below D9.out, (Keep.of_below K2.out).trans (Keep.of_below (S := fun _ => False) D9.out) (fun _ _ q => q.elim)⟩
  · have HE2 := hide (show E = if sameHd ⟨gn, g1, g2, g3, g4⟩ r = true then 0 else 60 by rw [HE.out, if_pos rfl])
    clear HE
    obtain ⟨q8, qa, qb, qc, qd⟩ : u2.cell? ⟨X, 8, none⟩ = some (.int .i64 r.delta) ∧ u2.cell? ⟨X, 4, none⟩ = some (.int .i64 r.wp) ∧ u2.cell? ⟨X, 5, none⟩ = some (.int .i64 r.wi) ∧ u2.cell? ⟨X, 6, none⟩ = some (.int .i64 r.sp) ∧ u2.cell? ⟨X, 7, none⟩ = some (.int .i64 r.si) := ⟨hr.cell (RB2.out.below D9.out) hr.c8, hr.cell (RB2.out.below D9.out) hr.c4, hr.cell (RB2.out.below D9.out) hr.c5, hr.cell (RB2.out.below D9.out) hr.c6, hr.cell (RB2.out.below D9.out) hr.c7⟩
    obtain ⟨y0, -⟩ := CY2.out.get 0 _ rfl
    obtain ⟨y1, -⟩ := CY2.out.get 1 _ rfl
    obtain ⟨y2, -⟩ := CY2.out.get 2 _ rfl
    obtain ⟨y3, -⟩ := CY2.out.get 3 _ rfl
    obtain ⟨y4, -⟩ := CY2.out.get 4 _ rfl
    by_cases hq : gn = r.delta ∧ (g1 = r.wp ∧ g2 = r.wi) ∧ (g3 = r.sp ∧ g4 = r.si)
    · have e0 : E = 0 := by rw [HE2.out, if_pos (by simp [sameHd, hq])]
      obtain ⟨p0, ⟨p1, p2⟩, ⟨p3, p4⟩⟩ := hq
      rw [p0] at y0
      rw [p1] at y1
      rw [p2] at y2
      rw [p3] at y3
      rw [p4] at y4
      clear p0 p1 p2 p3 p4 CY2
      go_upto_region 6 with fail
      have PB4 := hide (PB2.out.below D9.out.drew)
      obtain ⟨w5, hrun, hA, hg⟩ := any_del lawK Tryz.underlying93 PB4.out.mp (keyI i1) 0
      have hk := keepM hg
      have K5 := hide (show Keep (fun z => z = m) w2 w5 from (Keep.of_below (S := fun z => z = m) D9.out.drew).trans hk (fun _ _ q => q))
      have HR := hide hrun
      have HA5 := hide hA
      clear hrun hA hg hk
      refine wp_region_held_drew (S := fun wq => Keep (fun z => z = m) w2 wq) (by kernel_rfl) (Keep.of_below D9.out.drew) (fun hS => ?_)
      clear q8 qa qb qc qd y0 y1 y2 y3 y4
      refine take_at 0 (some 29) (v := ?_) rfl rfl (by kernel_rfl) (by kernel_rfl) (by kernel_rfl) (fun _ _ _ h => h) ⟨by rfl, ?_⟩ hS ?_
      rotate_left
      · intro wq hSw; go_simp; try rfl
      simp only [Act.put, List.setIfInBounds_toArray, List.set_cons_zero, List.set_cons_succ]
      refine take_at 1 (some 30) (v := ?_) rfl rfl (by kernel_rfl) (by kernel_rfl) (by kernel_rfl) (fun _ _ _ h => h) ⟨by rfl, ?_⟩ hS ?_
      rotate_left
      · intro wq hSw; go_simp; try rfl
      simp only [Act.put, List.setIfInBounds_toArray, List.set_cons_zero, List.set_cons_succ]
      refine take_at 2 (some 31) (v := ?_) rfl rfl (by kernel_rfl) (by kernel_rfl) (by kernel_rfl) (fun _ _ _ h => h) ⟨by rfl, ?_⟩ hS ?_
      rotate_left
      · intro wq hSw; go_simp; try rfl
      simp only [Act.put, List.setIfInBounds_toArray, List.set_cons_zero, List.set_cons_succ]
      refine take_at 3 (some 32) (v := ?_) rfl rfl (by kernel_rfl) (by kernel_rfl) (by kernel_rfl) (fun _ _ _ h => h) ⟨by rfl, ?_⟩ hS ?_
      rotate_left
      · intro wq hSw; have q0 := ((PB2.out.box.keep hSw hne).get 0 _ rfl).1; go_simp; try rfl
      simp only [Act.put, List.setIfInBounds_toArray, List.set_cons_zero, List.set_cons_succ]
      refine take_at 4 (some 33) (v := ?_) rfl rfl (by kernel_rfl) (by kernel_rfl) (by kernel_rfl) (fun _ _ _ h => h) ⟨by rfl, ?_⟩ hS ?_
      rotate_left
      · intro wq hSw; go_simp; try rfl
      simp only [Act.put, List.setIfInBounds_toArray, List.set_cons_zero, List.set_cons_succ]
      refine take_at 5 (some 34) (v := ?_) rfl rfl (by kernel_rfl) (by kernel_rfl) (by kernel_rfl) (fun _ _ _ h => h) ⟨by rfl, ?_⟩ hS ?_
      rotate_left
      · intro wq hSw; go_simp; try rfl
      simp only [Act.put, List.setIfInBounds_toArray, List.set_cons_zero, List.set_cons_succ]
      refine take_at 6 (some 35) (v := ?_) rfl rfl (by kernel_rfl) (by kernel_rfl) (by kernel_rfl) (fun _ _ _ h => h) ⟨by rfl, ?_⟩ hS ?_
      rotate_left
      · intro wq hSw; have q9 := hr.cell (RB2.out.keep hSw (by have := BX.out; intro e; omega)) hr.c9; go_simp; try rfl
      simp only [Act.put, List.setIfInBounds_toArray, List.set_cons_zero, List.set_cons_succ]
      refine wpAnyH_ready (rs := [7]) (by kernel_rfl) (by simp) ?_
      refine AllReadyH.cons rfl (fun K hK => ?_) AllReadyH.nil
      refine wp_del (.tmp 32) (.tmp 35) rfl rfl rfl rfl HR.out ?_
      refine hK.out _ _ K5.out (fun hS => ?_)
      clear hK K
      (try simp only [Act.put, List.setIfInBounds_toArray, List.set_cons_zero, List.set_cons_succ])
      refine wpAnyH_done (by kernel_rfl) ?_ _
      go_wp2_with fail
      go_ret
      exact ⟨rfl, FIN.out w5 K5.out HA5.out, (Keep.of_below (S := fun z => z = m) K2.out).trans K5.out (fun _ _ q => q)⟩
    · have e0 : E = 60 := by rw [HE2.out, if_neg (by simpa [sameHd] using hq)]
      go_upto_if 28 with fail
      all_goals first | (exfalso; exact hq ⟨by assumption, ⟨by assumption, by assumption⟩, by assumption, by assumption⟩) | (go_wp2_with fail; go_ret; exact ⟨rfl, PB2.out.below D9.out, (Keep.of_below K2.out).trans (Keep.of_below (S := fun _ => False) D9.out) (fun _ _ q => q.elim)⟩)
end Go.Proofs.YtehbpmibllpkhaaGreatDoor
