import Derived.Test.YtblngphjoafidaaGreatTx2
namespace Go.Proofs.YtblngphjoafidaaGreat
open Go.RowKit Go.QK Go.Maps Go.QM Go.QT
set_option maxRecDepth 100000
set_option maxHeartbeats 2000000 in
theorem commits_any (b m : Nat) (t : TbM) (rc : Array Value) (lsn k tx prev : Int) (x : Lv) (w : World) (h : PT w b m t) (hr : RecA rc lsn k tx prev) (hg : getT t.L tx = some x) (hok : TbM.Ok ⟨setT t.L ⟨tx, lsn, true, false⟩, t.next⟩) : Calls Tryz.prog 69 #[ptr b, .agg rc] w fun r w' => r = .returned (.tuple #[]) ∧ PT w' b m ⟨setT t.L ⟨tx, lsn, true, false⟩, t.next⟩ ∧ Keep (fun z => z = b ∨ z = m) w w' := by
  have hx := hr.i2
  have HSET := hide (putM_set (v := ⟨tx, lsn, true, false⟩) h.ok.rise hg)
  have HOK := hide hok
  clear hok hg
  go_enter Tryz.func69, Tryz.ntmps69
  go_upto_region 1 with fail
  refine named (P := Code.wp _ _ _ _) ?_
  intro w1 hw1
  obtain ⟨rb, hrb⟩ : ∃ rb, rb = w.heap.size := ⟨_, rfl⟩
  have HP := hide (show PT w1 b m t by rw [hw1]; exact h.below (alloc_below _ _))
  have HX := hide (show RBox w1 rb 55 rc by rw [hw1, hrb]; exact RBox.new _ _ _)
  have HB := hide (show Below w.heap.size w w1 by rw [hw1]; exact alloc_below _ _)
  have HN := hide (show ¬ rb = m by have := h.lt; omega)
  have HA := hide hr
  rw [← hrb]
  clear hw1 hrb h hr
  refine wp_region_held_drew (S := fun wq => Keep (fun z => z = m) w1 wq) (by kernel_rfl) (Keep.refl _ _).drew (fun hS => ?_)
  refine take_at 0 (some 4) (v := ?_) rfl rfl (by kernel_rfl) (by kernel_rfl) (by kernel_rfl) (fun _ _ _ h => h) ⟨by rfl, ?_⟩ hS ?_
  rotate_left
  · intro wq hSw; go_simp; try rfl
  simp only [Act.put, List.setIfInBounds_toArray, List.set_cons_zero, List.set_cons_succ]
  refine take_at 1 (some 5) (v := ?_) rfl rfl (by kernel_rfl) (by kernel_rfl) (by kernel_rfl) (fun _ _ _ h => h) ⟨by rfl, ?_⟩ hS ?_
  rotate_left
  · intro wq hSw; go_simp; try rfl
  simp only [Act.put, List.setIfInBounds_toArray, List.set_cons_zero, List.set_cons_succ]
  refine take_at 2 (some 6) (v := ?_) rfl rfl (by kernel_rfl) (by kernel_rfl) (by kernel_rfl) (fun _ _ _ h => h) ⟨by rfl, ?_⟩ hS ?_
  rotate_left
  · intro wq hSw; go_simp; try rfl
  simp only [Act.put, List.setIfInBounds_toArray, List.set_cons_zero, List.set_cons_succ]
  refine take_at 3 (some 7) (v := ?_) rfl rfl (by kernel_rfl) (by kernel_rfl) (by kernel_rfl) (fun _ _ _ h => h) ⟨by rfl, ?_⟩ hS ?_
  rotate_left
  · intro wq hSw; have q := ((HP.out.box.keep hSw HP.out.ne).get 0 _ rfl).1; go_simp; try rfl
  simp only [Act.put, List.setIfInBounds_toArray, List.set_cons_zero, List.set_cons_succ]
  refine take_at 4 (some 8) (v := ?_) rfl rfl (by kernel_rfl) (by kernel_rfl) (by kernel_rfl) (fun _ _ _ h => h) ⟨by rfl, ?_⟩ hS ?_
  rotate_left
  · intro wq hSw; go_simp; try rfl
  simp only [Act.put, List.setIfInBounds_toArray, List.set_cons_zero, List.set_cons_succ]
  refine take_at 5 (some 9) (v := ?_) rfl rfl (by kernel_rfl) (by kernel_rfl) (by kernel_rfl) (fun _ _ _ h => h) ⟨by rfl, ?_⟩ hS ?_
  rotate_left
  · intro wq hSw; have q := (HA.out.box (HX.out.keep hSw HN.out)).2.2.1; go_simp; try rfl
  simp only [Act.put, List.setIfInBounds_toArray, List.set_cons_zero, List.set_cons_succ]
  refine take_at 6 (some 10) (v := ?_) rfl rfl (by kernel_rfl) (by kernel_rfl) (by kernel_rfl) (fun _ _ _ h => h) ⟨by rfl, ?_⟩ hS ?_
  rotate_left
  · intro wq hSw; go_simp; try rfl
  simp only [Act.put, List.setIfInBounds_toArray, List.set_cons_zero, List.set_cons_succ]
  refine take_at 7 (some 11) (v := ?_) rfl rfl (by kernel_rfl) (by kernel_rfl) (by kernel_rfl) (fun _ _ _ h => h) ⟨by rfl, ?_⟩ hS ?_
  rotate_left
  · intro wq hSw; have q := (HA.out.box (HX.out.keep hSw HN.out)).2.2.1; go_simp; try rfl
  simp only [Act.put, List.setIfInBounds_toArray, List.set_cons_zero, List.set_cons_succ]
  refine take_at 8 (some 12) (v := ?_) rfl rfl (by kernel_rfl) (by kernel_rfl) (by kernel_rfl) (fun _ _ _ h => h) ⟨by rfl, ?_⟩ hS ?_
  rotate_left
  · intro wq hSw; go_simp; try rfl
  simp only [Act.put, List.setIfInBounds_toArray, List.set_cons_zero, List.set_cons_succ]
  refine take_at 9 (some 13) (v := ?_) rfl rfl (by kernel_rfl) (by kernel_rfl) (by kernel_rfl) (fun _ _ _ h => h) ⟨by rfl, ?_⟩ hS ?_
  rotate_left
  · intro wq hSw; have q := (HA.out.box (HX.out.keep hSw HN.out)).1; go_simp; try rfl
  simp only [Act.put, List.setIfInBounds_toArray, List.set_cons_zero, List.set_cons_succ]
  refine take_at 10 (some 14) (v := ?_) rfl rfl (by kernel_rfl) (by kernel_rfl) (by kernel_rfl) (fun _ _ _ h => h) ⟨by rfl, ?_⟩ hS ?_
  rotate_left
  · intro wq hSw; go_simp; try rfl
  simp only [Act.put, List.setIfInBounds_toArray, List.set_cons_zero, List.set_cons_succ]
  have HD := HP.out.below (Below.refl w1.heap.size w1).drew
  obtain ⟨w2, hu, hAn, hgr⟩ := any_upd lawK Tryz.underlying96 HD.mp (prT_up HD.ok.rise) (keyI hx) (by rw [prT_len]; have := HD.ok.few; omega) (lvV ⟨tx, lsn, true, false⟩)
  have FIN := hide (show PT w2 b m ⟨setT t.L ⟨tx, lsn, true, false⟩, t.next⟩ from ⟨HD.box.keep (keepM hgr) HD.ne, by have := hAn; rw [HSET.out] at this; exact this, HOK.out⟩)
  have KK := hide ((Keep.of_below (S := fun z => z = b ∨ z = m) (HB.out.trans ((Below.refl w1.heap.size w1).drew.mono HB.out.size))).trans (keepM hgr) (fun _ _ q => .inr q))
  have S2 := hide (hS.trans (keepM hgr) (fun _ _ q => q))
  have HU := hide hu
  clear hu hAn HD hgr
  refine wpAnyH_ready (rs := [11]) (by kernel_rfl) (by simp) ?_
  refine AllReadyH.cons rfl (fun K hK => ?_) AllReadyH.nil
  refine wp_upd (.tmp 7) (.tmp 9) (.tmp 14) rfl rfl rfl rfl rfl HU.out ?_
  refine hK.out _ _ S2.out (fun hS => ?_)
  clear hK K
  (try simp only [Act.put])
  refine wpAnyH_done (by kernel_rfl) ?_ _
  go_wp2_with fail
  go_end0
  exact ⟨rfl, FIN.out, KK.out⟩
set_option maxHeartbeats 2000000 in
theorem turnsBack_any (b m : Nat) (t : TbM) (rc : Array Value) (lsn k tx prev : Int) (x : Lv) (w : World) (h : PT w b m t) (hr : RecA rc lsn k tx prev) (hg : getT t.L tx = some x) (hok : TbM.Ok ⟨setT t.L ⟨tx, lsn, false, true⟩, t.next⟩) : Calls Tryz.prog 70 #[ptr b, .agg rc] w fun r w' => r = .returned (.tuple #[]) ∧ PT w' b m ⟨setT t.L ⟨tx, lsn, false, true⟩, t.next⟩ ∧ Keep (fun z => z = b ∨ z = m) w w' := by
  have hx := hr.i2
  have HSET := hide (putM_set (v := ⟨tx, lsn, false, true⟩) h.ok.rise hg)
  have HOK := hide hok
  clear hok hg
  go_enter Tryz.func70, Tryz.ntmps70
  go_upto_region 1 with fail
  refine named (P := Code.wp _ _ _ _) ?_
  intro w1 hw1
  obtain ⟨rb, hrb⟩ : ∃ rb, rb = w.heap.size := ⟨_, rfl⟩
  have HP := hide (show PT w1 b m t by rw [hw1]; exact h.below (alloc_below _ _))
  have HX := hide (show RBox w1 rb 55 rc by rw [hw1, hrb]; exact RBox.new _ _ _)
  have HB := hide (show Below w.heap.size w w1 by rw [hw1]; exact alloc_below _ _)
  have HN := hide (show ¬ rb = m by have := h.lt; omega)
  have HA := hide hr
  rw [← hrb]
  clear hw1 hrb h hr
  refine wp_region_held_drew (S := fun wq => Keep (fun z => z = m) w1 wq) (by kernel_rfl) (Keep.refl _ _).drew (fun hS => ?_)
  refine take_at 0 (some 4) (v := ?_) rfl rfl (by kernel_rfl) (by kernel_rfl) (by kernel_rfl) (fun _ _ _ h => h) ⟨by rfl, ?_⟩ hS ?_
  rotate_left
  · intro wq hSw; go_simp; try rfl
  simp only [Act.put, List.setIfInBounds_toArray, List.set_cons_zero, List.set_cons_succ]
  refine take_at 1 (some 5) (v := ?_) rfl rfl (by kernel_rfl) (by kernel_rfl) (by kernel_rfl) (fun _ _ _ h => h) ⟨by rfl, ?_⟩ hS ?_
  rotate_left
  · intro wq hSw; go_simp; try rfl
  simp only [Act.put, List.setIfInBounds_toArray, List.set_cons_zero, List.set_cons_succ]
  refine take_at 2 (some 6) (v := ?_) rfl rfl (by kernel_rfl) (by kernel_rfl) (by kernel_rfl) (fun _ _ _ h => h) ⟨by rfl, ?_⟩ hS ?_
  rotate_left
  · intro wq hSw; go_simp; try rfl
  simp only [Act.put, List.setIfInBounds_toArray, List.set_cons_zero, List.set_cons_succ]
  refine take_at 3 (some 7) (v := ?_) rfl rfl (by kernel_rfl) (by kernel_rfl) (by kernel_rfl) (fun _ _ _ h => h) ⟨by rfl, ?_⟩ hS ?_
  rotate_left
  · intro wq hSw; have q := ((HP.out.box.keep hSw HP.out.ne).get 0 _ rfl).1; go_simp; try rfl
  simp only [Act.put, List.setIfInBounds_toArray, List.set_cons_zero, List.set_cons_succ]
  refine take_at 4 (some 8) (v := ?_) rfl rfl (by kernel_rfl) (by kernel_rfl) (by kernel_rfl) (fun _ _ _ h => h) ⟨by rfl, ?_⟩ hS ?_
  rotate_left
  · intro wq hSw; go_simp; try rfl
  simp only [Act.put, List.setIfInBounds_toArray, List.set_cons_zero, List.set_cons_succ]
  refine take_at 5 (some 9) (v := ?_) rfl rfl (by kernel_rfl) (by kernel_rfl) (by kernel_rfl) (fun _ _ _ h => h) ⟨by rfl, ?_⟩ hS ?_
  rotate_left
  · intro wq hSw; have q := (HA.out.box (HX.out.keep hSw HN.out)).2.2.1; go_simp; try rfl
  simp only [Act.put, List.setIfInBounds_toArray, List.set_cons_zero, List.set_cons_succ]
  refine take_at 6 (some 10) (v := ?_) rfl rfl (by kernel_rfl) (by kernel_rfl) (by kernel_rfl) (fun _ _ _ h => h) ⟨by rfl, ?_⟩ hS ?_
  rotate_left
  · intro wq hSw; go_simp; try rfl
  simp only [Act.put, List.setIfInBounds_toArray, List.set_cons_zero, List.set_cons_succ]
  refine take_at 7 (some 11) (v := ?_) rfl rfl (by kernel_rfl) (by kernel_rfl) (by kernel_rfl) (fun _ _ _ h => h) ⟨by rfl, ?_⟩ hS ?_
  rotate_left
  · intro wq hSw; have q := (HA.out.box (HX.out.keep hSw HN.out)).2.2.1; go_simp; try rfl
  simp only [Act.put, List.setIfInBounds_toArray, List.set_cons_zero, List.set_cons_succ]
  refine take_at 8 (some 12) (v := ?_) rfl rfl (by kernel_rfl) (by kernel_rfl) (by kernel_rfl) (fun _ _ _ h => h) ⟨by rfl, ?_⟩ hS ?_
  rotate_left
  · intro wq hSw; go_simp; try rfl
  simp only [Act.put, List.setIfInBounds_toArray, List.set_cons_zero, List.set_cons_succ]
  refine take_at 9 (some 13) (v := ?_) rfl rfl (by kernel_rfl) (by kernel_rfl) (by kernel_rfl) (fun _ _ _ h => h) ⟨by rfl, ?_⟩ hS ?_
  rotate_left
  · intro wq hSw; have q := (HA.out.box (HX.out.keep hSw HN.out)).1; go_simp; try rfl
  simp only [Act.put, List.setIfInBounds_toArray, List.set_cons_zero, List.set_cons_succ]
  refine take_at 10 (some 14) (v := ?_) rfl rfl (by kernel_rfl) (by kernel_rfl) (by kernel_rfl) (fun _ _ _ h => h) ⟨by rfl, ?_⟩ hS ?_
  rotate_left
  · intro wq hSw; go_simp; try rfl
  simp only [Act.put, List.setIfInBounds_toArray, List.set_cons_zero, List.set_cons_succ]
  have HD := HP.out.below (Below.refl w1.heap.size w1).drew
  obtain ⟨w2, hu, hAn, hgr⟩ := any_upd lawK Tryz.underlying96 HD.mp (prT_up HD.ok.rise) (keyI hx) (by rw [prT_len]; have := HD.ok.few; omega) (lvV ⟨tx, lsn, false, true⟩)
  have FIN := hide (show PT w2 b m ⟨setT t.L ⟨tx, lsn, false, true⟩, t.next⟩ from ⟨HD.box.keep (keepM hgr) HD.ne, by have := hAn; rw [HSET.out] at this; exact this, HOK.out⟩)
  have KK := hide ((Keep.of_below (S := fun z => z = b ∨ z = m) (HB.out.trans ((Below.refl w1.heap.size w1).drew.mono HB.out.size))).trans (keepM hgr) (fun _ _ q => .inr q))
  have S2 := hide (hS.trans (keepM hgr) (fun _ _ q => q))
  have HU := hide hu
  clear hu hAn HD hgr
  refine wpAnyH_ready (rs := [11]) (by kernel_rfl) (by simp) ?_
  refine AllReadyH.cons rfl (fun K hK => ?_) AllReadyH.nil
  refine wp_upd (.tmp 7) (.tmp 9) (.tmp 14) rfl rfl rfl rfl rfl HU.out ?_
  refine hK.out _ _ S2.out (fun hS => ?_)
  clear hK K
  (try simp only [Act.put])
  refine wpAnyH_done (by kernel_rfl) ?_ _
  go_wp2_with fail
  go_end0
  exact ⟨rfl, FIN.out, KK.out⟩
set_option maxHeartbeats 2000000 in
theorem ends_any (b m : Nat) (t : TbM) (rc : Array Value) (lsn k tx prev : Int) (w : World) (h : PT w b m t) (hr : RecA rc lsn k tx prev) : Calls Tryz.prog 72 #[ptr b, .agg rc] w fun r w' => r = .returned (.tuple #[]) ∧ PT w' b m ⟨delT t.L tx, t.next⟩ ∧ Keep (fun z => z = b ∨ z = m) w w' := by
  have hx := hr.i2
  have HOK := hide (show TbM.Ok ⟨delT t.L tx, t.next⟩ from ⟨h.ok.n1, h.ok.n2, Nat.le_trans (List.length_filter_le _ _) h.ok.few, h.ok.rise.del tx, fun y hy => h.ok.each y (List.mem_filter.1 hy).1⟩)
  go_enter Tryz.func72, Tryz.ntmps72
  go_upto_region 1 with fail
  refine named (P := Code.wp _ _ _ _) ?_
  intro w1 hw1
  obtain ⟨rb, hrb⟩ : ∃ rb, rb = w.heap.size := ⟨_, rfl⟩
  have HP := hide (show PT w1 b m t by rw [hw1]; exact h.below (alloc_below _ _))
  have HX := hide (show RBox w1 rb 55 rc by rw [hw1, hrb]; exact RBox.new _ _ _)
  have HB := hide (show Below w.heap.size w w1 by rw [hw1]; exact alloc_below _ _)
  have HN := hide (show ¬ rb = m by have := h.lt; omega)
  have HA := hide hr
  rw [← hrb]
  clear hw1 hrb h hr
  refine wp_region_held_drew (S := fun wq => Keep (fun z => z = m) w1 wq) (by kernel_rfl) (Keep.refl _ _).drew (fun hS => ?_)
  refine take_at 0 (some 4) (v := ?_) rfl rfl (by kernel_rfl) (by kernel_rfl) (by kernel_rfl) (fun _ _ _ h => h) ⟨by rfl, ?_⟩ hS ?_
  rotate_left
  · intro wq hSw; go_simp; try rfl
  simp only [Act.put, List.setIfInBounds_toArray, List.set_cons_zero, List.set_cons_succ]
  refine take_at 1 (some 5) (v := ?_) rfl rfl (by kernel_rfl) (by kernel_rfl) (by kernel_rfl) (fun _ _ _ h => h) ⟨by rfl, ?_⟩ hS ?_
  rotate_left
  · intro wq hSw; go_simp; try rfl
  simp only [Act.put, List.setIfInBounds_toArray, List.set_cons_zero, List.set_cons_succ]
  refine take_at 2 (some 6) (v := ?_) rfl rfl (by kernel_rfl) (by kernel_rfl) (by kernel_rfl) (fun _ _ _ h => h) ⟨by rfl, ?_⟩ hS ?_
  rotate_left
  · intro wq hSw; go_simp; try rfl
  simp only [Act.put, List.setIfInBounds_toArray, List.set_cons_zero, List.set_cons_succ]
  refine take_at 3 (some 7) (v := ?_) rfl rfl (by kernel_rfl) (by kernel_rfl) (by kernel_rfl) (fun _ _ _ h => h) ⟨by rfl, ?_⟩ hS ?_
  rotate_left
  · intro wq hSw; have q := ((HP.out.box.keep hSw HP.out.ne).get 0 _ rfl).1; go_simp; try rfl
  simp only [Act.put, List.setIfInBounds_toArray, List.set_cons_zero, List.set_cons_succ]
  refine take_at 4 (some 8) (v := ?_) rfl rfl (by kernel_rfl) (by kernel_rfl) (by kernel_rfl) (fun _ _ _ h => h) ⟨by rfl, ?_⟩ hS ?_
  rotate_left
  · intro wq hSw; go_simp; try rfl
  simp only [Act.put, List.setIfInBounds_toArray, List.set_cons_zero, List.set_cons_succ]
  refine take_at 5 (some 9) (v := ?_) rfl rfl (by kernel_rfl) (by kernel_rfl) (by kernel_rfl) (fun _ _ _ h => h) ⟨by rfl, ?_⟩ hS ?_
  rotate_left
  · intro wq hSw; have q := (HA.out.box (HX.out.keep hSw HN.out)).2.2.1; go_simp; try rfl
  simp only [Act.put, List.setIfInBounds_toArray, List.set_cons_zero, List.set_cons_succ]
  have HD := HP.out.below (Below.refl w1.heap.size w1).drew
  obtain ⟨w2, hu, hAn, hgr⟩ := any_del lawK Tryz.underlying96 HD.mp (keyI hx) 0
  have FIN := hide (show PT w2 b m ⟨delT t.L tx, t.next⟩ from ⟨HD.box.keep (keepM hgr) HD.ne, by have := hAn; rw [delM_prT] at this; exact this, HOK.out⟩)
  have KK := hide ((Keep.of_below (S := fun z => z = b ∨ z = m) (HB.out.trans ((Below.refl w1.heap.size w1).drew.mono HB.out.size))).trans (keepM hgr) (fun _ _ q => .inr q))
  have S2 := hide (hS.trans (keepM hgr) (fun _ _ q => q))
  have HU := hide hu
  clear hu hAn HD hgr
  refine wpAnyH_ready (rs := [6]) (by kernel_rfl) (by simp) ?_
  refine AllReadyH.cons rfl (fun K hK => ?_) AllReadyH.nil
  refine wp_del (.tmp 7) (.tmp 9) rfl rfl rfl rfl HU.out ?_
  refine hK.out _ _ S2.out (fun hS => ?_)
  clear hK K
  (try simp only [Act.put])
  refine wpAnyH_done (by kernel_rfl) ?_ _
  go_wp2_with fail
  go_end0
  exact ⟨rfl, FIN.out, KK.out⟩
set_option maxHeartbeats 2000000 in
theorem goesOn_any (b m : Nat) (t : TbM) (rc : Array Value) (lsn k tx prev : Int) (x : Lv) (w : World) (h : PT w b m t) (hr : RecA rc lsn k tx prev) (hg : getT t.L tx = some x) (hok : TbM.Ok ⟨setT t.L ⟨x.tx, lsn, x.com, x.und⟩, t.next⟩) : Calls Tryz.prog 67 #[ptr b, .agg rc] w fun r w' => r = .returned (.tuple #[]) ∧ PT w' b m ⟨setT t.L ⟨x.tx, lsn, x.com, x.und⟩, t.next⟩ ∧ Keep (fun z => z = b ∨ z = m) w w' := by
  have hx := hr.i2
  have htx : tx = x.tx := (getT_mem hg).2.symm
  subst htx
  have HSET := hide (putM_set (v := ⟨x.tx, lsn, x.com, x.und⟩) h.ok.rise hg)
  have HOK := hide hok
  have HG := hide hg
  clear hok hg
  go_enter Tryz.func67, Tryz.ntmps67
  go_upto_region 1 with fail
  refine named (P := Code.wp _ _ _ _) ?_
  intro w1 hw1
  obtain ⟨rb, hrb⟩ : ∃ rb, rb = w.heap.size := ⟨_, rfl⟩
  have HP := hide (show PT w1 b m t by rw [hw1]; exact h.below (alloc_below _ _))
  have HX := hide (show RBox w1 rb 55 rc by rw [hw1, hrb]; exact RBox.new _ _ _)
  have HB := hide (show Below w.heap.size w w1 by rw [hw1]; exact alloc_below _ _)
  have HN := hide (show ¬ rb = m by have := h.lt; omega)
  have HA := hide hr
  rw [← hrb]
  clear hw1 hrb h hr
  refine wp_region_held_drew (S := fun wq => Below w1.heap.size w1 wq) (by kernel_rfl) (Below.refl _ _).drew (fun hS => ?_)
  refine take_at 0 (some 5) (v := ?_) rfl rfl (by kernel_rfl) (by kernel_rfl) (by kernel_rfl) (fun _ _ _ h => h) ⟨by rfl, ?_⟩ hS ?_
  rotate_left
  · intro wq hSw; go_simp; try rfl
  simp only [Act.put, List.setIfInBounds_toArray, List.set_cons_zero, List.set_cons_succ]
  refine take_at 1 (some 6) (v := ?_) rfl rfl (by kernel_rfl) (by kernel_rfl) (by kernel_rfl) (fun _ _ _ h => h) ⟨by rfl, ?_⟩ hS ?_
  rotate_left
  · intro wq hSw; go_simp; try rfl
  simp only [Act.put, List.setIfInBounds_toArray, List.set_cons_zero, List.set_cons_succ]
  refine take_at 2 (some 7) (v := ?_) rfl rfl (by kernel_rfl) (by kernel_rfl) (by kernel_rfl) (fun _ _ _ h => h) ⟨by rfl, ?_⟩ hS ?_
  rotate_left
  · intro wq hSw; go_simp; try rfl
  simp only [Act.put, List.setIfInBounds_toArray, List.set_cons_zero, List.set_cons_succ]
  refine take_at 3 (some 8) (v := ?_) rfl rfl (by kernel_rfl) (by kernel_rfl) (by kernel_rfl) (fun _ _ _ h => h) ⟨by rfl, ?_⟩ hS ?_
  rotate_left
  · intro wq hSw; have q := ((HP.out.below hSw).box.get 0 _ rfl).1; go_simp; try rfl
  simp only [Act.put, List.setIfInBounds_toArray, List.set_cons_zero, List.set_cons_succ]
  refine take_at 4 (some 9) (v := ?_) rfl rfl (by kernel_rfl) (by kernel_rfl) (by kernel_rfl) (fun _ _ _ h => h) ⟨by rfl, ?_⟩ hS ?_
  rotate_left
  · intro wq hSw; go_simp; try rfl
  simp only [Act.put, List.setIfInBounds_toArray, List.set_cons_zero, List.set_cons_succ]
  refine take_at 5 (some 10) (v := ?_) rfl rfl (by kernel_rfl) (by kernel_rfl) (by kernel_rfl) (fun _ _ _ h => h) ⟨by rfl, ?_⟩ hS ?_
  rotate_left
  · intro wq hSw; have q := (HA.out.box (HX.out.below hSw)).2.2.1; go_simp; try rfl
  simp only [Act.put, List.setIfInBounds_toArray, List.set_cons_zero, List.set_cons_succ]
  refine take_at 6 (some 11) (v := ?_) rfl rfl (by kernel_rfl) (by kernel_rfl) (by kernel_rfl) (fun _ _ _ h => h) ⟨by rfl, ?_⟩ hS ?_
  rotate_left
  · intro wq hSw; have q := (HP.out.below hSw).look hx; rw [HG.out] at q; simp only [Option.map_some, Option.getD_some, lvV] at q; go_simp; try rfl
  simp only [Act.put, List.setIfInBounds_toArray, List.set_cons_zero, List.set_cons_succ]
  have D1 := hide hS
  clear hS
  have s1 := (Below.refl w1.heap.size w1).drew
  generalize w1.drew = x1 at *
  refine wpAnyH_ready (rs := [7]) (by kernel_rfl) (by simp) ?_
  refine AllReadyH.cons rfl (fun K hK => ?_) AllReadyH.nil
  go_simp
  go_wp2_with fail
  refine hK.out _ _ (D1.out.alloc D1.out.size _) (fun hS => ?_)
  clear hK K hS
  (try simp only [Act.put, List.setIfInBounds_toArray, List.set_cons_zero, List.set_cons_succ])
  refine wpAnyH_ready (rs := [8]) (by kernel_rfl) (by simp) ?_
  refine AllReadyH.cons rfl (fun K hK => ?_) AllReadyH.nil
  go_simp
  go_wp2_with fail
  refine hK.out _ _ (D1.out.alloc D1.out.size _) (fun hS => ?_)
  clear hK K hS
  (try simp only [Act.put])
  refine wpAnyH_done (by kernel_rfl) ?_ _
  have b1 := alloc_below x1 (.cells #[.int .i64 x.tx, .int .i64 x.last, .bool x.com, .bool x.und] 58)
  have y0 := (HA.out.box ((HX.out.below D1.out).below b1)).1
  clear b1
  go_upto_region 3 with fail
  refine named (P := Code.wp _ _ _ _) ?_
  intro w3 hw3
  have HB3 := hide (show Below w1.heap.size w1 w3 by rw [hw3]; exact D1.out.alloc D1.out.size _)
  have C3 := hide (show Cells w3 x1.heap.size [.int .i64 x.tx, .int .i64 lsn, .bool x.com, .bool x.und] by rw [hw3]; exact Cells.new _ _ _)
  have L3 := hide (show ¬ x1.heap.size = m by have := HP.out.lt; have := D1.out.size; omega)
  clear hw3 y0 s1
  generalize x1.heap.size = xb at *
  clear D1
  have HP1 := HP
  have HX1 := HX
  have HB1 := HB
  clear HP HX HB
  have HP := hide (HP1.out.below HB3.out)
  have HX := hide (HX1.out.below HB3.out)
  have HB := hide (HB1.out.trans (HB3.out.mono HB1.out.size))
  clear HP1 HX1 HB1 HB3 x1 w1
  refine wp_region_held_drew (S := fun wq => Keep (fun z => z = m) w3 wq) (by kernel_rfl) (Keep.refl _ _).drew (fun hS => ?_)
  refine take_at 0 (some 15) (v := ?_) rfl rfl (by kernel_rfl) (by kernel_rfl) (by kernel_rfl) (fun _ _ _ h => h) ⟨by rfl, ?_⟩ hS ?_
  rotate_left
  · intro wq hSw; go_simp; try rfl
  simp only [Act.put, List.setIfInBounds_toArray, List.set_cons_zero, List.set_cons_succ]
  refine take_at 1 (some 16) (v := ?_) rfl rfl (by kernel_rfl) (by kernel_rfl) (by kernel_rfl) (fun _ _ _ h => h) ⟨by rfl, ?_⟩ hS ?_
  rotate_left
  · intro wq hSw; go_simp; try rfl
  simp only [Act.put, List.setIfInBounds_toArray, List.set_cons_zero, List.set_cons_succ]
  refine take_at 2 (some 17) (v := ?_) rfl rfl (by kernel_rfl) (by kernel_rfl) (by kernel_rfl) (fun _ _ _ h => h) ⟨by rfl, ?_⟩ hS ?_
  rotate_left
  · intro wq hSw; go_simp; try rfl
  simp only [Act.put, List.setIfInBounds_toArray, List.set_cons_zero, List.set_cons_succ]
  refine take_at 3 (some 18) (v := ?_) rfl rfl (by kernel_rfl) (by kernel_rfl) (by kernel_rfl) (fun _ _ _ h => h) ⟨by rfl, ?_⟩ hS ?_
  rotate_left
  · intro wq hSw; have q := ((HP.out.box.keep hSw HP.out.ne).get 0 _ rfl).1; go_simp; try rfl
  simp only [Act.put, List.setIfInBounds_toArray, List.set_cons_zero, List.set_cons_succ]
  refine take_at 4 (some 19) (v := ?_) rfl rfl (by kernel_rfl) (by kernel_rfl) (by kernel_rfl) (fun _ _ _ h => h) ⟨by rfl, ?_⟩ hS ?_
  rotate_left
  · intro wq hSw; go_simp; try rfl
  simp only [Act.put, List.setIfInBounds_toArray, List.set_cons_zero, List.set_cons_succ]
  refine take_at 5 (some 20) (v := ?_) rfl rfl (by kernel_rfl) (by kernel_rfl) (by kernel_rfl) (fun _ _ _ h => h) ⟨by rfl, ?_⟩ hS ?_
  rotate_left
  · intro wq hSw; have q := (HA.out.box (HX.out.keep hSw HN.out)).2.2.1; go_simp; try rfl
  simp only [Act.put, List.setIfInBounds_toArray, List.set_cons_zero, List.set_cons_succ]
  refine take_at 6 (some 21) (v := ?_) rfl rfl (by kernel_rfl) (by kernel_rfl) (by kernel_rfl) (fun _ _ _ h => h) ⟨by rfl, ?_⟩ hS ?_
  rotate_left
  · intro wq hSw; have qq := C3.out.keep hSw L3.out; obtain ⟨q0, _⟩ := qq.get 0 _ rfl; obtain ⟨q1, _⟩ := qq.get 1 _ rfl; obtain ⟨q2, _⟩ := qq.get 2 _ rfl; obtain ⟨q3, _⟩ := qq.get 3 _ rfl; clear qq; go_simp; try rfl
  simp only [Act.put, List.setIfInBounds_toArray, List.set_cons_zero, List.set_cons_succ]
  have HD := HP.out.below (Below.refl w3.heap.size w3).drew
  obtain ⟨w2, hu, hAn, hgr⟩ := any_upd lawK Tryz.underlying96 HD.mp (prT_up HD.ok.rise) (keyI hx) (by rw [prT_len]; have := HD.ok.few; omega) (lvV ⟨x.tx, lsn, x.com, x.und⟩)
  have FIN := hide (show PT w2 b m ⟨setT t.L ⟨x.tx, lsn, x.com, x.und⟩, t.next⟩ from ⟨HD.box.keep (keepM hgr) HD.ne, by have := hAn; rw [HSET.out] at this; exact this, HOK.out⟩)
  have KK := hide ((Keep.of_below (S := fun z => z = b ∨ z = m) (HB.out.trans ((Below.refl w3.heap.size w3).drew.mono HB.out.size))).trans (keepM hgr) (fun _ _ q => .inr q))
  have S2 := hide (hS.trans (keepM hgr) (fun _ _ q => q))
  have HU := hide hu
  clear hu hAn HD hgr
  refine wpAnyH_ready (rs := [7]) (by kernel_rfl) (by simp) ?_
  refine AllReadyH.cons rfl (fun K hK => ?_) AllReadyH.nil
  refine wp_upd (.tmp 18) (.tmp 20) (.tmp 21) rfl rfl rfl rfl rfl HU.out ?_
  refine hK.out _ _ S2.out (fun hS => ?_)
  clear hK K
  (try simp only [Act.put])
  refine wpAnyH_done (by kernel_rfl) ?_ _
  go_wp2_with fail
  go_end0
  exact ⟨rfl, FIN.out, KK.out⟩
set_option maxHeartbeats 2000000 in
theorem begins_any (b m : Nat) (t : TbM) (rc : Array Value) (lsn k tx prev : Int) (w : World) (h : PT w b m t) (hr : RecA rc lsn k tx prev) (h1 : isLsn lsn = true) (h2 : t.full = false) : Calls Tryz.prog 62 #[ptr b, .agg rc] w fun r w' => r = .returned (.tuple #[]) ∧ PT w' b m (t.begun lsn) ∧ Keep (fun z => z = b ∨ z = m) w w' := by
  have K := begin_any b m t lsn (w.alloc (.cells rc 55)) (h.below (alloc_below _ _)) h1 h2
  have y0 := (hr.box (RBox.new w rc 55)).1
  have hb := alloc_below w (.cells rc 55)
  have HB := hide hb
  clear h hr hb
  go_enter Tryz.func62, Tryz.ntmps62
  go_wp2_with (go_at_call 85; refine K.mono ?_; rintro e w2 ⟨rfl, p2, k2⟩)
  go_end0
  exact ⟨rfl, p2, (Keep.of_below (S := fun z => z = b ∨ z = m) HB.out).trans k2 (fun _ _ q => q)⟩
set_option maxHeartbeats 2000000 in
theorem unlessNext_any (b m : Nat) (t : TbM) (rc : Array Value) (lsn k tx prev : Int) (w : World) (h : PT w b m t) (hr : RecA rc lsn k tx prev) : Calls Tryz.prog 61 #[ptr b, .agg rc] w fun r w' => r = .returned (.int .i64 (t.nextE tx)) ∧ Below w.heap.size w w' := by
  unfold TbM.nextE
  have K := fun w' (h : PT w' b m t) => full_any b m t w' h
  cases hf : t.full
  all_goals by_cases hq : tx = t.next
  all_goals rw [hf] at K
  all_goals first | rw [if_pos hq] | rw [if_neg hq]
  all_goals try simp only [if_true, Bool.false_eq_true, if_false]
  · have hd : (tx != t.next) = false := by simpa using hq
    go_enter Tryz.func61, Tryz.ntmps61
    go_upto_region 1 with fail
    refine named (P := Code.wp _ _ _ _) ?_
    intro w1 hw1
    obtain ⟨rb, hrb⟩ : ∃ rb, rb = w.heap.size := ⟨_, rfl⟩
    have HP := hide (show PT w1 b m t by rw [hw1]; exact h.below (alloc_below _ _))
    have HX := hide (show RBox w1 rb 55 rc by rw [hw1, hrb]; exact RBox.new _ _ _)
    have HB := hide (show Below w.heap.size w w1 by rw [hw1]; exact alloc_below _ _)
    have HN := hide (show ¬ rb = m by have := h.lt; omega)
    have HA := hide hr
    rw [← hrb]
    clear hw1 hrb h hr
    clear hq
    have HTN := hide hd
    clear hd
    refine wp_region_held_drew (S := fun wq => Below w1.heap.size w1 wq) (by kernel_rfl) (Below.refl _ _).drew (fun hS => ?_)
    refine take_at 0 (some 5) (v := ?_) rfl rfl (by kernel_rfl) (by kernel_rfl) (by kernel_rfl) (fun _ _ _ h => h) ⟨by rfl, ?_⟩ hS ?_
    rotate_left
    · intro wq hSw; go_simp; try rfl
    simp only [Act.put, List.setIfInBounds_toArray, List.set_cons_zero, List.set_cons_succ]
    refine take_at 1 (some 6) (v := ?_) rfl rfl (by kernel_rfl) (by kernel_rfl) (by kernel_rfl) (fun _ _ _ h => h) ⟨by rfl, ?_⟩ hS ?_
    rotate_left
    · intro wq hSw; have q := (HA.out.box (HX.out.below hSw)).2.2.1; go_simp; try rfl
    simp only [Act.put, List.setIfInBounds_toArray, List.set_cons_zero, List.set_cons_succ]
    refine take_at 2 (some 7) (v := ?_) rfl rfl (by kernel_rfl) (by kernel_rfl) (by kernel_rfl) (fun _ _ _ h => h) ⟨by rfl, ?_⟩ hS ?_
    rotate_left
    · intro wq hSw; go_simp; try rfl
    simp only [Act.put, List.setIfInBounds_toArray, List.set_cons_zero, List.set_cons_succ]
    refine take_at 3 (some 8) (v := ?_) rfl rfl (by kernel_rfl) (by kernel_rfl) (by kernel_rfl) (fun _ _ _ h => h) ⟨by rfl, ?_⟩ hS ?_
    rotate_left
    · intro wq hSw; go_simp; try rfl
    simp only [Act.put, List.setIfInBounds_toArray, List.set_cons_zero, List.set_cons_succ]
    refine take_at 4 (some 9) (v := ?_) rfl rfl (by kernel_rfl) (by kernel_rfl) (by kernel_rfl) (fun _ _ _ h => h) ⟨by rfl, ?_⟩ hS ?_
    rotate_left
    · intro wq hSw; go_simp; try rfl
    simp only [Act.put, List.setIfInBounds_toArray, List.set_cons_zero, List.set_cons_succ]
    refine take_at 5 (some 10) (v := ?_) rfl rfl (by kernel_rfl) (by kernel_rfl) (by kernel_rfl) (fun _ _ _ h => h) ⟨by rfl, ?_⟩ hS ?_
    rotate_left
    · intro wq hSw; have q := ((HP.out.below hSw).box.get 1 _ rfl).1; go_simp; try rfl
    simp only [Act.put, List.setIfInBounds_toArray, List.set_cons_zero, List.set_cons_succ]
    refine take_at 6 (some 11) (v := ?_) rfl rfl (by kernel_rfl) (by kernel_rfl) (by kernel_rfl) (fun _ _ _ h => h) ⟨by rfl, ?_⟩ hS ?_
    rotate_left
    · intro wq hSw; have q := HTN.out; go_simp; try rfl
    simp only [Act.put, List.setIfInBounds_toArray, List.set_cons_zero, List.set_cons_succ]
    refine wpAnyH_done (by kernel_rfl) ?_ _
    go_wp2_with fail
    refine (K _ (HP.out.below hS)).mono ?_
    rintro e wz ⟨rfl, rfl⟩
    go_wp2_with fail
    go_ret
    exact ⟨rfl, HB.out.trans (hS.mono HB.out.size)⟩
  · have hd : (tx != t.next) = true := by simpa using hq
    go_enter Tryz.func61, Tryz.ntmps61
    go_upto_region 1 with fail
    refine named (P := Code.wp _ _ _ _) ?_
    intro w1 hw1
    obtain ⟨rb, hrb⟩ : ∃ rb, rb = w.heap.size := ⟨_, rfl⟩
    have HP := hide (show PT w1 b m t by rw [hw1]; exact h.below (alloc_below _ _))
    have HX := hide (show RBox w1 rb 55 rc by rw [hw1, hrb]; exact RBox.new _ _ _)
    have HB := hide (show Below w.heap.size w w1 by rw [hw1]; exact alloc_below _ _)
    have HN := hide (show ¬ rb = m by have := h.lt; omega)
    have HA := hide hr
    rw [← hrb]
    clear hw1 hrb h hr
    clear hq
    have HTN := hide hd
    clear hd
    refine wp_region_held_drew (S := fun wq => Below w1.heap.size w1 wq) (by kernel_rfl) (Below.refl _ _).drew (fun hS => ?_)
    refine take_at 0 (some 5) (v := ?_) rfl rfl (by kernel_rfl) (by kernel_rfl) (by kernel_rfl) (fun _ _ _ h => h) ⟨by rfl, ?_⟩ hS ?_
    rotate_left
    · intro wq hSw; go_simp; try rfl
    simp only [Act.put, List.setIfInBounds_toArray, List.set_cons_zero, List.set_cons_succ]
    refine take_at 1 (some 6) (v := ?_) rfl rfl (by kernel_rfl) (by kernel_rfl) (by kernel_rfl) (fun _ _ _ h => h) ⟨by rfl, ?_⟩ hS ?_
    rotate_left
    · intro wq hSw; have q := (HA.out.box (HX.out.below hSw)).2.2.1; go_simp; try rfl
    simp only [Act.put, List.setIfInBounds_toArray, List.set_cons_zero, List.set_cons_succ]
    refine take_at 2 (some 7) (v := ?_) rfl rfl (by kernel_rfl) (by kernel_rfl) (by kernel_rfl) (fun _ _ _ h => h) ⟨by rfl, ?_⟩ hS ?_
    rotate_left
    · intro wq hSw; go_simp; try rfl
    simp only [Act.put, List.setIfInBounds_toArray, List.set_cons_zero, List.set_cons_succ]
    refine take_at 3 (some 8) (v := ?_) rfl rfl (by kernel_rfl) (by kernel_rfl) (by kernel_rfl) (fun _ _ _ h => h) ⟨by rfl, ?_⟩ hS ?_
    rotate_left
    · intro wq hSw; go_simp; try rfl
    simp only [Act.put, List.setIfInBounds_toArray, List.set_cons_zero, List.set_cons_succ]
    refine take_at 4 (some 9) (v := ?_) rfl rfl (by kernel_rfl) (by kernel_rfl) (by kernel_rfl) (fun _ _ _ h => h) ⟨by rfl, ?_⟩ hS ?_
    rotate_left
    · intro wq hSw; go_simp; try rfl
    simp only [Act.put, List.setIfInBounds_toArray, List.set_cons_zero, List.set_cons_succ]
    refine take_at 5 (some 10) (v := ?_) rfl rfl (by kernel_rfl) (by kernel_rfl) (by kernel_rfl) (fun _ _ _ h => h) ⟨by rfl, ?_⟩ hS ?_
    rotate_left
    · intro wq hSw; have q := ((HP.out.below hSw).box.get 1 _ rfl).1; go_simp; try rfl
    simp only [Act.put, List.setIfInBounds_toArray, List.set_cons_zero, List.set_cons_succ]
    refine take_at 6 (some 11) (v := ?_) rfl rfl (by kernel_rfl) (by kernel_rfl) (by kernel_rfl) (fun _ _ _ h => h) ⟨by rfl, ?_⟩ hS ?_
    rotate_left
    · intro wq hSw; have q := HTN.out; go_simp; try rfl
    simp only [Act.put, List.setIfInBounds_toArray, List.set_cons_zero, List.set_cons_succ]
    refine wpAnyH_done (by kernel_rfl) ?_ _
    go_wp2_with fail
    go_ret
    exact ⟨rfl, HB.out.trans (hS.mono HB.out.size)⟩
  · have hd : (tx != t.next) = false := by simpa using hq
    go_enter Tryz.func61, Tryz.ntmps61
    go_upto_region 1 with fail
    refine named (P := Code.wp _ _ _ _) ?_
    intro w1 hw1
    obtain ⟨rb, hrb⟩ : ∃ rb, rb = w.heap.size := ⟨_, rfl⟩
    have HP := hide (show PT w1 b m t by rw [hw1]; exact h.below (alloc_below _ _))
    have HX := hide (show RBox w1 rb 55 rc by rw [hw1, hrb]; exact RBox.new _ _ _)
    have HB := hide (show Below w.heap.size w w1 by rw [hw1]; exact alloc_below _ _)
    have HN := hide (show ¬ rb = m by have := h.lt; omega)
    have HA := hide hr
    rw [← hrb]
    clear hw1 hrb h hr
    clear hq
    have HTN := hide hd
    clear hd
    refine wp_region_held_drew (S := fun wq => Below w1.heap.size w1 wq) (by kernel_rfl) (Below.refl _ _).drew (fun hS => ?_)
    refine take_at 0 (some 5) (v := ?_) rfl rfl (by kernel_rfl) (by kernel_rfl) (by kernel_rfl) (fun _ _ _ h => h) ⟨by rfl, ?_⟩ hS ?_
    rotate_left
    · intro wq hSw; go_simp; try rfl
    simp only [Act.put, List.setIfInBounds_toArray, List.set_cons_zero, List.set_cons_succ]
    refine take_at 1 (some 6) (v := ?_) rfl rfl (by kernel_rfl) (by kernel_rfl) (by kernel_rfl) (fun _ _ _ h => h) ⟨by rfl, ?_⟩ hS ?_
    rotate_left
    · intro wq hSw; have q := (HA.out.box (HX.out.below hSw)).2.2.1; go_simp; try rfl
    simp only [Act.put, List.setIfInBounds_toArray, List.set_cons_zero, List.set_cons_succ]
    refine take_at 2 (some 7) (v := ?_) rfl rfl (by kernel_rfl) (by kernel_rfl) (by kernel_rfl) (fun _ _ _ h => h) ⟨by rfl, ?_⟩ hS ?_
    rotate_left
    · intro wq hSw; go_simp; try rfl
    simp only [Act.put, List.setIfInBounds_toArray, List.set_cons_zero, List.set_cons_succ]
    refine take_at 3 (some 8) (v := ?_) rfl rfl (by kernel_rfl) (by kernel_rfl) (by kernel_rfl) (fun _ _ _ h => h) ⟨by rfl, ?_⟩ hS ?_
    rotate_left
    · intro wq hSw; go_simp; try rfl
    simp only [Act.put, List.setIfInBounds_toArray, List.set_cons_zero, List.set_cons_succ]
    refine take_at 4 (some 9) (v := ?_) rfl rfl (by kernel_rfl) (by kernel_rfl) (by kernel_rfl) (fun _ _ _ h => h) ⟨by rfl, ?_⟩ hS ?_
    rotate_left
    · intro wq hSw; go_simp; try rfl
    simp only [Act.put, List.setIfInBounds_toArray, List.set_cons_zero, List.set_cons_succ]
    refine take_at 5 (some 10) (v := ?_) rfl rfl (by kernel_rfl) (by kernel_rfl) (by kernel_rfl) (fun _ _ _ h => h) ⟨by rfl, ?_⟩ hS ?_
    rotate_left
    · intro wq hSw; have q := ((HP.out.below hSw).box.get 1 _ rfl).1; go_simp; try rfl
    simp only [Act.put, List.setIfInBounds_toArray, List.set_cons_zero, List.set_cons_succ]
    refine take_at 6 (some 11) (v := ?_) rfl rfl (by kernel_rfl) (by kernel_rfl) (by kernel_rfl) (fun _ _ _ h => h) ⟨by rfl, ?_⟩ hS ?_
    rotate_left
    · intro wq hSw; have q := HTN.out; go_simp; try rfl
    simp only [Act.put, List.setIfInBounds_toArray, List.set_cons_zero, List.set_cons_succ]
    refine wpAnyH_done (by kernel_rfl) ?_ _
    go_wp2_with fail
    refine (K _ (HP.out.below hS)).mono ?_
    rintro e wz ⟨rfl, rfl⟩
    go_wp2_with fail
    go_ret
    exact ⟨rfl, HB.out.trans (hS.mono HB.out.size)⟩
  · have hd : (tx != t.next) = true := by simpa using hq
    go_enter Tryz.func61, Tryz.ntmps61
    go_upto_region 1 with fail
    refine named (P := Code.wp _ _ _ _) ?_
    intro w1 hw1
    obtain ⟨rb, hrb⟩ : ∃ rb, rb = w.heap.size := ⟨_, rfl⟩
    have HP := hide (show PT w1 b m t by rw [hw1]; exact h.below (alloc_below _ _))
    have HX := hide (show RBox w1 rb 55 rc by rw [hw1, hrb]; exact RBox.new _ _ _)
    have HB := hide (show Below w.heap.size w w1 by rw [hw1]; exact alloc_below _ _)
    have HN := hide (show ¬ rb = m by have := h.lt; omega)
    have HA := hide hr
    rw [← hrb]
    clear hw1 hrb h hr
    clear hq
    have HTN := hide hd
    clear hd
    refine wp_region_held_drew (S := fun wq => Below w1.heap.size w1 wq) (by kernel_rfl) (Below.refl _ _).drew (fun hS => ?_)
    refine take_at 0 (some 5) (v := ?_) rfl rfl (by kernel_rfl) (by kernel_rfl) (by kernel_rfl) (fun _ _ _ h => h) ⟨by rfl, ?_⟩ hS ?_
    rotate_left
    · intro wq hSw; go_simp; try rfl
    simp only [Act.put, List.setIfInBounds_toArray, List.set_cons_zero, List.set_cons_succ]
    refine take_at 1 (some 6) (v := ?_) rfl rfl (by kernel_rfl) (by kernel_rfl) (by kernel_rfl) (fun _ _ _ h => h) ⟨by rfl, ?_⟩ hS ?_
    rotate_left
    · intro wq hSw; have q := (HA.out.box (HX.out.below hSw)).2.2.1; go_simp; try rfl
    simp only [Act.put, List.setIfInBounds_toArray, List.set_cons_zero, List.set_cons_succ]
    refine take_at 2 (some 7) (v := ?_) rfl rfl (by kernel_rfl) (by kernel_rfl) (by kernel_rfl) (fun _ _ _ h => h) ⟨by rfl, ?_⟩ hS ?_
    rotate_left
    · intro wq hSw; go_simp; try rfl
    simp only [Act.put, List.setIfInBounds_toArray, List.set_cons_zero, List.set_cons_succ]
    refine take_at 3 (some 8) (v := ?_) rfl rfl (by kernel_rfl) (by kernel_rfl) (by kernel_rfl) (fun _ _ _ h => h) ⟨by rfl, ?_⟩ hS ?_
    rotate_left
    · intro wq hSw; go_simp; try rfl
    simp only [Act.put, List.setIfInBounds_toArray, List.set_cons_zero, List.set_cons_succ]
    refine take_at 4 (some 9) (v := ?_) rfl rfl (by kernel_rfl) (by kernel_rfl) (by kernel_rfl) (fun _ _ _ h => h) ⟨by rfl, ?_⟩ hS ?_
    rotate_left
    · intro wq hSw; go_simp; try rfl
    simp only [Act.put, List.setIfInBounds_toArray, List.set_cons_zero, List.set_cons_succ]
    refine take_at 5 (some 10) (v := ?_) rfl rfl (by kernel_rfl) (by kernel_rfl) (by kernel_rfl) (fun _ _ _ h => h) ⟨by rfl, ?_⟩ hS ?_
    rotate_left
    · intro wq hSw; have q := ((HP.out.below hSw).box.get 1 _ rfl).1; go_simp; try rfl
    simp only [Act.put, List.setIfInBounds_toArray, List.set_cons_zero, List.set_cons_succ]
    refine take_at 6 (some 11) (v := ?_) rfl rfl (by kernel_rfl) (by kernel_rfl) (by kernel_rfl) (fun _ _ _ h => h) ⟨by rfl, ?_⟩ hS ?_
    rotate_left
    · intro wq hSw; have q := HTN.out; go_simp; try rfl
    simp only [Act.put, List.setIfInBounds_toArray, List.set_cons_zero, List.set_cons_succ]
    refine wpAnyH_done (by kernel_rfl) ?_ _
    go_wp2_with fail
    go_ret
    exact ⟨rfl, HB.out.trans (hS.mono HB.out.size)⟩
end Go.Proofs.YtblngphjoafidaaGreat
