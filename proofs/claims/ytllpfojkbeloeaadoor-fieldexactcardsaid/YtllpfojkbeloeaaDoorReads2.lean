import Derived.Test.YtllpfojkbeloeaaDoorReads
namespace Go.Proofs.YtllpfojkbeloeaaDoor
open Go.RowKit Go.QK

set_option maxHeartbeats 1000000 in
set_option maxRecDepth 100000 in
theorem reads_8 (wh : Bool) (n : Nat) (i at_ size : Int) (ab : Option Addr) (lb cb : Nat) (ap : Option Addr) (lp cp : Nat) (w : World) (B t m : Nat) (h : Tbl w B t m) :
    Calls Tryd.prog 37 #[.pointer (some ⟨t, 0, none⟩), .agg (opC 8 wh n i at_ size ab lb cb ap lp cp)] w fun e w' => e = .returned (.bool true) ∧ Tbl w' B t (m + 1) ∧ Below B w w' := by
  obtain ⟨lab, sd, vL, vM, Ls, Ms, tb, hls, hsd⟩ := h
  have R0 := hide (Row8.new w (.int .i64 8) (.bool wh) (.int .u64 (n : Int)) (.int .i64 i) (.int .i64 at_) (.int .i64 size) (.slice ab lb cb) (.slice ap lp cp) 69)
  have B0 : Below w.heap.size w (w.alloc (.cells #[.int .i64 8, .bool wh, .int .u64 (n : Int), .int .i64 i, .int .i64 at_, .int .i64 size, .slice ab lb cb, .slice ap lp cp] 69)) := (Below.refl _ _).alloc (Nat.le_refl _) _
  have T0 := hide (tb.below B0 (relab_old w lab 8))
  have hB := tb.base
  have HSD := hide hsd
  clear hsd tb
  go_enter Tryd.func37, Tryd.ntmps37
  go_wp2_with fail
  refine (which_any _ _ _ _ _ _ _ _ _ _ _ _ _).mono ?_
  rintro e w1 ⟨rfl, b1⟩
  have R1 := hide (Row8.below R0.out b1)
  have T1 := hide (T0.out.below b1 (fun _ _ => rfl))
  have B1 : Below B w w1 := (B0.mono hB).trans (b1.mono (by simp; omega))
  have hb0 : relab w lab 8 w.heap.size = 8 := relab_new _ _ _ _ (Nat.le_refl _)
  obtain ⟨j, hj⟩ : ∃ j : Nat, j = (if wh then 1 else 0) := ⟨_, rfl⟩
  have hj2 : j < 2 := by rw [hj]; split <;> omega
  rw [← hj]
  clear hj R0 T0 B0 b1
  generalize relab w lab 8 = lab1 at *
  generalize w.heap.size = s0 at *
  obtain ⟨z, q0, q1, q2, q3, q4, q5, q6, q7⟩ := R1.out
  obtain ⟨c1, c2, c3, c4⟩ := tcs_at sd vL vM j hj2
  have tw1 := T1.out.tl
  have k3 := ((T1.out.tb id).get _ _ c3).1
  have k4 := ((T1.out.tb id).get _ _ c4).1
  unfold ptrAt at k3 k4
  have hj3 : (j : Int) < 2 := by omega
  have lr := (T1.out.rd j hj2 id).2.1
  have ld := (T1.out.rr j hj2 id).2.1
  have lt := T1.out.lt
  have nrt : ¬ t = (sd j).r := fun e => by rw [← e, lt] at lr; omega
  have ndt : ¬ t = (sd j).d := fun e => by rw [← e, lt] at ld; omega
  have nrs : ¬ s0 = (sd j).r := fun e => by rw [← e, hb0] at lr; omega
  have nds : ¬ s0 = (sd j).d := fun e => by rw [← e, hb0] at ld; omega
  clear c1 c2 c3 c4
  have T1d := hide (T1.out.below (Below.refl _ _).drew (fun _ _ => rfl))
  obtain ⟨_, _, e3, e4, e5, _⟩ := HSD.out j hj2
  have B1d : Below B w w1.drew := B1.drew
  go_upto_region 16 with fail
  refine wp_region_held_drew (S := fun x => x.cell? ⟨t, 4 + j, none⟩ = some (.pointer (some ⟨(sd j).r, 0, none⟩)) ∧ x.cell? ⟨t, 6 + j, none⟩ = some (.pointer (some ⟨(sd j).d, 0, none⟩))) (by kernel_rfl) ⟨k3, k4⟩ (fun hS => ?_)
  have E3 := hide e3
  have E4 := hide e4
  have E5 := hide e5
  clear e3 e4 e5 T1 R1 q0 q1 q2 q3 q4 q5 q6 q7 k3 k4 nrs nds
  refine take_at 0 (some 87) (v := ?_) rfl rfl (by kernel_rfl) (by kernel_rfl) (by kernel_rfl) (fun _ _ _ h => h) ⟨by rfl, ?_⟩ hS ?_
  rotate_left
  · intro wq hSw; (try dsimp only at hSw); go_simp; try rfl
  simp only [Act.put, List.setIfInBounds_toArray, List.set_cons_zero, List.set_cons_succ]
  refine take_at 1 (some 88) (v := ?_) rfl rfl (by kernel_rfl) (by kernel_rfl) (by kernel_rfl) (fun _ _ _ h => h) ⟨by rfl, ?_⟩ hS ?_
  rotate_left
  · intro wq hSw; (try dsimp only at hSw); go_simp; try rfl
  simp only [Act.put, List.setIfInBounds_toArray, List.set_cons_zero, List.set_cons_succ]
  refine take_at 2 (some 89) (v := ?_) rfl rfl (by kernel_rfl) (by kernel_rfl) (by kernel_rfl) (fun _ _ _ h => h) ⟨by rfl, ?_⟩ hS ?_
  rotate_left
  · intro wq hSw; (try dsimp only at hSw); go_simp; try rfl
  simp only [Act.put, List.setIfInBounds_toArray, List.set_cons_zero, List.set_cons_succ]
  refine take_at 3 (some 90) (v := ?_) rfl rfl (by kernel_rfl) (by kernel_rfl) (by kernel_rfl) (fun _ _ _ h => h) ⟨by rfl, ?_⟩ hS ?_
  rotate_left
  · intro wq hSw; (try dsimp only at hSw); go_simp; try rfl
  simp only [Act.put, List.setIfInBounds_toArray, List.set_cons_zero, List.set_cons_succ]
  refine take_at 4 (some 91) (v := ?_) rfl rfl (by kernel_rfl) (by kernel_rfl) (by kernel_rfl) (fun _ _ _ h => h) ⟨by rfl, ?_⟩ hS ?_
  rotate_left
  · intro wq hSw; (try dsimp only at hSw); go_simp; try rfl
  simp only [Act.put, List.setIfInBounds_toArray, List.set_cons_zero, List.set_cons_succ]
  refine take_at 5 (some 92) (v := ?_) rfl rfl (by kernel_rfl) (by kernel_rfl) (by kernel_rfl) (fun _ _ _ h => h) ⟨by rfl, ?_⟩ hS ?_
  rotate_left
  · intro wq hSw; (try dsimp only at hSw); go_simp; try rfl
  simp only [Act.put, List.setIfInBounds_toArray, List.set_cons_zero, List.set_cons_succ]
  refine take_at 7 (some 94) (v := ?_) rfl rfl (by kernel_rfl) (by kernel_rfl) (by kernel_rfl) (fun _ _ _ h => h) ⟨by rfl, ?_⟩ hS ?_
  rotate_left
  · intro wq hSw; (try dsimp only at hSw); go_simp; try rfl
  simp only [Act.put, List.setIfInBounds_toArray, List.set_cons_zero, List.set_cons_succ]
  refine take_at 8 (some 95) (v := ?_) rfl rfl (by kernel_rfl) (by kernel_rfl) (by kernel_rfl) (fun _ _ _ h => h) ⟨by rfl, ?_⟩ hS ?_
  rotate_left
  · intro wq hSw; (try dsimp only at hSw); go_simp; try rfl
  simp only [Act.put, List.setIfInBounds_toArray, List.set_cons_zero, List.set_cons_succ]
  refine take_at 9 (some 96) (v := ?_) rfl rfl (by kernel_rfl) (by kernel_rfl) (by kernel_rfl) (fun _ _ _ h => h) ⟨by rfl, ?_⟩ hS ?_
  rotate_left
  · intro wq hSw; (try dsimp only at hSw); go_simp; try rfl
  simp only [Act.put, List.setIfInBounds_toArray, List.set_cons_zero, List.set_cons_succ]
  refine take_at 10 (some 97) (v := ?_) rfl rfl (by kernel_rfl) (by kernel_rfl) (by kernel_rfl) (fun _ _ _ h => h) ⟨by rfl, ?_⟩ hS ?_
  rotate_left
  · intro wq hSw; (try dsimp only at hSw); go_simp; try rfl
  simp only [Act.put, List.setIfInBounds_toArray, List.set_cons_zero, List.set_cons_succ]
  refine take_at 11 (some 98) (v := ?_) rfl rfl (by kernel_rfl) (by kernel_rfl) (by kernel_rfl) (fun _ _ _ h => h) ⟨by rfl, ?_⟩ hS ?_
  rotate_left
  · intro wq hSw; (try dsimp only at hSw); go_simp; try rfl
  simp only [Act.put, List.setIfInBounds_toArray, List.set_cons_zero, List.set_cons_succ]
  refine take_at 12 (some 99) (v := ?_) rfl rfl (by kernel_rfl) (by kernel_rfl) (by kernel_rfl) (fun _ _ _ h => h) ⟨by rfl, ?_⟩ hS ?_
  rotate_left
  · intro wq hSw; (try dsimp only at hSw); go_simp; try rfl
  simp only [Act.put, List.setIfInBounds_toArray, List.set_cons_zero, List.set_cons_succ]
  refine wpAnyH_ready (rs := [6]) (by kernel_rfl) (by simp) ?_
  refine AllReadyH.cons rfl (fun K hK => ?_) AllReadyH.nil
  go_simp
  go_wp2_with fail
  refine (readS_any _ _ _ _ _ _ _ (T1d.out.rd j hj2 id).1).mono ?_
  rintro e w5 ⟨rfl, R5, K5⟩
  go_wp2_with fail
  obtain ⟨T5, B5⟩ := T1d.out.reader j hj2 R5 K5
  refine hK.out _ _ ⟨(K5.cell (p := ⟨t, 4 + j, none⟩) tw1 nrt).trans hS.1, (K5.cell (p := ⟨t, 6 + j, none⟩) tw1 nrt).trans hS.2⟩ (fun hT => ?_)
  clear hS hK K
  have hS := hT
  clear hT
  have tw5 := T5.tl
  have r5 := (T5.rr j hj2 id).1
  rw [upd_same] at r5
  dsimp only at r5
  have HT5 := hide T5
  have HR5 := hide r5
  clear R5 K5 T5 r5
  refine wpAnyH_ready (rs := [13]) (by kernel_rfl) (by simp) ?_
  refine AllReadyH.cons rfl (fun K hK => ?_) AllReadyH.nil
  go_simp
  go_wp2_with fail
  refine (rS_any _ _ _ _ _ _ _ HR5.out).mono ?_
  rintro e w6 ⟨rfl, R6, K6⟩
  go_wp2_with fail
  refine hK.out _ _ ⟨(K6.cell (p := ⟨t, 4 + j, none⟩) tw5 ndt).trans hS.1, (K6.cell (p := ⟨t, 6 + j, none⟩) tw5 ndt).trans hS.2⟩ (fun hT => ?_)
  clear hS hK K
  have hS := hT
  clear hT
  have T6 : Tb w6 lab1 B t (upd (upd sd j (fun s => { s with pos := uP 18446744073709551615 (sd j).x (sd j).pos (sd j).e, e := uE 18446744073709551615 (sd j).x (sd j).pos (sd j).e })) j (fun s => { s with qos := uP 18446744073709551615 (sd j).y (sd j).qos (sd j).f, f := uE 18446744073709551615 (sd j).y (sd j).qos (sd j).f })) vL vM Ls Ms ∧ Below B w5 w6 := HT5.out.rreader j hj2 (by rw [upd_same]; exact R6) (by rw [upd_same]; exact K6)
  obtain ⟨T6, B6⟩ := T6
  rw [E3.out, E4.out, E5.out] at T6
  have HT6 := hide (Tbl.readers T6 hls HSD.out)
  have BF := B1d.trans ((B5.mono (Nat.le_refl _)).trans B6)
  rw [E3.out, E4.out, E5.out]
  clear R6 K6 T6 HT5 HR5 B5 B6
  refine take_at 14 (some 101) (v := ?_) rfl rfl (by kernel_rfl) (by kernel_rfl) (by kernel_rfl) (fun _ _ _ h => h) ⟨by rfl, ?_⟩ hS ?_
  rotate_left
  · intro wq hSw; (try dsimp only at hSw); go_simp; try rfl
  simp only [Act.put, List.setIfInBounds_toArray, List.set_cons_zero, List.set_cons_succ]
  refine take_at 15 (some 4) (v := ?_) rfl rfl (by kernel_rfl) (by kernel_rfl) (by kernel_rfl) (fun _ _ _ h => h) ⟨by rfl, ?_⟩ hS ?_
  rotate_left
  · intro wq hSw; (try dsimp only at hSw); go_simp; try rfl
  simp only [Act.put, List.setIfInBounds_toArray, List.set_cons_zero, List.set_cons_succ]
  refine wpAnyH_done (by kernel_rfl) ?_ _
  go_wp2_with fail
  go_ret
  exact ⟨rfl, HT6.out, BF⟩

set_option maxHeartbeats 1000000 in
set_option maxRecDepth 100000 in
theorem reads_10 (wh : Bool) (n : Nat) (i at_ size : Int) (ab : Option Addr) (lb cb : Nat) (ap : Option Addr) (lp cp : Nat) (w : World) (B t m : Nat) (h : Tbl w B t m) :
    Calls Tryd.prog 37 #[.pointer (some ⟨t, 0, none⟩), .agg (opC 10 wh n i at_ size ab lb cb ap lp cp)] w fun e w' => e = .returned (.bool true) ∧ Tbl w' B t (m + 1) ∧ Below B w w' := by
  obtain ⟨lab, sd, vL, vM, Ls, Ms, tb, hls, hsd⟩ := h
  have R0 := hide (Row8.new w (.int .i64 10) (.bool wh) (.int .u64 (n : Int)) (.int .i64 i) (.int .i64 at_) (.int .i64 size) (.slice ab lb cb) (.slice ap lp cp) 69)
  have B0 : Below w.heap.size w (w.alloc (.cells #[.int .i64 10, .bool wh, .int .u64 (n : Int), .int .i64 i, .int .i64 at_, .int .i64 size, .slice ab lb cb, .slice ap lp cp] 69)) := (Below.refl _ _).alloc (Nat.le_refl _) _
  have T0 := hide (tb.below B0 (relab_old w lab 8))
  have hB := tb.base
  have HSD := hide hsd
  clear hsd tb
  go_enter Tryd.func37, Tryd.ntmps37
  go_wp2_with fail
  refine (which_any _ _ _ _ _ _ _ _ _ _ _ _ _).mono ?_
  rintro e w1 ⟨rfl, b1⟩
  have R1 := hide (Row8.below R0.out b1)
  have T1 := hide (T0.out.below b1 (fun _ _ => rfl))
  have B1 : Below B w w1 := (B0.mono hB).trans (b1.mono (by simp; omega))
  have hb0 : relab w lab 8 w.heap.size = 8 := relab_new _ _ _ _ (Nat.le_refl _)
  obtain ⟨j, hj⟩ : ∃ j : Nat, j = (if wh then 1 else 0) := ⟨_, rfl⟩
  have hj2 : j < 2 := by rw [hj]; split <;> omega
  rw [← hj]
  clear hj R0 T0 B0 b1
  generalize relab w lab 8 = lab1 at *
  generalize w.heap.size = s0 at *
  obtain ⟨z, q0, q1, q2, q3, q4, q5, q6, q7⟩ := R1.out
  obtain ⟨c1, c2, c3, c4⟩ := tcs_at sd vL vM j hj2
  have tw1 := T1.out.tl
  have k3 := ((T1.out.tb id).get _ _ c3).1
  have k4 := ((T1.out.tb id).get _ _ c4).1
  unfold ptrAt at k3 k4
  have hj3 : (j : Int) < 2 := by omega
  have lr := (T1.out.rd j hj2 id).2.1
  have ld := (T1.out.rr j hj2 id).2.1
  have lt := T1.out.lt
  have nrt : ¬ t = (sd j).r := fun e => by rw [← e, lt] at lr; omega
  have ndt : ¬ t = (sd j).d := fun e => by rw [← e, lt] at ld; omega
  have nrs : ¬ s0 = (sd j).r := fun e => by rw [← e, hb0] at lr; omega
  have nds : ¬ s0 = (sd j).d := fun e => by rw [← e, hb0] at ld; omega
  clear c1 c2 c3 c4 nrs nds nrt ndt
  obtain ⟨_, _, e3, e4, e5, _⟩ := HSD.out j hj2
  have rr := (T1.out.rr j hj2 id).1
  rw [e3, e4, e5] at rr
  have HRR := hide rr
  have HRD := hide (T1.out.rd j hj2 id).1
  clear rr e3 e4 e5
  go_wp2_with fail
  refine (fault_any _ _ _ _ _ _ _ HRD.out).mono ?_
  rintro e w2 ⟨rfl, b2⟩
  have k4' := (b2.cell (p := ⟨t, 6 + j, none⟩) tw1).trans k4
  have HRR2 := hide (Rd.below HRR.out b2)
  have T2 := hide (T1.out.below b2 (fun _ _ => rfl))
  clear k3 k4 q0 q1 q2 q3 q4 q5 q6 q7 R1 HRR HRD T1
  go_wp2_with fail
  refine (rFault_any _ _ _ _ _ _ _ HRR2.out).mono ?_
  rintro e w3 ⟨rfl, b3⟩
  have T3 := hide (T2.out.below b3 (fun _ _ => rfl))
  clear k4' HRR2
  go_wp2_with (go_at_call 17; refine (num_any _ _).mono ?_; rintro e w' ⟨rfl, rfl⟩)
  go_ret
  exact ⟨rfl, Tbl.grow ⟨lab1, sd, vL, vM, Ls, Ms, T3.out, hls, HSD.out⟩, B1.trans ((b2.mono (Nat.le_trans hB (Nat.le_of_lt z))).trans (b3.mono T2.out.base))⟩

set_option maxHeartbeats 1000000 in
set_option maxRecDepth 100000 in
theorem reads_9 (wh : Bool) (n : Nat) (i at_ size : Int) (ab : Option Addr) (lb cb : Nat) (ap : Option Addr) (lp cp : Nat) (w : World) (B t m : Nat) (h : Tbl w B t m) :
    Calls Tryd.prog 37 #[.pointer (some ⟨t, 0, none⟩), .agg (opC 9 wh n i at_ size ab lb cb ap lp cp)] w fun e w' => e = .returned (.bool true) ∧ Tbl w' B t (m + 1) ∧ Below B w w' := by
  obtain ⟨lab, sd, vL, vM, Ls, Ms, tb, hls, hsd⟩ := h
  have R0 := hide (Row8.new w (.int .i64 9) (.bool wh) (.int .u64 (n : Int)) (.int .i64 i) (.int .i64 at_) (.int .i64 size) (.slice ab lb cb) (.slice ap lp cp) 69)
  have B0 : Below w.heap.size w (w.alloc (.cells #[.int .i64 9, .bool wh, .int .u64 (n : Int), .int .i64 i, .int .i64 at_, .int .i64 size, .slice ab lb cb, .slice ap lp cp] 69)) := (Below.refl _ _).alloc (Nat.le_refl _) _
  have T0 := hide (tb.below B0 (relab_old w lab 8))
  have hB := tb.base
  have HSD := hide hsd
  clear hsd tb
  go_enter Tryd.func37, Tryd.ntmps37
  go_wp2_with fail
  refine (which_any _ _ _ _ _ _ _ _ _ _ _ _ _).mono ?_
  rintro e w1 ⟨rfl, b1⟩
  have R1 := hide (Row8.below R0.out b1)
  have T1 := hide (T0.out.below b1 (fun _ _ => rfl))
  have B1 : Below B w w1 := (B0.mono hB).trans (b1.mono (by simp; omega))
  have hb0 : relab w lab 8 w.heap.size = 8 := relab_new _ _ _ _ (Nat.le_refl _)
  obtain ⟨j, hj⟩ : ∃ j : Nat, j = (if wh then 1 else 0) := ⟨_, rfl⟩
  have hj2 : j < 2 := by rw [hj]; split <;> omega
  rw [← hj]
  clear hj R0 T0 B0 b1
  generalize relab w lab 8 = lab1 at *
  generalize w.heap.size = s0 at *
  obtain ⟨z, q0, q1, q2, q3, q4, q5, q6, q7⟩ := R1.out
  obtain ⟨c1, c2, c3, c4⟩ := tcs_at sd vL vM j hj2
  have tw1 := T1.out.tl
  have k3 := ((T1.out.tb id).get _ _ c3).1
  have k4 := ((T1.out.tb id).get _ _ c4).1
  unfold ptrAt at k3 k4
  have hj3 : (j : Int) < 2 := by omega
  have lr := (T1.out.rd j hj2 id).2.1
  have ld := (T1.out.rr j hj2 id).2.1
  have lt := T1.out.lt
  have nrt : ¬ t = (sd j).r := fun e => by rw [← e, lt] at lr; omega
  have ndt : ¬ t = (sd j).d := fun e => by rw [← e, lt] at ld; omega
  have nrs : ¬ s0 = (sd j).r := fun e => by rw [← e, hb0] at lr; omega
  have nds : ¬ s0 = (sd j).d := fun e => by rw [← e, hb0] at ld; omega
  clear c1 c2 c3 c4 nrs nds
  obtain ⟨_, _, e3, e4, e5, _⟩ := HSD.out j hj2
  have E3 := hide e3
  have E4 := hide e4
  have E5 := hide e5
  clear e3 e4 e5
  go_wp2_with fail
  refine (end_any _ _ _ _ _ _ _ (T1.out.rd j hj2 id).1).mono ?_
  rintro e w5 ⟨rfl, R5, K5⟩
  obtain ⟨T5, B5⟩ := T1.out.reader j hj2 R5 K5
  have k4' := (K5.cell (p := ⟨t, 6 + j, none⟩) tw1 nrt).trans k4
  have k3' := (K5.cell (p := ⟨t, 4 + j, none⟩) tw1 nrt).trans k3
  have tw5 := T5.tl
  have r5 := (T5.rr j hj2 id).1
  rw [upd_same] at r5
  dsimp only at r5
  have HT5 := hide T5
  have HR5 := hide r5
  clear R5 K5 T5 r5 k3 k4 q0 q1 q2 q3 q4 q5 q6 q7 R1 T1
  go_wp2_with fail
  refine (rEnd_any _ _ _ _ _ _ _ HR5.out).mono ?_
  rintro e w6 ⟨rfl, R6, K6⟩
  have T6 : Tb w6 lab1 B t (upd (upd sd j (fun s => { s with pos := (sd j).pos, e := endE (sd j).x (sd j).pos (sd j).e })) j (fun s => { s with qos := (sd j).qos, f := endE (sd j).y (sd j).qos (sd j).f })) vL vM Ls Ms ∧ Below B w5 w6 := HT5.out.rreader j hj2 (by rw [upd_same]; exact R6) (by rw [upd_same]; exact K6)
  obtain ⟨T6, B6⟩ := T6
  rw [E3.out, E4.out, E5.out] at T6
  have k4'' := (K6.cell (p := ⟨t, 6 + j, none⟩) tw5 ndt).trans k4'
  have k3'' := (K6.cell (p := ⟨t, 4 + j, none⟩) tw5 ndt).trans k3'
  have tw6 := T6.tl
  have rd6 := (T6.rd j hj2 id).1
  have rr6 := (T6.rr j hj2 id).1
  rw [upd_same, upd_same] at rd6 rr6
  dsimp only at rd6 rr6
  rw [E3.out] at rr6
  have HRD := hide rd6
  have HRR := hide rr6
  have HT6 := hide T6
  have BF := B1.trans (B5.trans B6)
  clear R6 K6 T6 HT5 HR5 B5 B6 k3' k4' rd6 rr6 nrt ndt
  go_wp2_with fail
  refine (fault_any _ _ _ _ _ _ _ HRD.out).mono ?_
  rintro e w7 ⟨rfl, b7⟩
  have k4 := (b7.cell (p := ⟨t, 6 + j, none⟩) tw6).trans k4''
  have HRR2 := hide (Rd.below HRR.out b7)
  have T7 := hide (HT6.out.below b7 (fun _ _ => rfl))
  have B7 := BF.trans (b7.mono HT6.out.base)
  clear k3'' k4'' HRR HRD HT6 b7 BF
  go_wp2_with fail
  refine (rFault_any _ _ _ _ _ _ _ HRR2.out).mono ?_
  rintro e w8 ⟨rfl, b8⟩
  have T8 := hide (T7.out.below b8 (fun _ _ => rfl))
  have B8 := B7.trans (b8.mono T7.out.base)
  clear k4 HRR2 b8 T7 B7
  go_wp2_with (go_at_call 17; refine (num_any _ _).mono ?_; rintro e w' ⟨rfl, rfl⟩)
  go_ret
  exact ⟨rfl, Tbl.readers T8.out hls HSD.out, B8⟩
end Go.Proofs.YtllpfojkbeloeaaDoor
