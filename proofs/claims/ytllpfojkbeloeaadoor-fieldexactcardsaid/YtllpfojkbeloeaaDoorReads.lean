import Derived.Test.YtllpfojkbeloeaaDoorTable4
namespace Go.Proofs.YtllpfojkbeloeaaDoor
open Go.RowKit Go.QK

theorem tcs_at (sd : Nat → Side) (vL vM : Value) (j : Nat) (hj : j < 2) : (tcs sd vL vM)[0 + j]? = some (ptrAt (sd j).p) ∧ (tcs sd vL vM)[2 + j]? = some (sd j).s ∧ (tcs sd vL vM)[4 + j]? = some (ptrAt (sd j).r) ∧ (tcs sd vL vM)[6 + j]? = some (ptrAt (sd j).d) := by
  rcases two hj with rfl | rfl <;> exact ⟨rfl, rfl, rfl, rfl⟩
/-- Both readers have turned alike. -/
theorem Tbl.readers {w3 : World} {lab : Nat → Nat} {B t m : Nat} {sd : Nat → Side} {vL vM : Value} {Ls Ms : List Value} {j p' e' : Nat} (T : Tb w3 lab B t (upd (upd sd j (fun s => { s with pos := p', e := e' })) j (fun s => { s with qos := p', f := e' })) vL vM Ls Ms) (hls : Ls.length ≤ 2 * m)
    (hsd : ∀ i, i < 2 → (sd i).sl = (sd i).l ∧ (sd i).l.length ≤ 10 * m ∧ (sd i).y = (sd i).x ∧ (sd i).qos = (sd i).pos ∧ (sd i).f = (sd i).e ∧ AllB (sd i).l) : Tbl w3 B t (m + 1) := by
  refine ⟨lab, _, vL, vM, Ls, Ms, T, by omega, fun i hi => ?_⟩
  obtain ⟨e1, e2, e3, e4, e5, e6⟩ := hsd i hi
  by_cases hij : i = j
  · subst hij
    rw [upd_same, upd_same]
    exact ⟨e1, by dsimp only; omega, e3, rfl, rfl, e6⟩
  · rw [upd_other _ _ _ _ hij, upd_other _ _ _ _ hij]
    exact ⟨e1, by omega, e3, e4, e5, e6⟩
theorem Tbl.grow {w : World} {B t m : Nat} (h : Tbl w B t m) : Tbl w B t (m + 1) := by
  obtain ⟨lab, sd, vL, vM, Ls, Ms, tb, hls, hsd⟩ := h
  exact ⟨lab, sd, vL, vM, Ls, Ms, tb, by omega, fun i hi => by obtain ⟨e1, e2, e3, e4, e5, e6⟩ := hsd i hi; exact ⟨e1, by omega, e3, e4, e5, e6⟩⟩

set_option maxHeartbeats 1000000 in
set_option maxRecDepth 100000 in
theorem reads_7 (wh : Bool) (n : Nat) (i at_ size : Int) (ab : Option Addr) (lb cb : Nat) (ap : Option Addr) (lp cp : Nat) (w : World) (B t m : Nat) (h : Tbl w B t m) (_hn : n < 18446744073709551616) :
    Calls Tryd.prog 37 #[.pointer (some ⟨t, 0, none⟩), .agg (opC 7 wh n i at_ size ab lb cb ap lp cp)] w fun e w' => e = .returned (.bool true) ∧ Tbl w' B t (m + 1) ∧ Below B w w' := by
  obtain ⟨lab, sd, vL, vM, Ls, Ms, tb, hls, hsd⟩ := h
  have R0 := hide (Row8.new w (.int .i64 7) (.bool wh) (.int .u64 (n : Int)) (.int .i64 i) (.int .i64 at_) (.int .i64 size) (.slice ab lb cb) (.slice ap lp cp) 69)
  have B0 : Below w.heap.size w (w.alloc (.cells #[.int .i64 7, .bool wh, .int .u64 (n : Int), .int .i64 i, .int .i64 at_, .int .i64 size, .slice ab lb cb, .slice ap lp cp] 69)) := (Below.refl _ _).alloc (Nat.le_refl _) _
  have T0 := hide (tb.below B0 (relab_old w lab 8))
  have hB := tb.base
  have HSD := hide hsd
  clear hsd tb
  go_enter Tryd.func37, Tryd.ntmps37
  go_wp2_with fail
  refine (which_any _ _ _ _ _ _ _ _ _ _ _ _ _).mono ?_
  rintro e w1 ⟨rfl, b1⟩
  have R1 := hide (Row8.below R0.out b1)
  have T1 := hide (T0.out.below b1 (fun _ _ => rfl))
  have B1 : Below B w w1 := (B0.mono hB).trans (b1.mono (by simp; omega))
  have hb0 : relab w lab 8 w.heap.size = 8 := relab_new _ _ _ _ (Nat.le_refl _)
  obtain ⟨j, hj⟩ : ∃ j : Nat, j = (if wh then 1 else 0) := ⟨_, rfl⟩
  have hj2 : j < 2 := by rw [hj]; split <;> omega
  rw [← hj]
  clear hj R0 T0 B0 b1
  generalize relab w lab 8 = lab1 at *
  generalize w.heap.size = s0 at *
  obtain ⟨z, q0, q1, q2, q3, q4, q5, q6, q7⟩ := R1.out
  obtain ⟨c1, c2, c3, c4⟩ := tcs_at sd vL vM j hj2
  have tw1 := T1.out.tl
  have k3 := ((T1.out.tb id).get _ _ c3).1
  have k4 := ((T1.out.tb id).get _ _ c4).1
  unfold ptrAt at k3 k4
  have hj3 : (j : Int) < 2 := by omega
  have lr := (T1.out.rd j hj2 id).2.1
  have ld := (T1.out.rr j hj2 id).2.1
  have lt := T1.out.lt
  have nrt : ¬ t = (sd j).r := fun e => by rw [← e, lt] at lr; omega
  have ndt : ¬ t = (sd j).d := fun e => by rw [← e, lt] at ld; omega
  have nrs : ¬ s0 = (sd j).r := fun e => by rw [← e, hb0] at lr; omega
  have nds : ¬ s0 = (sd j).d := fun e => by rw [← e, hb0] at ld; omega
  clear c1 c2 c3 c4
  have T1d := hide (T1.out.below (Below.refl _ _).drew (fun _ _ => rfl))
  obtain ⟨_, _, e3, e4, e5, _⟩ := HSD.out j hj2
  have B1d : Below B w w1.drew := B1.drew
  go_upto_region 14 with fail
  refine wp_region_held_drew (S := fun x => x.cell? ⟨t, 4 + j, none⟩ = some (.pointer (some ⟨(sd j).r, 0, none⟩)) ∧ x.cell? ⟨t, 6 + j, none⟩ = some (.pointer (some ⟨(sd j).d, 0, none⟩)) ∧ x.cell? ⟨s0, 2, none⟩ = some (.int .u64 (n : Int))) (by kernel_rfl) ⟨k3, k4, q2⟩ (fun hS => ?_)
  have E3 := hide e3
  have E4 := hide e4
  have E5 := hide e5
  clear e3 e4 e5 T1 R1 q0 q1 q2 q3 q4 q5 q6 q7 k3 k4
  refine take_at 0 (some 66) (v := ?_) rfl rfl (by kernel_rfl) (by kernel_rfl) (by kernel_rfl) (fun _ _ _ h => h) ⟨by rfl, ?_⟩ hS ?_
  rotate_left
  · intro wq hSw; (try dsimp only at hSw); go_simp; try rfl
  simp only [Act.put, List.setIfInBounds_toArray, List.set_cons_zero, List.set_cons_succ]
  refine take_at 1 (some 67) (v := ?_) rfl rfl (by kernel_rfl) (by kernel_rfl) (by kernel_rfl) (fun _ _ _ h => h) ⟨by rfl, ?_⟩ hS ?_
  rotate_left
  · intro wq hSw; (try dsimp only at hSw); go_simp; try rfl
  simp only [Act.put, List.setIfInBounds_toArray, List.set_cons_zero, List.set_cons_succ]
  refine take_at 2 (some 68) (v := ?_) rfl rfl (by kernel_rfl) (by kernel_rfl) (by kernel_rfl) (fun _ _ _ h => h) ⟨by rfl, ?_⟩ hS ?_
  rotate_left
  · intro wq hSw; (try dsimp only at hSw); go_simp; try rfl
  simp only [Act.put, List.setIfInBounds_toArray, List.set_cons_zero, List.set_cons_succ]
  refine take_at 3 (some 69) (v := ?_) rfl rfl (by kernel_rfl) (by kernel_rfl) (by kernel_rfl) (fun _ _ _ h => h) ⟨by rfl, ?_⟩ hS ?_
  rotate_left
  · intro wq hSw; (try dsimp only at hSw); go_simp; try rfl
  simp only [Act.put, List.setIfInBounds_toArray, List.set_cons_zero, List.set_cons_succ]
  refine take_at 4 (some 70) (v := ?_) rfl rfl (by kernel_rfl) (by kernel_rfl) (by kernel_rfl) (fun _ _ _ h => h) ⟨by rfl, ?_⟩ hS ?_
  rotate_left
  · intro wq hSw; (try dsimp only at hSw); go_simp; try rfl
  simp only [Act.put, List.setIfInBounds_toArray, List.set_cons_zero, List.set_cons_succ]
  refine take_at 5 (some 71) (v := ?_) rfl rfl (by kernel_rfl) (by kernel_rfl) (by kernel_rfl) (fun _ _ _ h => h) ⟨by rfl, ?_⟩ hS ?_
  rotate_left
  · intro wq hSw; (try dsimp only at hSw); go_simp; try rfl
  simp only [Act.put, List.setIfInBounds_toArray, List.set_cons_zero, List.set_cons_succ]
  refine take_at 6 (some 72) (v := ?_) rfl rfl (by kernel_rfl) (by kernel_rfl) (by kernel_rfl) (fun _ _ _ h => h) ⟨by rfl, ?_⟩ hS ?_
  rotate_left
  · intro wq hSw; (try dsimp only at hSw); go_simp; try rfl
  simp only [Act.put, List.setIfInBounds_toArray, List.set_cons_zero, List.set_cons_succ]
  refine take_at 7 (some 73) (v := ?_) rfl rfl (by kernel_rfl) (by kernel_rfl) (by kernel_rfl) (fun _ _ _ h => h) ⟨by rfl, ?_⟩ hS ?_
  rotate_left
  · intro wq hSw; (try dsimp only at hSw); go_simp; try rfl
  simp only [Act.put, List.setIfInBounds_toArray, List.set_cons_zero, List.set_cons_succ]
  refine take_at 9 (some 75) (v := ?_) rfl rfl (by kernel_rfl) (by kernel_rfl) (by kernel_rfl) (fun _ _ _ h => h) ⟨by rfl, ?_⟩ hS ?_
  rotate_left
  · intro wq hSw; (try dsimp only at hSw); go_simp; try rfl
  simp only [Act.put, List.setIfInBounds_toArray, List.set_cons_zero, List.set_cons_succ]
  refine take_at 10 (some 76) (v := ?_) rfl rfl (by kernel_rfl) (by kernel_rfl) (by kernel_rfl) (fun _ _ _ h => h) ⟨by rfl, ?_⟩ hS ?_
  rotate_left
  · intro wq hSw; (try dsimp only at hSw); go_simp; try rfl
  simp only [Act.put, List.setIfInBounds_toArray, List.set_cons_zero, List.set_cons_succ]
  refine take_at 11 (some 77) (v := ?_) rfl rfl (by kernel_rfl) (by kernel_rfl) (by kernel_rfl) (fun _ _ _ h => h) ⟨by rfl, ?_⟩ hS ?_
  rotate_left
  · intro wq hSw; (try dsimp only at hSw); go_simp; try rfl
  simp only [Act.put, List.setIfInBounds_toArray, List.set_cons_zero, List.set_cons_succ]
  refine take_at 12 (some 78) (v := ?_) rfl rfl (by kernel_rfl) (by kernel_rfl) (by kernel_rfl) (fun _ _ _ h => h) ⟨by rfl, ?_⟩ hS ?_
  rotate_left
  · intro wq hSw; (try dsimp only at hSw); go_simp; try rfl
  simp only [Act.put, List.setIfInBounds_toArray, List.set_cons_zero, List.set_cons_succ]
  refine take_at 13 (some 79) (v := ?_) rfl rfl (by kernel_rfl) (by kernel_rfl) (by kernel_rfl) (fun _ _ _ h => h) ⟨by rfl, ?_⟩ hS ?_
  rotate_left
  · intro wq hSw; (try dsimp only at hSw); go_simp; try rfl
  simp only [Act.put, List.setIfInBounds_toArray, List.set_cons_zero, List.set_cons_succ]
  refine take_at 14 (some 80) (v := ?_) rfl rfl (by kernel_rfl) (by kernel_rfl) (by kernel_rfl) (fun _ _ _ h => h) ⟨by rfl, ?_⟩ hS ?_
  rotate_left
  · intro wq hSw; (try dsimp only at hSw); go_simp; try rfl
  simp only [Act.put, List.setIfInBounds_toArray, List.set_cons_zero, List.set_cons_succ]
  refine take_at 15 (some 81) (v := ?_) rfl rfl (by kernel_rfl) (by kernel_rfl) (by kernel_rfl) (fun _ _ _ h => h) ⟨by rfl, ?_⟩ hS ?_
  rotate_left
  · intro wq hSw; (try dsimp only at hSw); go_simp; try rfl
  simp only [Act.put, List.setIfInBounds_toArray, List.set_cons_zero, List.set_cons_succ]
  refine take_at 16 (some 82) (v := ?_) rfl rfl (by kernel_rfl) (by kernel_rfl) (by kernel_rfl) (fun _ _ _ h => h) ⟨by rfl, ?_⟩ hS ?_
  rotate_left
  · intro wq hSw; (try dsimp only at hSw); go_simp; try rfl
  simp only [Act.put, List.setIfInBounds_toArray, List.set_cons_zero, List.set_cons_succ]
  refine wpAnyH_ready (rs := [8]) (by kernel_rfl) (by simp) ?_
  refine AllReadyH.cons rfl (fun K hK => ?_) AllReadyH.nil
  go_simp
  go_wp2_with fail
  refine (readU_any n _ _ _ _ _ _ _ (T1d.out.rd j hj2 id).1).mono ?_
  rintro e w5 ⟨rfl, R5, K5⟩
  go_wp2_with fail
  obtain ⟨T5, B5⟩ := T1d.out.reader j hj2 R5 K5
  refine hK.out _ _ ⟨(K5.cell (p := ⟨t, 4 + j, none⟩) tw1 nrt).trans hS.1, (K5.cell (p := ⟨t, 6 + j, none⟩) tw1 nrt).trans hS.2.1, (K5.cell (p := ⟨s0, 2, none⟩) z nrs).trans hS.2.2⟩ (fun hT => ?_)
  clear hS hK K
  have hS := hT
  clear hT
  have tw5 := T5.tl
  have z5 := Nat.lt_of_lt_of_le z K5.size
  have r5 := (T5.rr j hj2 id).1
  rw [upd_same] at r5
  dsimp only at r5
  have HT5 := hide T5
  have HR5 := hide r5
  clear R5 K5 T5 r5
  refine wpAnyH_ready (rs := [17]) (by kernel_rfl) (by simp) ?_
  refine AllReadyH.cons rfl (fun K hK => ?_) AllReadyH.nil
  go_simp
  go_wp2_with fail
  refine (rU_any n _ _ _ _ _ _ _ HR5.out).mono ?_
  rintro e w6 ⟨rfl, R6, K6⟩
  go_wp2_with fail
  refine hK.out _ _ ⟨(K6.cell (p := ⟨t, 4 + j, none⟩) tw5 ndt).trans hS.1, (K6.cell (p := ⟨t, 6 + j, none⟩) tw5 ndt).trans hS.2.1, (K6.cell (p := ⟨s0, 2, none⟩) z5 nds).trans hS.2.2⟩ (fun hT => ?_)
  clear hS hK K
  have hS := hT
  clear hT
  have T6 : Tb w6 lab1 B t (upd (upd sd j (fun s => { s with pos := uP n (sd j).x (sd j).pos (sd j).e, e := uE n (sd j).x (sd j).pos (sd j).e })) j (fun s => { s with qos := uP n (sd j).y (sd j).qos (sd j).f, f := uE n (sd j).y (sd j).qos (sd j).f })) vL vM Ls Ms ∧ Below B w5 w6 := HT5.out.rreader j hj2 (by rw [upd_same]; exact R6) (by rw [upd_same]; exact K6)
  obtain ⟨T6, B6⟩ := T6
  rw [E3.out, E4.out, E5.out] at T6
  have HT6 := hide (Tbl.readers T6 hls HSD.out)
  have BF := B1d.trans ((B5.mono (Nat.le_refl _)).trans B6)
  rw [E3.out, E4.out, E5.out]
  clear R6 K6 T6 HT5 HR5 B5 B6
  refine take_at 18 (some 84) (v := ?_) rfl rfl (by kernel_rfl) (by kernel_rfl) (by kernel_rfl) (fun _ _ _ h => h) ⟨by rfl, ?_⟩ hS ?_
  rotate_left
  · intro wq hSw; (try dsimp only at hSw); go_simp; try rfl
  simp only [Act.put, List.setIfInBounds_toArray, List.set_cons_zero, List.set_cons_succ]
  refine take_at 19 (some 4) (v := ?_) rfl rfl (by kernel_rfl) (by kernel_rfl) (by kernel_rfl) (fun _ _ _ h => h) ⟨by rfl, ?_⟩ hS ?_
  rotate_left
  · intro wq hSw; (try dsimp only at hSw); go_simp; try rfl
  simp only [Act.put, List.setIfInBounds_toArray, List.set_cons_zero, List.set_cons_succ]
  refine wpAnyH_done (by kernel_rfl) ?_ _
  go_wp2_with fail
  go_ret
  exact ⟨rfl, HT6.out, BF⟩
end Go.Proofs.YtllpfojkbeloeaaDoor
