import Derived.Test.YtllpfojkbeloeaaDoorWrites3
namespace Go.Proofs.YtllpfojkbeloeaaDoor
open Go.RowKit Go.QK

set_option maxHeartbeats 1000000 in
set_option maxRecDepth 100000 in
theorem writes_3 (wh : Bool) (n : Nat) (i at_ size : Int) (ab : Option Addr) (lb cb : Nat) (ap : Option Addr) (lp cp : Nat) (w : World) (B t m : Nat) (h : Tbl w B t m) (hi : I64 i) (hm : m ≤ 1000) :
    Calls Tryd.prog 36 #[.pointer (some ⟨t, 0, none⟩), .agg (opC 3 wh n i at_ size ab lb cb ap lp cp)] w fun e w' => e = .returned (.bool true) ∧ Tbl w' B t (m + 1) ∧ Below B w w' := by
  obtain ⟨lab, sd, vL, vM, Ls, Ms, tb, hls, hsd⟩ := h
  have R0 := hide (Row8.new w (.int .i64 3) (.bool wh) (.int .u64 (n : Int)) (.int .i64 i) (.int .i64 at_) (.int .i64 size) (.slice ab lb cb) (.slice ap lp cp) 69)
  have B0 : Below w.heap.size w (w.alloc (.cells #[.int .i64 3, .bool wh, .int .u64 (n : Int), .int .i64 i, .int .i64 at_, .int .i64 size, .slice ab lb cb, .slice ap lp cp] 69)) := (Below.refl _ _).alloc (Nat.le_refl _) _
  have T0 := hide (tb.below B0 (relab_old w lab 8))
  have hB := tb.base
  have HSD := hide hsd
  clear hsd tb
  go_enter Tryd.func36, Tryd.ntmps36
  go_wp2_with fail
  refine (which_any _ _ _ _ _ _ _ _ _ _ _ _ _).mono ?_
  rintro e w1 ⟨rfl, b1⟩
  have R1 := hide (Row8.below R0.out b1)
  have T1 := hide (T0.out.below b1 (fun _ _ => rfl))
  have B1 : Below B w w1 := (B0.mono hB).trans (b1.mono (by simp; omega))
  have hb0 : relab w lab 8 w.heap.size = 8 := relab_new _ _ _ _ (Nat.le_refl _)
  obtain ⟨j, hj⟩ : ∃ j : Nat, j = (if wh then 1 else 0) := ⟨_, rfl⟩
  have hj2 : j < 2 := by rw [hj]; split <;> omega
  rw [← hj]
  clear hj R0 T0 B0 b1
  generalize relab w lab 8 = lab1 at *
  generalize w.heap.size = s0 at *
  obtain ⟨z, q0, q1, q2, q3, q4, q5, q6, q7⟩ := R1.out
  obtain ⟨c1, c2, c3, c4⟩ := tcs_at sd vL vM j hj2
  have tw1 := T1.out.tl
  have k3 := ((T1.out.tb id).get _ _ c3).1
  have k4 := ((T1.out.tb id).get _ _ c4).1
  unfold ptrAt at k3 k4
  have hj3 : (j : Int) < 2 := by omega
  have lr := (T1.out.rd j hj2 id).2.1
  have ld := (T1.out.rr j hj2 id).2.1
  have lt := T1.out.lt
  have nrt : ¬ t = (sd j).r := fun e => by rw [← e, lt] at lr; omega
  have ndt : ¬ t = (sd j).d := fun e => by rw [← e, lt] at ld; omega
  have nrs : ¬ s0 = (sd j).r := fun e => by rw [← e, hb0] at lr; omega
  have nds : ¬ s0 = (sd j).d := fun e => by rw [← e, hb0] at ld; omega
  obtain ⟨k, hks⟩ : ∃ k, k = sgn i := ⟨_, rfl⟩
  have hk : k < 18446744073709551616 := by rw [hks]; exact sgn_lt hi.1 hi.2
  have HKS := hide hks
  clear hks
  have k1 := ((T1.out.tb id).get _ _ c1).1
  rw [Nat.zero_add] at k1
  unfold ptrAt at k1
  obtain ⟨e1, e2, -, -, -, e6⟩ := HSD.out j hj2
  have T1d := hide (T1.out.below (Below.refl _ _).drew (fun _ _ => rfl))
  have lw := (T1.out.wr j hj2 id).2
  have nwt : ¬ wS (sd j).p (sd j).v t := fun q => by have := lw t q; omega
  have nws : ¬ wS (sd j).p (sd j).v s0 := fun q => by have := lw s0 q; omega
  have hl : (sd j).l.length ≤ 1000000 := by omega
  have B1d : Below B w w1.drew := B1.drew
  go_upto_region 7 with fail
  refine wp_region_held_drew (S := fun x => x.cell? ⟨t, j, none⟩ = some (.pointer (some ⟨(sd j).p, 0, none⟩)) ∧ x.cell? ⟨s0, 3, none⟩ = some (.int .i64 i)) (by kernel_rfl) ⟨k1, q3⟩ (fun hS => ?_)
  have E1 := hide e1
  clear c1 c2 c3 c4 nrt ndt nrs nds k3 k4 q0 q1 q2 q3 q4 q5 q6 q7 k1 R1 T1 e1 lr ld
  refine take_at 0 (some 41) (v := ?_) rfl rfl (by kernel_rfl) (by kernel_rfl) (by kernel_rfl) (fun _ _ _ h => h) ⟨by rfl, ?_⟩ hS ?_
  rotate_left
  · intro wq hSw; (try dsimp only at hSw); go_simp; try rfl
  simp only [Act.put, List.setIfInBounds_toArray, List.set_cons_zero, List.set_cons_succ]
  refine take_at 1 (some 42) (v := ?_) rfl rfl (by kernel_rfl) (by kernel_rfl) (by kernel_rfl) (fun _ _ _ h => h) ⟨by rfl, ?_⟩ hS ?_
  rotate_left
  · intro wq hSw; (try dsimp only at hSw); go_simp; try rfl
  simp only [Act.put, List.setIfInBounds_toArray, List.set_cons_zero, List.set_cons_succ]
  refine take_at 2 (some 43) (v := ?_) rfl rfl (by kernel_rfl) (by kernel_rfl) (by kernel_rfl) (fun _ _ _ h => h) ⟨by rfl, ?_⟩ hS ?_
  rotate_left
  · intro wq hSw; (try dsimp only at hSw); go_simp; try rfl
  simp only [Act.put, List.setIfInBounds_toArray, List.set_cons_zero, List.set_cons_succ]
  refine take_at 3 (some 44) (v := ?_) rfl rfl (by kernel_rfl) (by kernel_rfl) (by kernel_rfl) (fun _ _ _ h => h) ⟨by rfl, ?_⟩ hS ?_
  rotate_left
  · intro wq hSw; (try dsimp only at hSw); go_simp; try rfl
  simp only [Act.put, List.setIfInBounds_toArray, List.set_cons_zero, List.set_cons_succ]
  refine take_at 4 (some 45) (v := ?_) rfl rfl (by kernel_rfl) (by kernel_rfl) (by kernel_rfl) (fun _ _ _ h => h) ⟨by rfl, ?_⟩ hS ?_
  rotate_left
  · intro wq hSw; (try dsimp only at hSw); go_simp; try rfl
  simp only [Act.put, List.setIfInBounds_toArray, List.set_cons_zero, List.set_cons_succ]
  refine take_at 5 (some 46) (v := ?_) rfl rfl (by kernel_rfl) (by kernel_rfl) (by kernel_rfl) (fun _ _ _ h => h) ⟨by rfl, ?_⟩ hS ?_
  rotate_left
  · intro wq hSw; (try dsimp only at hSw); go_simp; try rfl
  simp only [Act.put, List.setIfInBounds_toArray, List.set_cons_zero, List.set_cons_succ]
  refine take_at 6 (some 47) (v := ?_) rfl rfl (by kernel_rfl) (by kernel_rfl) (by kernel_rfl) (fun _ _ _ h => h) ⟨by rfl, ?_⟩ hS ?_
  rotate_left
  · intro wq hSw; (try dsimp only at hSw); go_simp; try rfl
  simp only [Act.put, List.setIfInBounds_toArray, List.set_cons_zero, List.set_cons_succ]
  refine take_at 7 (some 48) (v := ?_) rfl rfl (by kernel_rfl) (by kernel_rfl) (by kernel_rfl) (fun _ _ _ h => h) ⟨by rfl, ?_⟩ hS ?_
  rotate_left
  · intro wq hSw; (try dsimp only at hSw); go_simp; try rfl
  simp only [Act.put, List.setIfInBounds_toArray, List.set_cons_zero, List.set_cons_succ]
  refine wpAnyH_ready (rs := [8]) (by kernel_rfl) (by simp) ?_
  refine AllReadyH.cons rfl (fun K hK => ?_) AllReadyH.nil
  go_simp
  go_wp2_with fail
  refine (writeS_any i B _ _ _ _ hi.1 hi.2 (T1d.out.wr j hj2 id).1 hl).mono ?_
  rintro e w5 ⟨v5, rfl, W5, K5, M5⟩
  go_wp2_with fail
  rw [← HKS.out] at W5
  obtain ⟨⟨lab5, T5, l58⟩, B5⟩ := T1d.out.writer' j hj2 W5 K5 M5
  have HS8 : Hid (lab5 s0 = 8) := (l58 s0 z).trans hb0
  have r5 := (K5.cell (p := ⟨s0, 3, none⟩) z nws).trans hS.2
  refine hK.out _ _ ⟨(K5.cell (p := ⟨t, j, none⟩) tw1 nwt).trans hS.1, r5⟩ (fun _ => ?_)
  have HT5 := hide T5
  have BL5 := B1d.trans B5
  have z5 := Nat.lt_of_lt_of_le z K5.size
  clear hS hK K W5 K5 M5 T5 T1d B5 nwt nws B1d
  refine wpAnyH_done (by kernel_rfl) ?_ _
  go_upto_region 8 with fail
  have so := (HT5.out.sa j hj2 id).1
  rw [upd_same] at so
  dsimp only at so
  rw [E1.out] at so
  obtain ⟨as_, cs_, es, ss, -, -, -⟩ := Owns.seen so
  rw [ints_length] at es
  rw [es] at so
  have HSO := hide so
  have k2 := ((HT5.out.tb id).get _ _ (tcs_at _ vL vM j hj2).2.1).1
  rw [upd_same] at k2
  dsimp only at k2
  rw [es] at k2
  have ES := hide es
  have hfl := (form_len hk).2
  have nts : t ≠ s0 := fun e => by rw [← e, lt] at hb0; omega
  clear ss so es lw
  refine wp_region_held_drew (S := fun x => x.cell? ⟨s0, 3, none⟩ = some (.int .i64 i)) (by kernel_rfl) r5 (fun hS => ?_)
  refine take_at 0 (some 50) (v := ?_) rfl rfl (by kernel_rfl) (by kernel_rfl) (by kernel_rfl) (fun _ _ _ h => h) ⟨by rfl, ?_⟩ hS ?_
  rotate_left
  · intro wq hSw; (try dsimp only at hSw); go_simp; try rfl
  simp only [Act.put, List.setIfInBounds_toArray, List.set_cons_zero, List.set_cons_succ]
  refine take_at 1 (some 51) (v := ?_) rfl rfl (by kernel_rfl) (by kernel_rfl) (by kernel_rfl) (fun _ _ _ h => h) ⟨by rfl, ?_⟩ hS ?_
  rotate_left
  · intro wq hSw; (try dsimp only at hSw); go_simp; try rfl
  simp only [Act.put, List.setIfInBounds_toArray, List.set_cons_zero, List.set_cons_succ]
  refine take_at 2 (some 52) (v := ?_) rfl rfl (by kernel_rfl) (by kernel_rfl) (by kernel_rfl) (fun _ _ _ h => h) ⟨by rfl, ?_⟩ hS ?_
  rotate_left
  · intro wq hSw; (try dsimp only at hSw); go_simp; try rfl
  simp only [Act.put, List.setIfInBounds_toArray, List.set_cons_zero, List.set_cons_succ]
  refine take_at 3 (some 53) (v := ?_) rfl rfl (by kernel_rfl) (by kernel_rfl) (by kernel_rfl) (fun _ _ _ h => h) ⟨by rfl, ?_⟩ hS ?_
  rotate_left
  · intro wq hSw; (try dsimp only at hSw); go_simp; try rfl
  simp only [Act.put, List.setIfInBounds_toArray, List.set_cons_zero, List.set_cons_succ]
  refine take_at 4 (some 54) (v := ?_) rfl rfl (by kernel_rfl) (by kernel_rfl) (by kernel_rfl) (fun _ _ _ h => h) ⟨by rfl, ?_⟩ hS ?_
  rotate_left
  · intro wq hSw; (try dsimp only at hSw); go_simp; try rfl
  simp only [Act.put, List.setIfInBounds_toArray, List.set_cons_zero, List.set_cons_succ]
  refine take_at 5 (some 55) (v := ?_) rfl rfl (by kernel_rfl) (by kernel_rfl) (by kernel_rfl) (fun _ _ _ h => h) ⟨by rfl, ?_⟩ hS ?_
  rotate_left
  · intro wq hSw; (try dsimp only at hSw); go_simp; try rfl
  simp only [Act.put, List.setIfInBounds_toArray, List.set_cons_zero, List.set_cons_succ]
  refine take_at 6 (some 56) (v := ?_) rfl rfl (by kernel_rfl) (by kernel_rfl) (by kernel_rfl) (fun _ _ _ h => h) ⟨by rfl, ?_⟩ hS ?_
  rotate_left
  · intro wq hSw; (try dsimp only at hSw); go_simp; try rfl
  simp only [Act.put, List.setIfInBounds_toArray, List.set_cons_zero, List.set_cons_succ]
  refine take_at 8 (some 58) (v := ?_) rfl rfl (by kernel_rfl) (by kernel_rfl) (by kernel_rfl) (fun _ _ _ h => h) ⟨by rfl, ?_⟩ hS ?_
  rotate_left
  · intro wq hSw; (try dsimp only at hSw); go_simp; try rfl
  simp only [Act.put, List.setIfInBounds_toArray, List.set_cons_zero, List.set_cons_succ]
  refine take_at 9 (some 59) (v := ?_) rfl rfl (by kernel_rfl) (by kernel_rfl) (by kernel_rfl) (fun _ _ _ h => h) ⟨by rfl, ?_⟩ hS ?_
  rotate_left
  · intro wq hSw; (try dsimp only at hSw); go_simp; try rfl
  simp only [Act.put, List.setIfInBounds_toArray, List.set_cons_zero, List.set_cons_succ]
  refine take_at 13 (some 63) (v := ?_) rfl rfl (by kernel_rfl) (by kernel_rfl) (by kernel_rfl) (fun _ _ _ h => h) ⟨by rfl, ?_⟩ hS ?_
  rotate_left
  · intro wq hSw; (try dsimp only at hSw); go_simp; try rfl
  simp only [Act.put, List.setIfInBounds_toArray, List.set_cons_zero, List.set_cons_succ]
  refine take_at 14 (some 64) (v := ?_) rfl rfl (by kernel_rfl) (by kernel_rfl) (by kernel_rfl) (fun _ _ _ h => h) ⟨by rfl, ?_⟩ hS ?_
  rotate_left
  · intro wq hSw; (try dsimp only at hSw); go_simp; try rfl
  simp only [Act.put, List.setIfInBounds_toArray, List.set_cons_zero, List.set_cons_succ]
  refine wpAnyH_ready (rs := [7, 10]) (by kernel_rfl) (by simp) ?_
  refine AllReadyH.cons rfl (fun K hK => ?_) (AllReadyH.cons rfl (fun K hK => ?_) AllReadyH.nil)
  · go_simp
    go_wp2_with fail
    refine hK.out _ _ hS (fun _ => ?_)
    clear hK K
    (try simp only [Act.put, List.setIfInBounds_toArray, List.set_cons_zero, List.set_cons_succ])
    refine wpAnyH_ready (rs := [10]) (by kernel_rfl) (by simp) ?_
    refine AllReadyH.cons rfl (fun K hK => ?_) AllReadyH.nil
    go_simp
    go_wp2_with fail
    refine (rSign_any i _ hi.1 hi.2).mono ?_
    rintro e w9 ⟨rfl, hw9⟩
    subst hw9
    rw [← HKS.out]
    go_wp2_with fail
    refine hK.out _ _ hS (fun _ => ?_)
    clear hK K
    (try simp only [Act.put, List.setIfInBounds_toArray, List.set_cons_zero, List.set_cons_succ])
    refine wpAnyH_ready (rs := [11]) (by kernel_rfl) (by simp) ?_
    refine AllReadyH.cons rfl (fun K hK => ?_) AllReadyH.nil
    go_simp
    go_wp2_with fail
    refine (rForm_any k _ hk).mono ?_
    rintro e w6 ⟨v6, rfl, o6, b6⟩
    go_wp2_with fail
    obtain ⟨a6, c6, e6', s6, hn6, -, -⟩ := Owns.seen o6
    rw [ints_length] at e6'
    subst e6'
    have b56 : Below w5.heap.size w5 w6 := below_undrew b6
    have T6 := hide (HT5.out.below b56 (relab_old w5 lab5 8))
    have HSO6 := hide (Owns.below HSO.out b56)
    have HF6 := hide s6
    have k26 := (b56.cell (p := ⟨t, 2 + j, none⟩) HT5.out.tl).trans k2
    have x6 := (b56.cell (p := ⟨s0, 3, none⟩) z5).trans hS
    have z6 := Nat.lt_of_lt_of_le z5 b56.size
    have BL6 := BL5.trans (b56.mono HT5.out.base)
    refine hK.out _ _ x6 (fun _ => ?_)
    clear hS hK K
    have hS := x6
    clear x6 o6 s6 b6
    (try simp only [Act.put, List.setIfInBounds_toArray, List.set_cons_zero, List.set_cons_succ])
    refine wpAnyH_ready (rs := [12]) (by kernel_rfl) (by simp) ?_
    refine AllReadyH.cons rfl (fun K hK => ?_) AllReadyH.nil
    refine wp_appL 62 (.tmp 57) (.tmp 61) rfl rfl rfl B (.slice as_ (sd j).l.length cs_) (sd j).l rfl HSO6.out a6 (form k).length c6 (form k) rfl rfl HF6.out hn6 (by omega) T6.out.base ?_
    intro s7 w7 o7 g7 hv7
    have own6 : (upd sd j (fun s => { s with v := v5, l := (sd j).l ++ form k }) j).s.ownBlock = (Value.slice as_ (sd j).l.length cs_).ownBlock := by rw [upd_same]; dsimp only; rw [ES.out]
    have k7 : Keep (fun b => (Value.slice as_ (sd j).l.length cs_).ownBlock = some b) w6 w7 := (Keep.refl _ _).grown g7 (fun b hb _ => hb)
    have nso : ¬ (Value.slice as_ (sd j).l.length cs_).ownBlock = some t := fun q => by
      have := (T6.out.sa j hj2 id).2 t (own6.trans q)
      rw [T6.out.lt] at this; omega
    have lso : ∀ b, (Value.slice as_ (sd j).l.length cs_).ownBlock = some b → ¬ b = s0 := fun b q e => by
      have := (HT5.out.sa j hj2 id).2 b (own6.trans q)
      rw [e, HS8.out] at this; omega
    obtain ⟨⟨lab7, T7⟩, B7⟩ := T6.out.putSaid j hj2 (s' := s7) (m := (sd j).l ++ form k) (k7.mono (fun b _ q => own6.trans q)) o7 (fun b hb hlt => by
      rcases hv7 with e | e
      · exact own6.trans (e.symm.trans hb)
      · rw [e] at hb; have := Option.some.inj hb; omega)
    obtain ⟨u7, f7⟩ := ((T6.out.tb id).keep k7 nso).get _ _ (tcs_at _ vL vM j hj2).2.1
    rw [upd_same] at u7
    dsimp only at u7
    rw [ES.out] at u7
    obtain ⟨a7, c7, e7, -⟩ := Owns.seen o7
    rw [ints_length] at e7
    subst e7
    have x7 := (k7.cell (p := ⟨s0, 3, none⟩) z6 (fun q => lso s0 q rfl)).trans hS
    have HT7 := hide T7
    have BL7 := BL6.trans B7
    have x8 : (w7.setCell ⟨t, 2 + j, none⟩ (.slice a7 ((sd j).l ++ form k).length c7)).cell? ⟨s0, 3, none⟩ = some (.int .i64 i) := (World.cell?_setCell_far _ _ _ _ nts).trans x7
    generalize ((sd j).l ++ form k).length = ln at *
    refine hK.out _ _ x7 (fun _ => ?_)
    clear hS hK K
    have hS := x7
    clear T7 B7 g7 o7 hv7 T6 HF6 HSO6 k26
    (try simp only [Act.put, List.setIfInBounds_toArray, List.set_cons_zero, List.set_cons_succ])
    refine take_at 15 (some 65) (v := ?_) rfl rfl (by kernel_rfl) (by kernel_rfl) (by kernel_rfl) (fun _ _ _ h => h) ⟨by rfl, ?_⟩ hS ?_
    rotate_left
    · intro wq hSw; (try dsimp only at hSw); go_simp; try rfl
    simp only [Act.put, List.setIfInBounds_toArray, List.set_cons_zero, List.set_cons_succ]
    refine wpAnyH_ready (rs := [16]) (by kernel_rfl) (by simp) ?_
    refine AllReadyH.cons rfl (fun K hK => ?_) AllReadyH.nil
    go_simp
    go_wp2_with fail
    refine hK.out _ _ x8 (fun _ => ?_)
    clear hK K hS
    refine wpAnyH_done (by kernel_rfl) ?_ _
    go_wp2_with fail
    go_ret
    exact ⟨rfl, Tbl.wrote hk HT7.out hls HSD.out, BL7⟩
  · go_simp
    go_wp2_with fail
    refine (rSign_any i _ hi.1 hi.2).mono ?_
    rintro e w9 ⟨rfl, hw9⟩
    subst hw9
    rw [← HKS.out]
    go_wp2_with fail
    refine hK.out _ _ hS (fun _ => ?_)
    clear hK K
    (try simp only [Act.put, List.setIfInBounds_toArray, List.set_cons_zero, List.set_cons_succ])
    refine wpAnyH_ready (rs := [7, 11]) (by kernel_rfl) (by simp) ?_
    refine AllReadyH.cons rfl (fun K hK => ?_) (AllReadyH.cons rfl (fun K hK => ?_) AllReadyH.nil)
    · go_simp
      go_wp2_with fail
      refine hK.out _ _ hS (fun _ => ?_)
      clear hK K
      (try simp only [Act.put, List.setIfInBounds_toArray, List.set_cons_zero, List.set_cons_succ])
      refine wpAnyH_ready (rs := [11]) (by kernel_rfl) (by simp) ?_
      refine AllReadyH.cons rfl (fun K hK => ?_) AllReadyH.nil
      go_simp
      go_wp2_with fail
      refine (rForm_any k _ hk).mono ?_
      rintro e w6 ⟨v6, rfl, o6, b6⟩
      go_wp2_with fail
      obtain ⟨a6, c6, e6', s6, hn6, -, -⟩ := Owns.seen o6
      rw [ints_length] at e6'
      subst e6'
      have b56 : Below w5.heap.size w5 w6 := below_undrew b6
      have T6 := hide (HT5.out.below b56 (relab_old w5 lab5 8))
      have HSO6 := hide (Owns.below HSO.out b56)
      have HF6 := hide s6
      have k26 := (b56.cell (p := ⟨t, 2 + j, none⟩) HT5.out.tl).trans k2
      have x6 := (b56.cell (p := ⟨s0, 3, none⟩) z5).trans hS
      have z6 := Nat.lt_of_lt_of_le z5 b56.size
      have BL6 := BL5.trans (b56.mono HT5.out.base)
      refine hK.out _ _ x6 (fun _ => ?_)
      clear hS hK K
      have hS := x6
      clear x6 o6 s6 b6
      (try simp only [Act.put, List.setIfInBounds_toArray, List.set_cons_zero, List.set_cons_succ])
      refine wpAnyH_ready (rs := [12]) (by kernel_rfl) (by simp) ?_
      refine AllReadyH.cons rfl (fun K hK => ?_) AllReadyH.nil
      refine wp_appL 62 (.tmp 57) (.tmp 61) rfl rfl rfl B (.slice as_ (sd j).l.length cs_) (sd j).l rfl HSO6.out a6 (form k).length c6 (form k) rfl rfl HF6.out hn6 (by omega) T6.out.base ?_
      intro s7 w7 o7 g7 hv7
      have own6 : (upd sd j (fun s => { s with v := v5, l := (sd j).l ++ form k }) j).s.ownBlock = (Value.slice as_ (sd j).l.length cs_).ownBlock := by rw [upd_same]; dsimp only; rw [ES.out]
      have k7 : Keep (fun b => (Value.slice as_ (sd j).l.length cs_).ownBlock = some b) w6 w7 := (Keep.refl _ _).grown g7 (fun b hb _ => hb)
      have nso : ¬ (Value.slice as_ (sd j).l.length cs_).ownBlock = some t := fun q => by
        have := (T6.out.sa j hj2 id).2 t (own6.trans q)
        rw [T6.out.lt] at this; omega
      have lso : ∀ b, (Value.slice as_ (sd j).l.length cs_).ownBlock = some b → ¬ b = s0 := fun b q e => by
        have := (HT5.out.sa j hj2 id).2 b (own6.trans q)
        rw [e, HS8.out] at this; omega
      obtain ⟨⟨lab7, T7⟩, B7⟩ := T6.out.putSaid j hj2 (s' := s7) (m := (sd j).l ++ form k) (k7.mono (fun b _ q => own6.trans q)) o7 (fun b hb hlt => by
        rcases hv7 with e | e
        · exact own6.trans (e.symm.trans hb)
        · rw [e] at hb; have := Option.some.inj hb; omega)
      obtain ⟨u7, f7⟩ := ((T6.out.tb id).keep k7 nso).get _ _ (tcs_at _ vL vM j hj2).2.1
      rw [upd_same] at u7
      dsimp only at u7
      rw [ES.out] at u7
      obtain ⟨a7, c7, e7, -⟩ := Owns.seen o7
      rw [ints_length] at e7
      subst e7
      have x7 := (k7.cell (p := ⟨s0, 3, none⟩) z6 (fun q => lso s0 q rfl)).trans hS
      have HT7 := hide T7
      have BL7 := BL6.trans B7
      have x8 : (w7.setCell ⟨t, 2 + j, none⟩ (.slice a7 ((sd j).l ++ form k).length c7)).cell? ⟨s0, 3, none⟩ = some (.int .i64 i) := (World.cell?_setCell_far _ _ _ _ nts).trans x7
      generalize ((sd j).l ++ form k).length = ln at *
      refine hK.out _ _ x7 (fun _ => ?_)
      clear hS hK K
      have hS := x7
      clear T7 B7 g7 o7 hv7 T6 HF6 HSO6 k26
      (try simp only [Act.put, List.setIfInBounds_toArray, List.set_cons_zero, List.set_cons_succ])
      refine take_at 15 (some 65) (v := ?_) rfl rfl (by kernel_rfl) (by kernel_rfl) (by kernel_rfl) (fun _ _ _ h => h) ⟨by rfl, ?_⟩ hS ?_
      rotate_left
      · intro wq hSw; (try dsimp only at hSw); go_simp; try rfl
      simp only [Act.put, List.setIfInBounds_toArray, List.set_cons_zero, List.set_cons_succ]
      refine wpAnyH_ready (rs := [16]) (by kernel_rfl) (by simp) ?_
      refine AllReadyH.cons rfl (fun K hK => ?_) AllReadyH.nil
      go_simp
      go_wp2_with fail
      refine hK.out _ _ x8 (fun _ => ?_)
      clear hK K hS
      refine wpAnyH_done (by kernel_rfl) ?_ _
      go_wp2_with fail
      go_ret
      exact ⟨rfl, Tbl.wrote hk HT7.out hls HSD.out, BL7⟩
    · go_simp
      go_wp2_with fail
      refine (rForm_any k _ hk).mono ?_
      rintro e w6 ⟨v6, rfl, o6, b6⟩
      go_wp2_with fail
      obtain ⟨a6, c6, e6', s6, hn6, -, -⟩ := Owns.seen o6
      rw [ints_length] at e6'
      subst e6'
      have b56 : Below w5.heap.size w5 w6 := below_undrew b6
      have T6 := hide (HT5.out.below b56 (relab_old w5 lab5 8))
      have HSO6 := hide (Owns.below HSO.out b56)
      have HF6 := hide s6
      have k26 := (b56.cell (p := ⟨t, 2 + j, none⟩) HT5.out.tl).trans k2
      have x6 := (b56.cell (p := ⟨s0, 3, none⟩) z5).trans hS
      have z6 := Nat.lt_of_lt_of_le z5 b56.size
      have BL6 := BL5.trans (b56.mono HT5.out.base)
      refine hK.out _ _ x6 (fun _ => ?_)
      clear hS hK K
      have hS := x6
      clear x6 o6 s6 b6
      (try simp only [Act.put, List.setIfInBounds_toArray, List.set_cons_zero, List.set_cons_succ])
      refine wpAnyH_ready (rs := [7]) (by kernel_rfl) (by simp) ?_
      refine AllReadyH.cons rfl (fun K hK => ?_) AllReadyH.nil
      go_simp
      go_wp2_with fail
      refine hK.out _ _ hS (fun _ => ?_)
      clear hK K
      (try simp only [Act.put, List.setIfInBounds_toArray, List.set_cons_zero, List.set_cons_succ])
      refine wpAnyH_ready (rs := [12]) (by kernel_rfl) (by simp) ?_
      refine AllReadyH.cons rfl (fun K hK => ?_) AllReadyH.nil
      refine wp_appL 62 (.tmp 57) (.tmp 61) rfl rfl rfl B (.slice as_ (sd j).l.length cs_) (sd j).l rfl HSO6.out a6 (form k).length c6 (form k) rfl rfl HF6.out hn6 (by omega) T6.out.base ?_
      intro s7 w7 o7 g7 hv7
      have own6 : (upd sd j (fun s => { s with v := v5, l := (sd j).l ++ form k }) j).s.ownBlock = (Value.slice as_ (sd j).l.length cs_).ownBlock := by rw [upd_same]; dsimp only; rw [ES.out]
      have k7 : Keep (fun b => (Value.slice as_ (sd j).l.length cs_).ownBlock = some b) w6 w7 := (Keep.refl _ _).grown g7 (fun b hb _ => hb)
      have nso : ¬ (Value.slice as_ (sd j).l.length cs_).ownBlock = some t := fun q => by
        have := (T6.out.sa j hj2 id).2 t (own6.trans q)
        rw [T6.out.lt] at this; omega
      have lso : ∀ b, (Value.slice as_ (sd j).l.length cs_).ownBlock = some b → ¬ b = s0 := fun b q e => by
        have := (HT5.out.sa j hj2 id).2 b (own6.trans q)
        rw [e, HS8.out] at this; omega
      obtain ⟨⟨lab7, T7⟩, B7⟩ := T6.out.putSaid j hj2 (s' := s7) (m := (sd j).l ++ form k) (k7.mono (fun b _ q => own6.trans q)) o7 (fun b hb hlt => by
        rcases hv7 with e | e
        · exact own6.trans (e.symm.trans hb)
        · rw [e] at hb; have := Option.some.inj hb; omega)
      obtain ⟨u7, f7⟩ := ((T6.out.tb id).keep k7 nso).get _ _ (tcs_at _ vL vM j hj2).2.1
      rw [upd_same] at u7
      dsimp only at u7
      rw [ES.out] at u7
      obtain ⟨a7, c7, e7, -⟩ := Owns.seen o7
      rw [ints_length] at e7
      subst e7
      have x7 := (k7.cell (p := ⟨s0, 3, none⟩) z6 (fun q => lso s0 q rfl)).trans hS
      have HT7 := hide T7
      have BL7 := BL6.trans B7
      have x8 : (w7.setCell ⟨t, 2 + j, none⟩ (.slice a7 ((sd j).l ++ form k).length c7)).cell? ⟨s0, 3, none⟩ = some (.int .i64 i) := (World.cell?_setCell_far _ _ _ _ nts).trans x7
      generalize ((sd j).l ++ form k).length = ln at *
      refine hK.out _ _ x7 (fun _ => ?_)
      clear hS hK K
      have hS := x7
      clear T7 B7 g7 o7 hv7 T6 HF6 HSO6 k26
      (try simp only [Act.put, List.setIfInBounds_toArray, List.set_cons_zero, List.set_cons_succ])
      refine take_at 15 (some 65) (v := ?_) rfl rfl (by kernel_rfl) (by kernel_rfl) (by kernel_rfl) (fun _ _ _ h => h) ⟨by rfl, ?_⟩ hS ?_
      rotate_left
      · intro wq hSw; (try dsimp only at hSw); go_simp; try rfl
      simp only [Act.put, List.setIfInBounds_toArray, List.set_cons_zero, List.set_cons_succ]
      refine wpAnyH_ready (rs := [16]) (by kernel_rfl) (by simp) ?_
      refine AllReadyH.cons rfl (fun K hK => ?_) AllReadyH.nil
      go_simp
      go_wp2_with fail
      refine hK.out _ _ x8 (fun _ => ?_)
      clear hK K hS
      refine wpAnyH_done (by kernel_rfl) ?_ _
      go_wp2_with fail
      go_ret
      exact ⟨rfl, Tbl.wrote hk HT7.out hls HSD.out, BL7⟩
end Go.Proofs.YtllpfojkbeloeaaDoor
