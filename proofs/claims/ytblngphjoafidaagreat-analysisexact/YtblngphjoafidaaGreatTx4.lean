import Derived.Test.YtblngphjoafidaaGreatTx3
namespace Go.Proofs.YtblngphjoafidaaGreat
open Go.RowKit Go.QK Go.Maps Go.QM Go.QT
set_option maxRecDepth 100000
theorem lv_all (x : Lv) : lvV x = .agg #[.int .i64 x.tx, .int .i64 x.last, .bool x.com, .bool x.und] := rfl
set_option maxHeartbeats 1000000 in
theorem decided_any (x : Lv) (w : World) : Calls Tryz.prog 71 #[lvV x] w fun r w' => r = .returned (.bool (x.com || x.und)) ∧ Below w.heap.size w w' := by
  obtain ⟨a1, a2, a3, a4⟩ := x
  unfold lvV
  cases a3
  all_goals go_enter Tryz.func71, Tryz.ntmps71
  all_goals go_wp2
  all_goals go_ret
  all_goals exact ⟨rfl, alloc_below _ _⟩
set_option maxHeartbeats 1000000 in
theorem undoing_any (x : Lv) (w : World) : Calls Tryz.prog 68 #[lvV x] w fun r w' => r = .returned (.bool x.und) ∧ Below w.heap.size w w' := by
  obtain ⟨a1, a2, a3, a4⟩ := x
  unfold lvV
  go_enter Tryz.func68, Tryz.ntmps68
  go_wp2
  go_ret
  exact ⟨rfl, alloc_below _ _⟩
set_option maxHeartbeats 1000000 in
theorem open_any' (x : Lv) (w : World) : Calls Tryz.prog 66 #[lvV x] w fun r w' => r = .returned (.bool (!(x.com || x.und))) ∧ Below w.heap.size w w' := by
  have K := decided_any x (w.alloc (.cells #[.int .i64 x.tx, .int .i64 x.last, .bool x.com, .bool x.und] 58))
  obtain ⟨a1, a2, a3, a4⟩ := x
  unfold lvV at K ⊢
  simp only at K ⊢
  generalize (a3 || a4) = q at *
  go_enter Tryz.func66, Tryz.ntmps66
  go_wp2_with (go_at_call 71; refine K.mono ?_; rintro e w2 ⟨rfl, hb⟩)
  go_ret
  exact ⟨rfl, (alloc_below _ _).trans (hb.mono (by simp))⟩
abbrev fv (n : Nat) : Value := .func (.func n) #[] #[]
abbrev cv (b : Nat) : Value := .func (.func 86) #[] #[ptr b]
set_option maxHeartbeats 1000000 in
theorem unless_any (n : Nat) (w : World) : Calls Tryz.prog 65 #[fv n] w fun r w' => r = .returned (cv w.heap.size) ∧ w' = w.alloc (.cells #[fv n] 122) := by
  have hmf : ∀ (fn : Fn) (first cap : Array Value) (w : World), (Instr.makeFunc fn first cap).run Tryz.prog w = .ok (.func fn first cap) w := fun _ _ _ _ => rfl
  go_enter Tryz.func65, Tryz.ntmps65
  go_wp2
  go_ret
  exact ⟨rfl, rfl⟩
set_option maxHeartbeats 4000000 in
theorem chained47_any (b m : Nat) (t : TbM) (rc : Array Value) (lsn k tx prev : Int) (fb : Nat) (w : World) (h : PT w b m t) (hr : RecA rc lsn k tx prev) (hf : Cells w fb [fv 66]) (hk : ∀ x : Lv, fitsK k x = !(x.com || x.und)) : Calls Tryz.prog 86 #[ptr b, .agg rc, ptr fb] w fun r w' => r = .returned (.int .i64 (t.chainE lsn k tx prev)) ∧ Below w.heap.size w w' := by
  have hx := hr.i2
  have KF := fun (x : Lv) w => open_any' x w
  unfold TbM.chainE
  cases hg : getT t.L tx with
  | none =>
    have HG := hide hg
    clear hg hk KF
    simp only
    go_enter Tryz.func86, Tryz.ntmps86
    go_upto_region 1 with fail
    refine named (P := Code.wp _ _ _ _) ?_
    intro w1 hw1
    obtain ⟨rb, hrb⟩ : ∃ rb, rb = w.heap.size := ⟨_, rfl⟩
    have HP := hide (show PT w1 b m t by rw [hw1]; exact h.below (alloc_below _ _))
    have HX := hide (show RBox w1 rb 55 rc by rw [hw1, hrb]; exact RBox.new _ _ _)
    have HB := hide (show Below w.heap.size w w1 by rw [hw1]; exact alloc_below _ _)
    have HN := hide (show ¬ rb = m by have := h.lt; omega)
    have HA := hide hr
    rw [← hrb]
    have HF := hide (show Cells w1 fb [fv 66] by rw [hw1]; exact hf.below (alloc_below _ _))
    clear hw1 hrb h hr hf
    refine wp_region_held_drew (S := fun wq => Below w1.heap.size w1 wq) (by kernel_rfl) (Below.refl _ _).drew (fun hS => ?_)
    refine take_at 0 (some 9) (v := ?_) rfl rfl (by kernel_rfl) (by kernel_rfl) (by kernel_rfl) (fun _ _ _ h => h) ⟨by rfl, ?_⟩ hS ?_
    rotate_left
    · intro wq hSw; go_simp; try rfl
    simp only [Act.put, List.setIfInBounds_toArray, List.set_cons_zero, List.set_cons_succ]
    refine take_at 1 (some 10) (v := ?_) rfl rfl (by kernel_rfl) (by kernel_rfl) (by kernel_rfl) (fun _ _ _ h => h) ⟨by rfl, ?_⟩ hS ?_
    rotate_left
    · intro wq hSw; go_simp; try rfl
    simp only [Act.put, List.setIfInBounds_toArray, List.set_cons_zero, List.set_cons_succ]
    refine take_at 2 (some 11) (v := ?_) rfl rfl (by kernel_rfl) (by kernel_rfl) (by kernel_rfl) (fun _ _ _ h => h) ⟨by rfl, ?_⟩ hS ?_
    rotate_left
    · intro wq hSw; go_simp; try rfl
    simp only [Act.put, List.setIfInBounds_toArray, List.set_cons_zero, List.set_cons_succ]
    refine take_at 3 (some 12) (v := ?_) rfl rfl (by kernel_rfl) (by kernel_rfl) (by kernel_rfl) (fun _ _ _ h => h) ⟨by rfl, ?_⟩ hS ?_
    rotate_left
    · intro wq hSw; have q := ((HP.out.below hSw).box.get 0 _ rfl).1; go_simp; try rfl
    simp only [Act.put, List.setIfInBounds_toArray, List.set_cons_zero, List.set_cons_succ]
    refine take_at 4 (some 13) (v := ?_) rfl rfl (by kernel_rfl) (by kernel_rfl) (by kernel_rfl) (fun _ _ _ h => h) ⟨by rfl, ?_⟩ hS ?_
    rotate_left
    · intro wq hSw; go_simp; try rfl
    simp only [Act.put, List.setIfInBounds_toArray, List.set_cons_zero, List.set_cons_succ]
    refine take_at 5 (some 14) (v := ?_) rfl rfl (by kernel_rfl) (by kernel_rfl) (by kernel_rfl) (fun _ _ _ h => h) ⟨by rfl, ?_⟩ hS ?_
    rotate_left
    · intro wq hSw; have q := (HA.out.box (HX.out.below hSw)).2.2.1; go_simp; try rfl
    simp only [Act.put, List.setIfInBounds_toArray, List.set_cons_zero, List.set_cons_succ]
    refine take_at 6 (some 15) (v := ?_) rfl rfl (by kernel_rfl) (by kernel_rfl) (by kernel_rfl) (fun _ _ _ h => h) ⟨by rfl, ?_⟩ hS ?_
    rotate_left
    · intro wq hSw; have q := (HP.out.below hSw).look2 hx; rw [HG.out] at q; simp only [Option.map_none, Option.getD_none, Option.isSome_none, lvV] at q; go_simp; try rfl
    simp only [Act.put, List.setIfInBounds_toArray, List.set_cons_zero, List.set_cons_succ]
    refine take_at 7 (some 8) (v := ?_) rfl rfl (by kernel_rfl) (by kernel_rfl) (by kernel_rfl) (fun _ _ _ h => h) ⟨by rfl, ?_⟩ hS ?_
    rotate_left
    · intro wq hSw; go_simp; try rfl
    simp only [Act.put, List.setIfInBounds_toArray, List.set_cons_zero, List.set_cons_succ]
    refine take_at 8 (some 16) (v := ?_) rfl rfl (by kernel_rfl) (by kernel_rfl) (by kernel_rfl) (fun _ _ _ h => h) ⟨by rfl, ?_⟩ hS ?_
    rotate_left
    · intro wq hSw; go_simp; try rfl
    simp only [Act.put, List.setIfInBounds_toArray, List.set_cons_zero, List.set_cons_succ]
    refine take_at 9 (some 17) (v := ?_) rfl rfl (by kernel_rfl) (by kernel_rfl) (by kernel_rfl) (fun _ _ _ h => h) ⟨by rfl, ?_⟩ hS ?_
    rotate_left
    · intro wq hSw; go_simp; try rfl
    simp only [Act.put, List.setIfInBounds_toArray, List.set_cons_zero, List.set_cons_succ]
    have D1 := hide hS
    clear hS
    generalize w1.drew = x1 at *
    refine wpAnyH_ready (rs := [10]) (by kernel_rfl) (by simp) ?_
    refine AllReadyH.cons rfl (fun K hK => ?_) AllReadyH.nil
    go_simp
    go_wp2_with fail
    refine hK.out _ _ (D1.out.alloc D1.out.size _) (fun hS => ?_)
    clear hK K hS
    (try simp only [Act.put, List.setIfInBounds_toArray, List.set_cons_zero, List.set_cons_succ])
    refine wpAnyH_ready (rs := [11]) (by kernel_rfl) (by simp) ?_
    refine AllReadyH.cons rfl (fun K hK => ?_) AllReadyH.nil
    go_simp
    go_wp2_with fail
    refine hK.out _ _ (D1.out.alloc D1.out.size _) (fun hS => ?_)
    clear hK K
    (try simp only [Act.put])
    refine take_at 12 (some 7) (v := ?_) rfl rfl (by kernel_rfl) (by kernel_rfl) (by kernel_rfl) (fun _ _ _ h => h) ⟨by rfl, ?_⟩ hS ?_
    rotate_left
    · intro wq hSw; go_simp; try rfl
    simp only [Act.put, List.setIfInBounds_toArray, List.set_cons_zero, List.set_cons_succ]
    clear hS
    refine wpAnyH_done (by kernel_rfl) ?_ _
    have b1 := alloc_below x1 (.cells #[.int .i64 0, .int .i64 0, .bool false, .bool false] 58)
    have y0 := (HA.out.box ((HX.out.below D1.out).below b1))
    obtain ⟨y0, -, -, y3⟩ := y0
    obtain ⟨y4, -⟩ := ((HF.out.below D1.out).below b1).get 0 _ rfl
    have HBz := hide (HB.out.trans (D1.out.mono HB.out.size))
    clear b1 y3 y4
    go_wp2_with fail
    go_ret
    exact ⟨rfl, HBz.out.alloc HBz.out.size _⟩
  | some x =>
    have HG := hide hg
    have e1 := hk x
    have K1 := fun w => KF x w
    rw [← e1] at K1
    obtain ⟨a1, a2, a3, a4⟩ := x
    unfold lvV at K1
    clear hg hk KF e1
    simp only
    generalize fitsK k ⟨a1, a2, a3, a4⟩ = q at *
    by_cases hp : prev = a2
    · by_cases hl : a2 < lsn
      · rw [if_pos ⟨hp, hl⟩]
        have d1 : (prev != a2) = false := by simpa using hp
        have d2 : decide (lsn ≤ a2) = false := by simp; omega
        cases q
        · clear hp hl
          go_enter Tryz.func86, Tryz.ntmps86
          go_upto_region 1 with fail
          refine named (P := Code.wp _ _ _ _) ?_
          intro w1 hw1
          obtain ⟨rb, hrb⟩ : ∃ rb, rb = w.heap.size := ⟨_, rfl⟩
          have HP := hide (show PT w1 b m t by rw [hw1]; exact h.below (alloc_below _ _))
          have HX := hide (show RBox w1 rb 55 rc by rw [hw1, hrb]; exact RBox.new _ _ _)
          have HB := hide (show Below w.heap.size w w1 by rw [hw1]; exact alloc_below _ _)
          have HN := hide (show ¬ rb = m by have := h.lt; omega)
          have HA := hide hr
          rw [← hrb]
          have HF := hide (show Cells w1 fb [fv 66] by rw [hw1]; exact hf.below (alloc_below _ _))
          clear hw1 hrb h hr hf
          refine wp_region_held_drew (S := fun wq => Below w1.heap.size w1 wq) (by kernel_rfl) (Below.refl _ _).drew (fun hS => ?_)
          refine take_at 0 (some 9) (v := ?_) rfl rfl (by kernel_rfl) (by kernel_rfl) (by kernel_rfl) (fun _ _ _ h => h) ⟨by rfl, ?_⟩ hS ?_
          rotate_left
          · intro wq hSw; go_simp; try rfl
          simp only [Act.put, List.setIfInBounds_toArray, List.set_cons_zero, List.set_cons_succ]
          refine take_at 1 (some 10) (v := ?_) rfl rfl (by kernel_rfl) (by kernel_rfl) (by kernel_rfl) (fun _ _ _ h => h) ⟨by rfl, ?_⟩ hS ?_
          rotate_left
          · intro wq hSw; go_simp; try rfl
          simp only [Act.put, List.setIfInBounds_toArray, List.set_cons_zero, List.set_cons_succ]
          refine take_at 2 (some 11) (v := ?_) rfl rfl (by kernel_rfl) (by kernel_rfl) (by kernel_rfl) (fun _ _ _ h => h) ⟨by rfl, ?_⟩ hS ?_
          rotate_left
          · intro wq hSw; go_simp; try rfl
          simp only [Act.put, List.setIfInBounds_toArray, List.set_cons_zero, List.set_cons_succ]
          refine take_at 3 (some 12) (v := ?_) rfl rfl (by kernel_rfl) (by kernel_rfl) (by kernel_rfl) (fun _ _ _ h => h) ⟨by rfl, ?_⟩ hS ?_
          rotate_left
          · intro wq hSw; have q := ((HP.out.below hSw).box.get 0 _ rfl).1; go_simp; try rfl
          simp only [Act.put, List.setIfInBounds_toArray, List.set_cons_zero, List.set_cons_succ]
          refine take_at 4 (some 13) (v := ?_) rfl rfl (by kernel_rfl) (by kernel_rfl) (by kernel_rfl) (fun _ _ _ h => h) ⟨by rfl, ?_⟩ hS ?_
          rotate_left
          · intro wq hSw; go_simp; try rfl
          simp only [Act.put, List.setIfInBounds_toArray, List.set_cons_zero, List.set_cons_succ]
          refine take_at 5 (some 14) (v := ?_) rfl rfl (by kernel_rfl) (by kernel_rfl) (by kernel_rfl) (fun _ _ _ h => h) ⟨by rfl, ?_⟩ hS ?_
          rotate_left
          · intro wq hSw; have q := (HA.out.box (HX.out.below hSw)).2.2.1; go_simp; try rfl
          simp only [Act.put, List.setIfInBounds_toArray, List.set_cons_zero, List.set_cons_succ]
          refine take_at 6 (some 15) (v := ?_) rfl rfl (by kernel_rfl) (by kernel_rfl) (by kernel_rfl) (fun _ _ _ h => h) ⟨by rfl, ?_⟩ hS ?_
          rotate_left
          · intro wq hSw; have q := (HP.out.below hSw).look2 hx; rw [HG.out] at q; simp only [Option.map_some, Option.getD_some, Option.isSome_some, lvV] at q; go_simp; try rfl
          simp only [Act.put, List.setIfInBounds_toArray, List.set_cons_zero, List.set_cons_succ]
          refine take_at 7 (some 8) (v := ?_) rfl rfl (by kernel_rfl) (by kernel_rfl) (by kernel_rfl) (fun _ _ _ h => h) ⟨by rfl, ?_⟩ hS ?_
          rotate_left
          · intro wq hSw; go_simp; try rfl
          simp only [Act.put, List.setIfInBounds_toArray, List.set_cons_zero, List.set_cons_succ]
          refine take_at 8 (some 16) (v := ?_) rfl rfl (by kernel_rfl) (by kernel_rfl) (by kernel_rfl) (fun _ _ _ h => h) ⟨by rfl, ?_⟩ hS ?_
          rotate_left
          · intro wq hSw; go_simp; try rfl
          simp only [Act.put, List.setIfInBounds_toArray, List.set_cons_zero, List.set_cons_succ]
          refine take_at 9 (some 17) (v := ?_) rfl rfl (by kernel_rfl) (by kernel_rfl) (by kernel_rfl) (fun _ _ _ h => h) ⟨by rfl, ?_⟩ hS ?_
          rotate_left
          · intro wq hSw; go_simp; try rfl
          simp only [Act.put, List.setIfInBounds_toArray, List.set_cons_zero, List.set_cons_succ]
          have D1 := hide hS
          clear hS
          generalize w1.drew = x1 at *
          refine wpAnyH_ready (rs := [10]) (by kernel_rfl) (by simp) ?_
          refine AllReadyH.cons rfl (fun K hK => ?_) AllReadyH.nil
          go_simp
          go_wp2_with fail
          refine hK.out _ _ (D1.out.alloc D1.out.size _) (fun hS => ?_)
          clear hK K hS
          (try simp only [Act.put, List.setIfInBounds_toArray, List.set_cons_zero, List.set_cons_succ])
          refine wpAnyH_ready (rs := [11]) (by kernel_rfl) (by simp) ?_
          refine AllReadyH.cons rfl (fun K hK => ?_) AllReadyH.nil
          go_simp
          go_wp2_with fail
          refine hK.out _ _ (D1.out.alloc D1.out.size _) (fun hS => ?_)
          clear hK K
          (try simp only [Act.put])
          refine take_at 12 (some 7) (v := ?_) rfl rfl (by kernel_rfl) (by kernel_rfl) (by kernel_rfl) (fun _ _ _ h => h) ⟨by rfl, ?_⟩ hS ?_
          rotate_left
          · intro wq hSw; go_simp; try rfl
          simp only [Act.put, List.setIfInBounds_toArray, List.set_cons_zero, List.set_cons_succ]
          clear hS
          refine wpAnyH_done (by kernel_rfl) ?_ _
          have b1 := alloc_below x1 (.cells #[.int .i64 a1, .int .i64 a2, .bool a3, .bool a4] 58)
          have y0 := (HA.out.box ((HX.out.below D1.out).below b1))
          obtain ⟨y0, -, -, y3⟩ := y0
          obtain ⟨y4, -⟩ := ((HF.out.below D1.out).below b1).get 0 _ rfl
          have HBz := hide (HB.out.trans (D1.out.mono HB.out.size))
          have B1 := hide b1
          clear b1
          go_wp2_with fail
          refine (K1 _).mono ?_
          rintro e w2 ⟨rfl, hb⟩
          have HBf := hide (HBz.out.trans ((B1.out.trans (hb.mono B1.out.size)).mono HBz.out.size))
          clear hb
          go_wp2_with fail
          go_ret
          exact ⟨rfl, HBf.out⟩
        · clear hp hl
          go_enter Tryz.func86, Tryz.ntmps86
          go_upto_region 1 with fail
          refine named (P := Code.wp _ _ _ _) ?_
          intro w1 hw1
          obtain ⟨rb, hrb⟩ : ∃ rb, rb = w.heap.size := ⟨_, rfl⟩
          have HP := hide (show PT w1 b m t by rw [hw1]; exact h.below (alloc_below _ _))
          have HX := hide (show RBox w1 rb 55 rc by rw [hw1, hrb]; exact RBox.new _ _ _)
          have HB := hide (show Below w.heap.size w w1 by rw [hw1]; exact alloc_below _ _)
          have HN := hide (show ¬ rb = m by have := h.lt; omega)
          have HA := hide hr
          rw [← hrb]
          have HF := hide (show Cells w1 fb [fv 66] by rw [hw1]; exact hf.below (alloc_below _ _))
          clear hw1 hrb h hr hf
          refine wp_region_held_drew (S := fun wq => Below w1.heap.size w1 wq) (by kernel_rfl) (Below.refl _ _).drew (fun hS => ?_)
          refine take_at 0 (some 9) (v := ?_) rfl rfl (by kernel_rfl) (by kernel_rfl) (by kernel_rfl) (fun _ _ _ h => h) ⟨by rfl, ?_⟩ hS ?_
          rotate_left
          · intro wq hSw; go_simp; try rfl
          simp only [Act.put, List.setIfInBounds_toArray, List.set_cons_zero, List.set_cons_succ]
          refine take_at 1 (some 10) (v := ?_) rfl rfl (by kernel_rfl) (by kernel_rfl) (by kernel_rfl) (fun _ _ _ h => h) ⟨by rfl, ?_⟩ hS ?_
          rotate_left
          · intro wq hSw; go_simp; try rfl
          simp only [Act.put, List.setIfInBounds_toArray, List.set_cons_zero, List.set_cons_succ]
          refine take_at 2 (some 11) (v := ?_) rfl rfl (by kernel_rfl) (by kernel_rfl) (by kernel_rfl) (fun _ _ _ h => h) ⟨by rfl, ?_⟩ hS ?_
          rotate_left
          · intro wq hSw; go_simp; try rfl
          simp only [Act.put, List.setIfInBounds_toArray, List.set_cons_zero, List.set_cons_succ]
          refine take_at 3 (some 12) (v := ?_) rfl rfl (by kernel_rfl) (by kernel_rfl) (by kernel_rfl) (fun _ _ _ h => h) ⟨by rfl, ?_⟩ hS ?_
          rotate_left
          · intro wq hSw; have q := ((HP.out.below hSw).box.get 0 _ rfl).1; go_simp; try rfl
          simp only [Act.put, List.setIfInBounds_toArray, List.set_cons_zero, List.set_cons_succ]
          refine take_at 4 (some 13) (v := ?_) rfl rfl (by kernel_rfl) (by kernel_rfl) (by kernel_rfl) (fun _ _ _ h => h) ⟨by rfl, ?_⟩ hS ?_
          rotate_left
          · intro wq hSw; go_simp; try rfl
          simp only [Act.put, List.setIfInBounds_toArray, List.set_cons_zero, List.set_cons_succ]
          refine take_at 5 (some 14) (v := ?_) rfl rfl (by kernel_rfl) (by kernel_rfl) (by kernel_rfl) (fun _ _ _ h => h) ⟨by rfl, ?_⟩ hS ?_
          rotate_left
          · intro wq hSw; have q := (HA.out.box (HX.out.below hSw)).2.2.1; go_simp; try rfl
          simp only [Act.put, List.setIfInBounds_toArray, List.set_cons_zero, List.set_cons_succ]
          refine take_at 6 (some 15) (v := ?_) rfl rfl (by kernel_rfl) (by kernel_rfl) (by kernel_rfl) (fun _ _ _ h => h) ⟨by rfl, ?_⟩ hS ?_
          rotate_left
          · intro wq hSw; have q := (HP.out.below hSw).look2 hx; rw [HG.out] at q; simp only [Option.map_some, Option.getD_some, Option.isSome_some, lvV] at q; go_simp; try rfl
          simp only [Act.put, List.setIfInBounds_toArray, List.set_cons_zero, List.set_cons_succ]
          refine take_at 7 (some 8) (v := ?_) rfl rfl (by kernel_rfl) (by kernel_rfl) (by kernel_rfl) (fun _ _ _ h => h) ⟨by rfl, ?_⟩ hS ?_
          rotate_left
          · intro wq hSw; go_simp; try rfl
          simp only [Act.put, List.setIfInBounds_toArray, List.set_cons_zero, List.set_cons_succ]
          refine take_at 8 (some 16) (v := ?_) rfl rfl (by kernel_rfl) (by kernel_rfl) (by kernel_rfl) (fun _ _ _ h => h) ⟨by rfl, ?_⟩ hS ?_
          rotate_left
          · intro wq hSw; go_simp; try rfl
          simp only [Act.put, List.setIfInBounds_toArray, List.set_cons_zero, List.set_cons_succ]
          refine take_at 9 (some 17) (v := ?_) rfl rfl (by kernel_rfl) (by kernel_rfl) (by kernel_rfl) (fun _ _ _ h => h) ⟨by rfl, ?_⟩ hS ?_
          rotate_left
          · intro wq hSw; go_simp; try rfl
          simp only [Act.put, List.setIfInBounds_toArray, List.set_cons_zero, List.set_cons_succ]
          have D1 := hide hS
          clear hS
          generalize w1.drew = x1 at *
          refine wpAnyH_ready (rs := [10]) (by kernel_rfl) (by simp) ?_
          refine AllReadyH.cons rfl (fun K hK => ?_) AllReadyH.nil
          go_simp
          go_wp2_with fail
          refine hK.out _ _ (D1.out.alloc D1.out.size _) (fun hS => ?_)
          clear hK K hS
          (try simp only [Act.put, List.setIfInBounds_toArray, List.set_cons_zero, List.set_cons_succ])
          refine wpAnyH_ready (rs := [11]) (by kernel_rfl) (by simp) ?_
          refine AllReadyH.cons rfl (fun K hK => ?_) AllReadyH.nil
          go_simp
          go_wp2_with fail
          refine hK.out _ _ (D1.out.alloc D1.out.size _) (fun hS => ?_)
          clear hK K
          (try simp only [Act.put])
          refine take_at 12 (some 7) (v := ?_) rfl rfl (by kernel_rfl) (by kernel_rfl) (by kernel_rfl) (fun _ _ _ h => h) ⟨by rfl, ?_⟩ hS ?_
          rotate_left
          · intro wq hSw; go_simp; try rfl
          simp only [Act.put, List.setIfInBounds_toArray, List.set_cons_zero, List.set_cons_succ]
          clear hS
          refine wpAnyH_done (by kernel_rfl) ?_ _
          have b1 := alloc_below x1 (.cells #[.int .i64 a1, .int .i64 a2, .bool a3, .bool a4] 58)
          have y0 := (HA.out.box ((HX.out.below D1.out).below b1))
          obtain ⟨y0, -, -, y3⟩ := y0
          obtain ⟨y4, -⟩ := ((HF.out.below D1.out).below b1).get 0 _ rfl
          have HBz := hide (HB.out.trans (D1.out.mono HB.out.size))
          have B1 := hide b1
          clear b1
          go_wp2_with fail
          refine (K1 _).mono ?_
          rintro e w2 ⟨rfl, hb⟩
          have HBf := hide (HBz.out.trans ((B1.out.trans (hb.mono B1.out.size)).mono HBz.out.size))
          clear hb
          go_wp2_with fail
          go_ret
          exact ⟨rfl, HBf.out⟩
      · rw [if_neg (fun r => hl r.2)]
        have d1 : (prev != a2) = false := by simpa using hp
        have d2 : decide (lsn ≤ a2) = true := by simp; omega
        clear hp
        go_enter Tryz.func86, Tryz.ntmps86
        go_upto_region 1 with fail
        refine named (P := Code.wp _ _ _ _) ?_
        intro w1 hw1
        obtain ⟨rb, hrb⟩ : ∃ rb, rb = w.heap.size := ⟨_, rfl⟩
        have HP := hide (show PT w1 b m t by rw [hw1]; exact h.below (alloc_below _ _))
        have HX := hide (show RBox w1 rb 55 rc by rw [hw1, hrb]; exact RBox.new _ _ _)
        have HB := hide (show Below w.heap.size w w1 by rw [hw1]; exact alloc_below _ _)
        have HN := hide (show ¬ rb = m by have := h.lt; omega)
        have HA := hide hr
        rw [← hrb]
        have HF := hide (show Cells w1 fb [fv 66] by rw [hw1]; exact hf.below (alloc_below _ _))
        clear hw1 hrb h hr hf
        refine wp_region_held_drew (S := fun wq => Below w1.heap.size w1 wq) (by kernel_rfl) (Below.refl _ _).drew (fun hS => ?_)
        refine take_at 0 (some 9) (v := ?_) rfl rfl (by kernel_rfl) (by kernel_rfl) (by kernel_rfl) (fun _ _ _ h => h) ⟨by rfl, ?_⟩ hS ?_
        rotate_left
        · intro wq hSw; go_simp; try rfl
        simp only [Act.put, List.setIfInBounds_toArray, List.set_cons_zero, List.set_cons_succ]
        refine take_at 1 (some 10) (v := ?_) rfl rfl (by kernel_rfl) (by kernel_rfl) (by kernel_rfl) (fun _ _ _ h => h) ⟨by rfl, ?_⟩ hS ?_
        rotate_left
        · intro wq hSw; go_simp; try rfl
        simp only [Act.put, List.setIfInBounds_toArray, List.set_cons_zero, List.set_cons_succ]
        refine take_at 2 (some 11) (v := ?_) rfl rfl (by kernel_rfl) (by kernel_rfl) (by kernel_rfl) (fun _ _ _ h => h) ⟨by rfl, ?_⟩ hS ?_
        rotate_left
        · intro wq hSw; go_simp; try rfl
        simp only [Act.put, List.setIfInBounds_toArray, List.set_cons_zero, List.set_cons_succ]
        refine take_at 3 (some 12) (v := ?_) rfl rfl (by kernel_rfl) (by kernel_rfl) (by kernel_rfl) (fun _ _ _ h => h) ⟨by rfl, ?_⟩ hS ?_
        rotate_left
        · intro wq hSw; have q := ((HP.out.below hSw).box.get 0 _ rfl).1; go_simp; try rfl
        simp only [Act.put, List.setIfInBounds_toArray, List.set_cons_zero, List.set_cons_succ]
        refine take_at 4 (some 13) (v := ?_) rfl rfl (by kernel_rfl) (by kernel_rfl) (by kernel_rfl) (fun _ _ _ h => h) ⟨by rfl, ?_⟩ hS ?_
        rotate_left
        · intro wq hSw; go_simp; try rfl
        simp only [Act.put, List.setIfInBounds_toArray, List.set_cons_zero, List.set_cons_succ]
        refine take_at 5 (some 14) (v := ?_) rfl rfl (by kernel_rfl) (by kernel_rfl) (by kernel_rfl) (fun _ _ _ h => h) ⟨by rfl, ?_⟩ hS ?_
        rotate_left
        · intro wq hSw; have q := (HA.out.box (HX.out.below hSw)).2.2.1; go_simp; try rfl
        simp only [Act.put, List.setIfInBounds_toArray, List.set_cons_zero, List.set_cons_succ]
        refine take_at 6 (some 15) (v := ?_) rfl rfl (by kernel_rfl) (by kernel_rfl) (by kernel_rfl) (fun _ _ _ h => h) ⟨by rfl, ?_⟩ hS ?_
        rotate_left
        · intro wq hSw; have q := (HP.out.below hSw).look2 hx; rw [HG.out] at q; simp only [Option.map_some, Option.getD_some, Option.isSome_some, lvV] at q; go_simp; try rfl
        simp only [Act.put, List.setIfInBounds_toArray, List.set_cons_zero, List.set_cons_succ]
        refine take_at 7 (some 8) (v := ?_) rfl rfl (by kernel_rfl) (by kernel_rfl) (by kernel_rfl) (fun _ _ _ h => h) ⟨by rfl, ?_⟩ hS ?_
        rotate_left
        · intro wq hSw; go_simp; try rfl
        simp only [Act.put, List.setIfInBounds_toArray, List.set_cons_zero, List.set_cons_succ]
        refine take_at 8 (some 16) (v := ?_) rfl rfl (by kernel_rfl) (by kernel_rfl) (by kernel_rfl) (fun _ _ _ h => h) ⟨by rfl, ?_⟩ hS ?_
        rotate_left
        · intro wq hSw; go_simp; try rfl
        simp only [Act.put, List.setIfInBounds_toArray, List.set_cons_zero, List.set_cons_succ]
        refine take_at 9 (some 17) (v := ?_) rfl rfl (by kernel_rfl) (by kernel_rfl) (by kernel_rfl) (fun _ _ _ h => h) ⟨by rfl, ?_⟩ hS ?_
        rotate_left
        · intro wq hSw; go_simp; try rfl
        simp only [Act.put, List.setIfInBounds_toArray, List.set_cons_zero, List.set_cons_succ]
        have D1 := hide hS
        clear hS
        generalize w1.drew = x1 at *
        refine wpAnyH_ready (rs := [10]) (by kernel_rfl) (by simp) ?_
        refine AllReadyH.cons rfl (fun K hK => ?_) AllReadyH.nil
        go_simp
        go_wp2_with fail
        refine hK.out _ _ (D1.out.alloc D1.out.size _) (fun hS => ?_)
        clear hK K hS
        (try simp only [Act.put, List.setIfInBounds_toArray, List.set_cons_zero, List.set_cons_succ])
        refine wpAnyH_ready (rs := [11]) (by kernel_rfl) (by simp) ?_
        refine AllReadyH.cons rfl (fun K hK => ?_) AllReadyH.nil
        go_simp
        go_wp2_with fail
        refine hK.out _ _ (D1.out.alloc D1.out.size _) (fun hS => ?_)
        clear hK K
        (try simp only [Act.put])
        refine take_at 12 (some 7) (v := ?_) rfl rfl (by kernel_rfl) (by kernel_rfl) (by kernel_rfl) (fun _ _ _ h => h) ⟨by rfl, ?_⟩ hS ?_
        rotate_left
        · intro wq hSw; go_simp; try rfl
        simp only [Act.put, List.setIfInBounds_toArray, List.set_cons_zero, List.set_cons_succ]
        clear hS
        refine wpAnyH_done (by kernel_rfl) ?_ _
        have b1 := alloc_below x1 (.cells #[.int .i64 a1, .int .i64 a2, .bool a3, .bool a4] 58)
        have y0 := (HA.out.box ((HX.out.below D1.out).below b1))
        obtain ⟨y0, -, -, y3⟩ := y0
        obtain ⟨y4, -⟩ := ((HF.out.below D1.out).below b1).get 0 _ rfl
        have HBz := hide (HB.out.trans (D1.out.mono HB.out.size))
        clear b1
        go_wp2_with fail
        go_ret
        exact ⟨rfl, HBz.out.alloc HBz.out.size _⟩
    · rw [if_neg (fun r => hp r.1)]
      have d1 : (prev != a2) = true := by simpa using hp
      have d2 : True := trivial
      clear hp
      go_enter Tryz.func86, Tryz.ntmps86
      go_upto_region 1 with fail
      refine named (P := Code.wp _ _ _ _) ?_
      intro w1 hw1
      obtain ⟨rb, hrb⟩ : ∃ rb, rb = w.heap.size := ⟨_, rfl⟩
      have HP := hide (show PT w1 b m t by rw [hw1]; exact h.below (alloc_below _ _))
      have HX := hide (show RBox w1 rb 55 rc by rw [hw1, hrb]; exact RBox.new _ _ _)
      have HB := hide (show Below w.heap.size w w1 by rw [hw1]; exact alloc_below _ _)
      have HN := hide (show ¬ rb = m by have := h.lt; omega)
      have HA := hide hr
      rw [← hrb]
      have HF := hide (show Cells w1 fb [fv 66] by rw [hw1]; exact hf.below (alloc_below _ _))
      clear hw1 hrb h hr hf
      refine wp_region_held_drew (S := fun wq => Below w1.heap.size w1 wq) (by kernel_rfl) (Below.refl _ _).drew (fun hS => ?_)
      refine take_at 0 (some 9) (v := ?_) rfl rfl (by kernel_rfl) (by kernel_rfl) (by kernel_rfl) (fun _ _ _ h => h) ⟨by rfl, ?_⟩ hS ?_
      rotate_left
      · intro wq hSw; go_simp; try rfl
      simp only [Act.put, List.setIfInBounds_toArray, List.set_cons_zero, List.set_cons_succ]
      refine take_at 1 (some 10) (v := ?_) rfl rfl (by kernel_rfl) (by kernel_rfl) (by kernel_rfl) (fun _ _ _ h => h) ⟨by rfl, ?_⟩ hS ?_
      rotate_left
      · intro wq hSw; go_simp; try rfl
      simp only [Act.put, List.setIfInBounds_toArray, List.set_cons_zero, List.set_cons_succ]
      refine take_at 2 (some 11) (v := ?_) rfl rfl (by kernel_rfl) (by kernel_rfl) (by kernel_rfl) (fun _ _ _ h => h) ⟨by rfl, ?_⟩ hS ?_
      rotate_left
      · intro wq hSw; go_simp; try rfl
      simp only [Act.put, List.setIfInBounds_toArray, List.set_cons_zero, List.set_cons_succ]
      refine take_at 3 (some 12) (v := ?_) rfl rfl (by kernel_rfl) (by kernel_rfl) (by kernel_rfl) (fun _ _ _ h => h) ⟨by rfl, ?_⟩ hS ?_
      rotate_left
      · intro wq hSw; have q := ((HP.out.below hSw).box.get 0 _ rfl).1; go_simp; try rfl
      simp only [Act.put, List.setIfInBounds_toArray, List.set_cons_zero, List.set_cons_succ]
      refine take_at 4 (some 13) (v := ?_) rfl rfl (by kernel_rfl) (by kernel_rfl) (by kernel_rfl) (fun _ _ _ h => h) ⟨by rfl, ?_⟩ hS ?_
      rotate_left
      · intro wq hSw; go_simp; try rfl
      simp only [Act.put, List.setIfInBounds_toArray, List.set_cons_zero, List.set_cons_succ]
      refine take_at 5 (some 14) (v := ?_) rfl rfl (by kernel_rfl) (by kernel_rfl) (by kernel_rfl) (fun _ _ _ h => h) ⟨by rfl, ?_⟩ hS ?_
      rotate_left
      · intro wq hSw; have q := (HA.out.box (HX.out.below hSw)).2.2.1; go_simp; try rfl
      simp only [Act.put, List.setIfInBounds_toArray, List.set_cons_zero, List.set_cons_succ]
      refine take_at 6 (some 15) (v := ?_) rfl rfl (by kernel_rfl) (by kernel_rfl) (by kernel_rfl) (fun _ _ _ h => h) ⟨by rfl, ?_⟩ hS ?_
      rotate_left
      · intro wq hSw; have q := (HP.out.below hSw).look2 hx; rw [HG.out] at q; simp only [Option.map_some, Option.getD_some, Option.isSome_some, lvV] at q; go_simp; try rfl
      simp only [Act.put, List.setIfInBounds_toArray, List.set_cons_zero, List.set_cons_succ]
      refine take_at 7 (some 8) (v := ?_) rfl rfl (by kernel_rfl) (by kernel_rfl) (by kernel_rfl) (fun _ _ _ h => h) ⟨by rfl, ?_⟩ hS ?_
      rotate_left
      · intro wq hSw; go_simp; try rfl
      simp only [Act.put, List.setIfInBounds_toArray, List.set_cons_zero, List.set_cons_succ]
      refine take_at 8 (some 16) (v := ?_) rfl rfl (by kernel_rfl) (by kernel_rfl) (by kernel_rfl) (fun _ _ _ h => h) ⟨by rfl, ?_⟩ hS ?_
      rotate_left
      · intro wq hSw; go_simp; try rfl
      simp only [Act.put, List.setIfInBounds_toArray, List.set_cons_zero, List.set_cons_succ]
      refine take_at 9 (some 17) (v := ?_) rfl rfl (by kernel_rfl) (by kernel_rfl) (by kernel_rfl) (fun _ _ _ h => h) ⟨by rfl, ?_⟩ hS ?_
      rotate_left
      · intro wq hSw; go_simp; try rfl
      simp only [Act.put, List.setIfInBounds_toArray, List.set_cons_zero, List.set_cons_succ]
      have D1 := hide hS
      clear hS
      generalize w1.drew = x1 at *
      refine wpAnyH_ready (rs := [10]) (by kernel_rfl) (by simp) ?_
      refine AllReadyH.cons rfl (fun K hK => ?_) AllReadyH.nil
      go_simp
      go_wp2_with fail
      refine hK.out _ _ (D1.out.alloc D1.out.size _) (fun hS => ?_)
      clear hK K hS
      (try simp only [Act.put, List.setIfInBounds_toArray, List.set_cons_zero, List.set_cons_succ])
      refine wpAnyH_ready (rs := [11]) (by kernel_rfl) (by simp) ?_
      refine AllReadyH.cons rfl (fun K hK => ?_) AllReadyH.nil
      go_simp
      go_wp2_with fail
      refine hK.out _ _ (D1.out.alloc D1.out.size _) (fun hS => ?_)
      clear hK K
      (try simp only [Act.put])
      refine take_at 12 (some 7) (v := ?_) rfl rfl (by kernel_rfl) (by kernel_rfl) (by kernel_rfl) (fun _ _ _ h => h) ⟨by rfl, ?_⟩ hS ?_
      rotate_left
      · intro wq hSw; go_simp; try rfl
      simp only [Act.put, List.setIfInBounds_toArray, List.set_cons_zero, List.set_cons_succ]
      clear hS
      refine wpAnyH_done (by kernel_rfl) ?_ _
      have b1 := alloc_below x1 (.cells #[.int .i64 a1, .int .i64 a2, .bool a3, .bool a4] 58)
      have y0 := (HA.out.box ((HX.out.below D1.out).below b1))
      obtain ⟨y0, -, -, y3⟩ := y0
      obtain ⟨y4, -⟩ := ((HF.out.below D1.out).below b1).get 0 _ rfl
      have HBz := hide (HB.out.trans (D1.out.mono HB.out.size))
      clear b1
      go_wp2_with fail
      go_ret
      exact ⟨rfl, HBz.out.alloc HBz.out.size _⟩
set_option maxHeartbeats 4000000 in
theorem chained49_any (b m : Nat) (t : TbM) (rc : Array Value) (lsn k tx prev : Int) (fb : Nat) (w : World) (h : PT w b m t) (hr : RecA rc lsn k tx prev) (hf : Cells w fb [fv 68]) (hk : ∀ x : Lv, fitsK k x = x.und) : Calls Tryz.prog 86 #[ptr b, .agg rc, ptr fb] w fun r w' => r = .returned (.int .i64 (t.chainE lsn k tx prev)) ∧ Below w.heap.size w w' := by
  have hx := hr.i2
  have KF := fun (x : Lv) w => undoing_any x w
  unfold TbM.chainE
  cases hg : getT t.L tx with
  | none =>
    have HG := hide hg
    clear hg hk KF
    simp only
    go_enter Tryz.func86, Tryz.ntmps86
    go_upto_region 1 with fail
    refine named (P := Code.wp _ _ _ _) ?_
    intro w1 hw1
    obtain ⟨rb, hrb⟩ : ∃ rb, rb = w.heap.size := ⟨_, rfl⟩
    have HP := hide (show PT w1 b m t by rw [hw1]; exact h.below (alloc_below _ _))
    have HX := hide (show RBox w1 rb 55 rc by rw [hw1, hrb]; exact RBox.new _ _ _)
    have HB := hide (show Below w.heap.size w w1 by rw [hw1]; exact alloc_below _ _)
    have HN := hide (show ¬ rb = m by have := h.lt; omega)
    have HA := hide hr
    rw [← hrb]
    have HF := hide (show Cells w1 fb [fv 68] by rw [hw1]; exact hf.below (alloc_below _ _))
    clear hw1 hrb h hr hf
    refine wp_region_held_drew (S := fun wq => Below w1.heap.size w1 wq) (by kernel_rfl) (Below.refl _ _).drew (fun hS => ?_)
    refine take_at 0 (some 9) (v := ?_) rfl rfl (by kernel_rfl) (by kernel_rfl) (by kernel_rfl) (fun _ _ _ h => h) ⟨by rfl, ?_⟩ hS ?_
    rotate_left
    · intro wq hSw; go_simp; try rfl
    simp only [Act.put, List.setIfInBounds_toArray, List.set_cons_zero, List.set_cons_succ]
    refine take_at 1 (some 10) (v := ?_) rfl rfl (by kernel_rfl) (by kernel_rfl) (by kernel_rfl) (fun _ _ _ h => h) ⟨by rfl, ?_⟩ hS ?_
    rotate_left
    · intro wq hSw; go_simp; try rfl
    simp only [Act.put, List.setIfInBounds_toArray, List.set_cons_zero, List.set_cons_succ]
    refine take_at 2 (some 11) (v := ?_) rfl rfl (by kernel_rfl) (by kernel_rfl) (by kernel_rfl) (fun _ _ _ h => h) ⟨by rfl, ?_⟩ hS ?_
    rotate_left
    · intro wq hSw; go_simp; try rfl
    simp only [Act.put, List.setIfInBounds_toArray, List.set_cons_zero, List.set_cons_succ]
    refine take_at 3 (some 12) (v := ?_) rfl rfl (by kernel_rfl) (by kernel_rfl) (by kernel_rfl) (fun _ _ _ h => h) ⟨by rfl, ?_⟩ hS ?_
    rotate_left
    · intro wq hSw; have q := ((HP.out.below hSw).box.get 0 _ rfl).1; go_simp; try rfl
    simp only [Act.put, List.setIfInBounds_toArray, List.set_cons_zero, List.set_cons_succ]
    refine take_at 4 (some 13) (v := ?_) rfl rfl (by kernel_rfl) (by kernel_rfl) (by kernel_rfl) (fun _ _ _ h => h) ⟨by rfl, ?_⟩ hS ?_
    rotate_left
    · intro wq hSw; go_simp; try rfl
    simp only [Act.put, List.setIfInBounds_toArray, List.set_cons_zero, List.set_cons_succ]
    refine take_at 5 (some 14) (v := ?_) rfl rfl (by kernel_rfl) (by kernel_rfl) (by kernel_rfl) (fun _ _ _ h => h) ⟨by rfl, ?_⟩ hS ?_
    rotate_left
    · intro wq hSw; have q := (HA.out.box (HX.out.below hSw)).2.2.1; go_simp; try rfl
    simp only [Act.put, List.setIfInBounds_toArray, List.set_cons_zero, List.set_cons_succ]
    refine take_at 6 (some 15) (v := ?_) rfl rfl (by kernel_rfl) (by kernel_rfl) (by kernel_rfl) (fun _ _ _ h => h) ⟨by rfl, ?_⟩ hS ?_
    rotate_left
    · intro wq hSw; have q := (HP.out.below hSw).look2 hx; rw [HG.out] at q; simp only [Option.map_none, Option.getD_none, Option.isSome_none, lvV] at q; go_simp; try rfl
    simp only [Act.put, List.setIfInBounds_toArray, List.set_cons_zero, List.set_cons_succ]
    refine take_at 7 (some 8) (v := ?_) rfl rfl (by kernel_rfl) (by kernel_rfl) (by kernel_rfl) (fun _ _ _ h => h) ⟨by rfl, ?_⟩ hS ?_
    rotate_left
    · intro wq hSw; go_simp; try rfl
    simp only [Act.put, List.setIfInBounds_toArray, List.set_cons_zero, List.set_cons_succ]
    refine take_at 8 (some 16) (v := ?_) rfl rfl (by kernel_rfl) (by kernel_rfl) (by kernel_rfl) (fun _ _ _ h => h) ⟨by rfl, ?_⟩ hS ?_
    rotate_left
    · intro wq hSw; go_simp; try rfl
    simp only [Act.put, List.setIfInBounds_toArray, List.set_cons_zero, List.set_cons_succ]
    refine take_at 9 (some 17) (v := ?_) rfl rfl (by kernel_rfl) (by kernel_rfl) (by kernel_rfl) (fun _ _ _ h => h) ⟨by rfl, ?_⟩ hS ?_
    rotate_left
    · intro wq hSw; go_simp; try rfl
    simp only [Act.put, List.setIfInBounds_toArray, List.set_cons_zero, List.set_cons_succ]
    have D1 := hide hS
    clear hS
    generalize w1.drew = x1 at *
    refine wpAnyH_ready (rs := [10]) (by kernel_rfl) (by simp) ?_
    refine AllReadyH.cons rfl (fun K hK => ?_) AllReadyH.nil
    go_simp
    go_wp2_with fail
    refine hK.out _ _ (D1.out.alloc D1.out.size _) (fun hS => ?_)
    clear hK K hS
    (try simp only [Act.put, List.setIfInBounds_toArray, List.set_cons_zero, List.set_cons_succ])
    refine wpAnyH_ready (rs := [11]) (by kernel_rfl) (by simp) ?_
    refine AllReadyH.cons rfl (fun K hK => ?_) AllReadyH.nil
    go_simp
    go_wp2_with fail
    refine hK.out _ _ (D1.out.alloc D1.out.size _) (fun hS => ?_)
    clear hK K
    (try simp only [Act.put])
    refine take_at 12 (some 7) (v := ?_) rfl rfl (by kernel_rfl) (by kernel_rfl) (by kernel_rfl) (fun _ _ _ h => h) ⟨by rfl, ?_⟩ hS ?_
    rotate_left
    · intro wq hSw; go_simp; try rfl
    simp only [Act.put, List.setIfInBounds_toArray, List.set_cons_zero, List.set_cons_succ]
    clear hS
    refine wpAnyH_done (by kernel_rfl) ?_ _
    have b1 := alloc_below x1 (.cells #[.int .i64 0, .int .i64 0, .bool false, .bool false] 58)
    have y0 := (HA.out.box ((HX.out.below D1.out).below b1))
    obtain ⟨y0, -, -, y3⟩ := y0
    obtain ⟨y4, -⟩ := ((HF.out.below D1.out).below b1).get 0 _ rfl
    have HBz := hide (HB.out.trans (D1.out.mono HB.out.size))
    clear b1 y3 y4
    go_wp2_with fail
    go_ret
    exact ⟨rfl, HBz.out.alloc HBz.out.size _⟩
  | some x =>
    have HG := hide hg
    have e1 := hk x
    have K1 := fun w => KF x w
    rw [← e1] at K1
    obtain ⟨a1, a2, a3, a4⟩ := x
    unfold lvV at K1
    clear hg hk KF e1
    simp only
    generalize fitsK k ⟨a1, a2, a3, a4⟩ = q at *
    by_cases hp : prev = a2
    · by_cases hl : a2 < lsn
      · rw [if_pos ⟨hp, hl⟩]
        have d1 : (prev != a2) = false := by simpa using hp
        have d2 : decide (lsn ≤ a2) = false := by simp; omega
        cases q
        · clear hp hl
          go_enter Tryz.func86, Tryz.ntmps86
          go_upto_region 1 with fail
          refine named (P := Code.wp _ _ _ _) ?_
          intro w1 hw1
          obtain ⟨rb, hrb⟩ : ∃ rb, rb = w.heap.size := ⟨_, rfl⟩
          have HP := hide (show PT w1 b m t by rw [hw1]; exact h.below (alloc_below _ _))
          have HX := hide (show RBox w1 rb 55 rc by rw [hw1, hrb]; exact RBox.new _ _ _)
          have HB := hide (show Below w.heap.size w w1 by rw [hw1]; exact alloc_below _ _)
          have HN := hide (show ¬ rb = m by have := h.lt; omega)
          have HA := hide hr
          rw [← hrb]
          have HF := hide (show Cells w1 fb [fv 68] by rw [hw1]; exact hf.below (alloc_below _ _))
          clear hw1 hrb h hr hf
          refine wp_region_held_drew (S := fun wq => Below w1.heap.size w1 wq) (by kernel_rfl) (Below.refl _ _).drew (fun hS => ?_)
          refine take_at 0 (some 9) (v := ?_) rfl rfl (by kernel_rfl) (by kernel_rfl) (by kernel_rfl) (fun _ _ _ h => h) ⟨by rfl, ?_⟩ hS ?_
          rotate_left
          · intro wq hSw; go_simp; try rfl
          simp only [Act.put, List.setIfInBounds_toArray, List.set_cons_zero, List.set_cons_succ]
          refine take_at 1 (some 10) (v := ?_) rfl rfl (by kernel_rfl) (by kernel_rfl) (by kernel_rfl) (fun _ _ _ h => h) ⟨by rfl, ?_⟩ hS ?_
          rotate_left
          · intro wq hSw; go_simp; try rfl
          simp only [Act.put, List.setIfInBounds_toArray, List.set_cons_zero, List.set_cons_succ]
          refine take_at 2 (some 11) (v := ?_) rfl rfl (by kernel_rfl) (by kernel_rfl) (by kernel_rfl) (fun _ _ _ h => h) ⟨by rfl, ?_⟩ hS ?_
          rotate_left
          · intro wq hSw; go_simp; try rfl
          simp only [Act.put, List.setIfInBounds_toArray, List.set_cons_zero, List.set_cons_succ]
          refine take_at 3 (some 12) (v := ?_) rfl rfl (by kernel_rfl) (by kernel_rfl) (by kernel_rfl) (fun _ _ _ h => h) ⟨by rfl, ?_⟩ hS ?_
          rotate_left
          · intro wq hSw; have q := ((HP.out.below hSw).box.get 0 _ rfl).1; go_simp; try rfl
          simp only [Act.put, List.setIfInBounds_toArray, List.set_cons_zero, List.set_cons_succ]
          refine take_at 4 (some 13) (v := ?_) rfl rfl (by kernel_rfl) (by kernel_rfl) (by kernel_rfl) (fun _ _ _ h => h) ⟨by rfl, ?_⟩ hS ?_
          rotate_left
          · intro wq hSw; go_simp; try rfl
          simp only [Act.put, List.setIfInBounds_toArray, List.set_cons_zero, List.set_cons_succ]
          refine take_at 5 (some 14) (v := ?_) rfl rfl (by kernel_rfl) (by kernel_rfl) (by kernel_rfl) (fun _ _ _ h => h) ⟨by rfl, ?_⟩ hS ?_
          rotate_left
          · intro wq hSw; have q := (HA.out.box (HX.out.below hSw)).2.2.1; go_simp; try rfl
          simp only [Act.put, List.setIfInBounds_toArray, List.set_cons_zero, List.set_cons_succ]
          refine take_at 6 (some 15) (v := ?_) rfl rfl (by kernel_rfl) (by kernel_rfl) (by kernel_rfl) (fun _ _ _ h => h) ⟨by rfl, ?_⟩ hS ?_
          rotate_left
          · intro wq hSw; have q := (HP.out.below hSw).look2 hx; rw [HG.out] at q; simp only [Option.map_some, Option.getD_some, Option.isSome_some, lvV] at q; go_simp; try rfl
          simp only [Act.put, List.setIfInBounds_toArray, List.set_cons_zero, List.set_cons_succ]
          refine take_at 7 (some 8) (v := ?_) rfl rfl (by kernel_rfl) (by kernel_rfl) (by kernel_rfl) (fun _ _ _ h => h) ⟨by rfl, ?_⟩ hS ?_
          rotate_left
          · intro wq hSw; go_simp; try rfl
          simp only [Act.put, List.setIfInBounds_toArray, List.set_cons_zero, List.set_cons_succ]
          refine take_at 8 (some 16) (v := ?_) rfl rfl (by kernel_rfl) (by kernel_rfl) (by kernel_rfl) (fun _ _ _ h => h) ⟨by rfl, ?_⟩ hS ?_
          rotate_left
          · intro wq hSw; go_simp; try rfl
          simp only [Act.put, List.setIfInBounds_toArray, List.set_cons_zero, List.set_cons_succ]
          refine take_at 9 (some 17) (v := ?_) rfl rfl (by kernel_rfl) (by kernel_rfl) (by kernel_rfl) (fun _ _ _ h => h) ⟨by rfl, ?_⟩ hS ?_
          rotate_left
          · intro wq hSw; go_simp; try rfl
          simp only [Act.put, List.setIfInBounds_toArray, List.set_cons_zero, List.set_cons_succ]
          have D1 := hide hS
          clear hS
          generalize w1.drew = x1 at *
          refine wpAnyH_ready (rs := [10]) (by kernel_rfl) (by simp) ?_
          refine AllReadyH.cons rfl (fun K hK => ?_) AllReadyH.nil
          go_simp
          go_wp2_with fail
          refine hK.out _ _ (D1.out.alloc D1.out.size _) (fun hS => ?_)
          clear hK K hS
          (try simp only [Act.put, List.setIfInBounds_toArray, List.set_cons_zero, List.set_cons_succ])
          refine wpAnyH_ready (rs := [11]) (by kernel_rfl) (by simp) ?_
          refine AllReadyH.cons rfl (fun K hK => ?_) AllReadyH.nil
          go_simp
          go_wp2_with fail
          refine hK.out _ _ (D1.out.alloc D1.out.size _) (fun hS => ?_)
          clear hK K
          (try simp only [Act.put])
          refine take_at 12 (some 7) (v := ?_) rfl rfl (by kernel_rfl) (by kernel_rfl) (by kernel_rfl) (fun _ _ _ h => h) ⟨by rfl, ?_⟩ hS ?_
          rotate_left
          · intro wq hSw; go_simp; try rfl
          simp only [Act.put, List.setIfInBounds_toArray, List.set_cons_zero, List.set_cons_succ]
          clear hS
          refine wpAnyH_done (by kernel_rfl) ?_ _
          have b1 := alloc_below x1 (.cells #[.int .i64 a1, .int .i64 a2, .bool a3, .bool a4] 58)
          have y0 := (HA.out.box ((HX.out.below D1.out).below b1))
          obtain ⟨y0, -, -, y3⟩ := y0
          obtain ⟨y4, -⟩ := ((HF.out.below D1.out).below b1).get 0 _ rfl
          have HBz := hide (HB.out.trans (D1.out.mono HB.out.size))
          have B1 := hide b1
          clear b1
          go_wp2_with fail
          refine (K1 _).mono ?_
          rintro e w2 ⟨rfl, hb⟩
          have HBf := hide (HBz.out.trans ((B1.out.trans (hb.mono B1.out.size)).mono HBz.out.size))
          clear hb
          go_wp2_with fail
          go_ret
          exact ⟨rfl, HBf.out⟩
        · clear hp hl
          go_enter Tryz.func86, Tryz.ntmps86
          go_upto_region 1 with fail
          refine named (P := Code.wp _ _ _ _) ?_
          intro w1 hw1
          obtain ⟨rb, hrb⟩ : ∃ rb, rb = w.heap.size := ⟨_, rfl⟩
          have HP := hide (show PT w1 b m t by rw [hw1]; exact h.below (alloc_below _ _))
          have HX := hide (show RBox w1 rb 55 rc by rw [hw1, hrb]; exact RBox.new _ _ _)
          have HB := hide (show Below w.heap.size w w1 by rw [hw1]; exact alloc_below _ _)
          have HN := hide (show ¬ rb = m by have := h.lt; omega)
          have HA := hide hr
          rw [← hrb]
          have HF := hide (show Cells w1 fb [fv 68] by rw [hw1]; exact hf.below (alloc_below _ _))
          clear hw1 hrb h hr hf
          refine wp_region_held_drew (S := fun wq => Below w1.heap.size w1 wq) (by kernel_rfl) (Below.refl _ _).drew (fun hS => ?_)
          refine take_at 0 (some 9) (v := ?_) rfl rfl (by kernel_rfl) (by kernel_rfl) (by kernel_rfl) (fun _ _ _ h => h) ⟨by rfl, ?_⟩ hS ?_
          rotate_left
          · intro wq hSw; go_simp; try rfl
          simp only [Act.put, List.setIfInBounds_toArray, List.set_cons_zero, List.set_cons_succ]
          refine take_at 1 (some 10) (v := ?_) rfl rfl (by kernel_rfl) (by kernel_rfl) (by kernel_rfl) (fun _ _ _ h => h) ⟨by rfl, ?_⟩ hS ?_
          rotate_left
          · intro wq hSw; go_simp; try rfl
          simp only [Act.put, List.setIfInBounds_toArray, List.set_cons_zero, List.set_cons_succ]
          refine take_at 2 (some 11) (v := ?_) rfl rfl (by kernel_rfl) (by kernel_rfl) (by kernel_rfl) (fun _ _ _ h => h) ⟨by rfl, ?_⟩ hS ?_
          rotate_left
          · intro wq hSw; go_simp; try rfl
          simp only [Act.put, List.setIfInBounds_toArray, List.set_cons_zero, List.set_cons_succ]
          refine take_at 3 (some 12) (v := ?_) rfl rfl (by kernel_rfl) (by kernel_rfl) (by kernel_rfl) (fun _ _ _ h => h) ⟨by rfl, ?_⟩ hS ?_
          rotate_left
          · intro wq hSw; have q := ((HP.out.below hSw).box.get 0 _ rfl).1; go_simp; try rfl
          simp only [Act.put, List.setIfInBounds_toArray, List.set_cons_zero, List.set_cons_succ]
          refine take_at 4 (some 13) (v := ?_) rfl rfl (by kernel_rfl) (by kernel_rfl) (by kernel_rfl) (fun _ _ _ h => h) ⟨by rfl, ?_⟩ hS ?_
          rotate_left
          · intro wq hSw; go_simp; try rfl
          simp only [Act.put, List.setIfInBounds_toArray, List.set_cons_zero, List.set_cons_succ]
          refine take_at 5 (some 14) (v := ?_) rfl rfl (by kernel_rfl) (by kernel_rfl) (by kernel_rfl) (fun _ _ _ h => h) ⟨by rfl, ?_⟩ hS ?_
          rotate_left
          · intro wq hSw; have q := (HA.out.box (HX.out.below hSw)).2.2.1; go_simp; try rfl
          simp only [Act.put, List.setIfInBounds_toArray, List.set_cons_zero, List.set_cons_succ]
          refine take_at 6 (some 15) (v := ?_) rfl rfl (by kernel_rfl) (by kernel_rfl) (by kernel_rfl) (fun _ _ _ h => h) ⟨by rfl, ?_⟩ hS ?_
          rotate_left
          · intro wq hSw; have q := (HP.out.below hSw).look2 hx; rw [HG.out] at q; simp only [Option.map_some, Option.getD_some, Option.isSome_some, lvV] at q; go_simp; try rfl
          simp only [Act.put, List.setIfInBounds_toArray, List.set_cons_zero, List.set_cons_succ]
          refine take_at 7 (some 8) (v := ?_) rfl rfl (by kernel_rfl) (by kernel_rfl) (by kernel_rfl) (fun _ _ _ h => h) ⟨by rfl, ?_⟩ hS ?_
          rotate_left
          · intro wq hSw; go_simp; try rfl
          simp only [Act.put, List.setIfInBounds_toArray, List.set_cons_zero, List.set_cons_succ]
          refine take_at 8 (some 16) (v := ?_) rfl rfl (by kernel_rfl) (by kernel_rfl) (by kernel_rfl) (fun _ _ _ h => h) ⟨by rfl, ?_⟩ hS ?_
          rotate_left
          · intro wq hSw; go_simp; try rfl
          simp only [Act.put, List.setIfInBounds_toArray, List.set_cons_zero, List.set_cons_succ]
          refine take_at 9 (some 17) (v := ?_) rfl rfl (by kernel_rfl) (by kernel_rfl) (by kernel_rfl) (fun _ _ _ h => h) ⟨by rfl, ?_⟩ hS ?_
          rotate_left
          · intro wq hSw; go_simp; try rfl
          simp only [Act.put, List.setIfInBounds_toArray, List.set_cons_zero, List.set_cons_succ]
          have D1 := hide hS
          clear hS
          generalize w1.drew = x1 at *
          refine wpAnyH_ready (rs := [10]) (by kernel_rfl) (by simp) ?_
          refine AllReadyH.cons rfl (fun K hK => ?_) AllReadyH.nil
          go_simp
          go_wp2_with fail
          refine hK.out _ _ (D1.out.alloc D1.out.size _) (fun hS => ?_)
          clear hK K hS
          (try simp only [Act.put, List.setIfInBounds_toArray, List.set_cons_zero, List.set_cons_succ])
          refine wpAnyH_ready (rs := [11]) (by kernel_rfl) (by simp) ?_
          refine AllReadyH.cons rfl (fun K hK => ?_) AllReadyH.nil
          go_simp
          go_wp2_with fail
          refine hK.out _ _ (D1.out.alloc D1.out.size _) (fun hS => ?_)
          clear hK K
          (try simp only [Act.put])
          refine take_at 12 (some 7) (v := ?_) rfl rfl (by kernel_rfl) (by kernel_rfl) (by kernel_rfl) (fun _ _ _ h => h) ⟨by rfl, ?_⟩ hS ?_
          rotate_left
          · intro wq hSw; go_simp; try rfl
          simp only [Act.put, List.setIfInBounds_toArray, List.set_cons_zero, List.set_cons_succ]
          clear hS
          refine wpAnyH_done (by kernel_rfl) ?_ _
          have b1 := alloc_below x1 (.cells #[.int .i64 a1, .int .i64 a2, .bool a3, .bool a4] 58)
          have y0 := (HA.out.box ((HX.out.below D1.out).below b1))
          obtain ⟨y0, -, -, y3⟩ := y0
          obtain ⟨y4, -⟩ := ((HF.out.below D1.out).below b1).get 0 _ rfl
          have HBz := hide (HB.out.trans (D1.out.mono HB.out.size))
          have B1 := hide b1
          clear b1
          go_wp2_with fail
          refine (K1 _).mono ?_
          rintro e w2 ⟨rfl, hb⟩
          have HBf := hide (HBz.out.trans ((B1.out.trans (hb.mono B1.out.size)).mono HBz.out.size))
          clear hb
          go_wp2_with fail
          go_ret
          exact ⟨rfl, HBf.out⟩
      · rw [if_neg (fun r => hl r.2)]
        have d1 : (prev != a2) = false := by simpa using hp
        have d2 : decide (lsn ≤ a2) = true := by simp; omega
        clear hp
        go_enter Tryz.func86, Tryz.ntmps86
        go_upto_region 1 with fail
        refine named (P := Code.wp _ _ _ _) ?_
        intro w1 hw1
        obtain ⟨rb, hrb⟩ : ∃ rb, rb = w.heap.size := ⟨_, rfl⟩
        have HP := hide (show PT w1 b m t by rw [hw1]; exact h.below (alloc_below _ _))
        have HX := hide (show RBox w1 rb 55 rc by rw [hw1, hrb]; exact RBox.new _ _ _)
        have HB := hide (show Below w.heap.size w w1 by rw [hw1]; exact alloc_below _ _)
        have HN := hide (show ¬ rb = m by have := h.lt; omega)
        have HA := hide hr
        rw [← hrb]
        have HF := hide (show Cells w1 fb [fv 68] by rw [hw1]; exact hf.below (alloc_below _ _))
        clear hw1 hrb h hr hf
        refine wp_region_held_drew (S := fun wq => Below w1.heap.size w1 wq) (by kernel_rfl) (Below.refl _ _).drew (fun hS => ?_)
        refine take_at 0 (some 9) (v := ?_) rfl rfl (by kernel_rfl) (by kernel_rfl) (by kernel_rfl) (fun _ _ _ h => h) ⟨by rfl, ?_⟩ hS ?_
        rotate_left
        · intro wq hSw; go_simp; try rfl
        simp only [Act.put, List.setIfInBounds_toArray, List.set_cons_zero, List.set_cons_succ]
        refine take_at 1 (some 10) (v := ?_) rfl rfl (by kernel_rfl) (by kernel_rfl) (by kernel_rfl) (fun _ _ _ h => h) ⟨by rfl, ?_⟩ hS ?_
        rotate_left
        · intro wq hSw; go_simp; try rfl
        simp only [Act.put, List.setIfInBounds_toArray, List.set_cons_zero, List.set_cons_succ]
        refine take_at 2 (some 11) (v := ?_) rfl rfl (by kernel_rfl) (by kernel_rfl) (by kernel_rfl) (fun _ _ _ h => h) ⟨by rfl, ?_⟩ hS ?_
        rotate_left
        · intro wq hSw; go_simp; try rfl
        simp only [Act.put, List.setIfInBounds_toArray, List.set_cons_zero, List.set_cons_succ]
        refine take_at 3 (some 12) (v := ?_) rfl rfl (by kernel_rfl) (by kernel_rfl) (by kernel_rfl) (fun _ _ _ h => h) ⟨by rfl, ?_⟩ hS ?_
        rotate_left
        · intro wq hSw; have q := ((HP.out.below hSw).box.get 0 _ rfl).1; go_simp; try rfl
        simp only [Act.put, List.setIfInBounds_toArray, List.set_cons_zero, List.set_cons_succ]
        refine take_at 4 (some 13) (v := ?_) rfl rfl (by kernel_rfl) (by kernel_rfl) (by kernel_rfl) (fun _ _ _ h => h) ⟨by rfl, ?_⟩ hS ?_
        rotate_left
        · intro wq hSw; go_simp; try rfl
        simp only [Act.put, List.setIfInBounds_toArray, List.set_cons_zero, List.set_cons_succ]
        refine take_at 5 (some 14) (v := ?_) rfl rfl (by kernel_rfl) (by kernel_rfl) (by kernel_rfl) (fun _ _ _ h => h) ⟨by rfl, ?_⟩ hS ?_
        rotate_left
        · intro wq hSw; have q := (HA.out.box (HX.out.below hSw)).2.2.1; go_simp; try rfl
        simp only [Act.put, List.setIfInBounds_toArray, List.set_cons_zero, List.set_cons_succ]
        refine take_at 6 (some 15) (v := ?_) rfl rfl (by kernel_rfl) (by kernel_rfl) (by kernel_rfl) (fun _ _ _ h => h) ⟨by rfl, ?_⟩ hS ?_
        rotate_left
        · intro wq hSw; have q := (HP.out.below hSw).look2 hx; rw [HG.out] at q; simp only [Option.map_some, Option.getD_some, Option.isSome_some, lvV] at q; go_simp; try rfl
        simp only [Act.put, List.setIfInBounds_toArray, List.set_cons_zero, List.set_cons_succ]
        refine take_at 7 (some 8) (v := ?_) rfl rfl (by kernel_rfl) (by kernel_rfl) (by kernel_rfl) (fun _ _ _ h => h) ⟨by rfl, ?_⟩ hS ?_
        rotate_left
        · intro wq hSw; go_simp; try rfl
        simp only [Act.put, List.setIfInBounds_toArray, List.set_cons_zero, List.set_cons_succ]
        refine take_at 8 (some 16) (v := ?_) rfl rfl (by kernel_rfl) (by kernel_rfl) (by kernel_rfl) (fun _ _ _ h => h) ⟨by rfl, ?_⟩ hS ?_
        rotate_left
        · intro wq hSw; go_simp; try rfl
        simp only [Act.put, List.setIfInBounds_toArray, List.set_cons_zero, List.set_cons_succ]
        refine take_at 9 (some 17) (v := ?_) rfl rfl (by kernel_rfl) (by kernel_rfl) (by kernel_rfl) (fun _ _ _ h => h) ⟨by rfl, ?_⟩ hS ?_
        rotate_left
        · intro wq hSw; go_simp; try rfl
        simp only [Act.put, List.setIfInBounds_toArray, List.set_cons_zero, List.set_cons_succ]
        have D1 := hide hS
        clear hS
        generalize w1.drew = x1 at *
        refine wpAnyH_ready (rs := [10]) (by kernel_rfl) (by simp) ?_
        refine AllReadyH.cons rfl (fun K hK => ?_) AllReadyH.nil
        go_simp
        go_wp2_with fail
        refine hK.out _ _ (D1.out.alloc D1.out.size _) (fun hS => ?_)
        clear hK K hS
        (try simp only [Act.put, List.setIfInBounds_toArray, List.set_cons_zero, List.set_cons_succ])
        refine wpAnyH_ready (rs := [11]) (by kernel_rfl) (by simp) ?_
        refine AllReadyH.cons rfl (fun K hK => ?_) AllReadyH.nil
        go_simp
        go_wp2_with fail
        refine hK.out _ _ (D1.out.alloc D1.out.size _) (fun hS => ?_)
        clear hK K
        (try simp only [Act.put])
        refine take_at 12 (some 7) (v := ?_) rfl rfl (by kernel_rfl) (by kernel_rfl) (by kernel_rfl) (fun _ _ _ h => h) ⟨by rfl, ?_⟩ hS ?_
        rotate_left
        · intro wq hSw; go_simp; try rfl
        simp only [Act.put, List.setIfInBounds_toArray, List.set_cons_zero, List.set_cons_succ]
        clear hS
        refine wpAnyH_done (by kernel_rfl) ?_ _
        have b1 := alloc_below x1 (.cells #[.int .i64 a1, .int .i64 a2, .bool a3, .bool a4] 58)
        have y0 := (HA.out.box ((HX.out.below D1.out).below b1))
        obtain ⟨y0, -, -, y3⟩ := y0
        obtain ⟨y4, -⟩ := ((HF.out.below D1.out).below b1).get 0 _ rfl
        have HBz := hide (HB.out.trans (D1.out.mono HB.out.size))
        clear b1
        go_wp2_with fail
        go_ret
        exact ⟨rfl, HBz.out.alloc HBz.out.size _⟩
    · rw [if_neg (fun r => hp r.1)]
      have d1 : (prev != a2) = true := by simpa using hp
      have d2 : True := trivial
      clear hp
      go_enter Tryz.func86, Tryz.ntmps86
      go_upto_region 1 with fail
      refine named (P := Code.wp _ _ _ _) ?_
      intro w1 hw1
      obtain ⟨rb, hrb⟩ : ∃ rb, rb = w.heap.size := ⟨_, rfl⟩
      have HP := hide (show PT w1 b m t by rw [hw1]; exact h.below (alloc_below _ _))
      have HX := hide (show RBox w1 rb 55 rc by rw [hw1, hrb]; exact RBox.new _ _ _)
      have HB := hide (show Below w.heap.size w w1 by rw [hw1]; exact alloc_below _ _)
      have HN := hide (show ¬ rb = m by have := h.lt; omega)
      have HA := hide hr
      rw [← hrb]
      have HF := hide (show Cells w1 fb [fv 68] by rw [hw1]; exact hf.below (alloc_below _ _))
      clear hw1 hrb h hr hf
      refine wp_region_held_drew (S := fun wq => Below w1.heap.size w1 wq) (by kernel_rfl) (Below.refl _ _).drew (fun hS => ?_)
      refine take_at 0 (some 9) (v := ?_) rfl rfl (by kernel_rfl) (by kernel_rfl) (by kernel_rfl) (fun _ _ _ h => h) ⟨by rfl, ?_⟩ hS ?_
      rotate_left
      · intro wq hSw; go_simp; try rfl
      simp only [Act.put, List.setIfInBounds_toArray, List.set_cons_zero, List.set_cons_succ]
      refine take_at 1 (some 10) (v := ?_) rfl rfl (by kernel_rfl) (by kernel_rfl) (by kernel_rfl) (fun _ _ _ h => h) ⟨by rfl, ?_⟩ hS ?_
      rotate_left
      · intro wq hSw; go_simp; try rfl
      simp only [Act.put, List.setIfInBounds_toArray, List.set_cons_zero, List.set_cons_succ]
      refine take_at 2 (some 11) (v := ?_) rfl rfl (by kernel_rfl) (by kernel_rfl) (by kernel_rfl) (fun _ _ _ h => h) ⟨by rfl, ?_⟩ hS ?_
      rotate_left
      · intro wq hSw; go_simp; try rfl
      simp only [Act.put, List.setIfInBounds_toArray, List.set_cons_zero, List.set_cons_succ]
      refine take_at 3 (some 12) (v := ?_) rfl rfl (by kernel_rfl) (by kernel_rfl) (by kernel_rfl) (fun _ _ _ h => h) ⟨by rfl, ?_⟩ hS ?_
      rotate_left
      · intro wq hSw; have q := ((HP.out.below hSw).box.get 0 _ rfl).1; go_simp; try rfl
      simp only [Act.put, List.setIfInBounds_toArray, List.set_cons_zero, List.set_cons_succ]
      refine take_at 4 (some 13) (v := ?_) rfl rfl (by kernel_rfl) (by kernel_rfl) (by kernel_rfl) (fun _ _ _ h => h) ⟨by rfl, ?_⟩ hS ?_
      rotate_left
      · intro wq hSw; go_simp; try rfl
      simp only [Act.put, List.setIfInBounds_toArray, List.set_cons_zero, List.set_cons_succ]
      refine take_at 5 (some 14) (v := ?_) rfl rfl (by kernel_rfl) (by kernel_rfl) (by kernel_rfl) (fun _ _ _ h => h) ⟨by rfl, ?_⟩ hS ?_
      rotate_left
      · intro wq hSw; have q := (HA.out.box (HX.out.below hSw)).2.2.1; go_simp; try rfl
      simp only [Act.put, List.setIfInBounds_toArray, List.set_cons_zero, List.set_cons_succ]
      refine take_at 6 (some 15) (v := ?_) rfl rfl (by kernel_rfl) (by kernel_rfl) (by kernel_rfl) (fun _ _ _ h => h) ⟨by rfl, ?_⟩ hS ?_
      rotate_left
      · intro wq hSw; have q := (HP.out.below hSw).look2 hx; rw [HG.out] at q; simp only [Option.map_some, Option.getD_some, Option.isSome_some, lvV] at q; go_simp; try rfl
      simp only [Act.put, List.setIfInBounds_toArray, List.set_cons_zero, List.set_cons_succ]
      refine take_at 7 (some 8) (v := ?_) rfl rfl (by kernel_rfl) (by kernel_rfl) (by kernel_rfl) (fun _ _ _ h => h) ⟨by rfl, ?_⟩ hS ?_
      rotate_left
      · intro wq hSw; go_simp; try rfl
      simp only [Act.put, List.setIfInBounds_toArray, List.set_cons_zero, List.set_cons_succ]
      refine take_at 8 (some 16) (v := ?_) rfl rfl (by kernel_rfl) (by kernel_rfl) (by kernel_rfl) (fun _ _ _ h => h) ⟨by rfl, ?_⟩ hS ?_
      rotate_left
      · intro wq hSw; go_simp; try rfl
      simp only [Act.put, List.setIfInBounds_toArray, List.set_cons_zero, List.set_cons_succ]
      refine take_at 9 (some 17) (v := ?_) rfl rfl (by kernel_rfl) (by kernel_rfl) (by kernel_rfl) (fun _ _ _ h => h) ⟨by rfl, ?_⟩ hS ?_
      rotate_left
      · intro wq hSw; go_simp; try rfl
      simp only [Act.put, List.setIfInBounds_toArray, List.set_cons_zero, List.set_cons_succ]
      have D1 := hide hS
      clear hS
      generalize w1.drew = x1 at *
      refine wpAnyH_ready (rs := [10]) (by kernel_rfl) (by simp) ?_
      refine AllReadyH.cons rfl (fun K hK => ?_) AllReadyH.nil
      go_simp
      go_wp2_with fail
      refine hK.out _ _ (D1.out.alloc D1.out.size _) (fun hS => ?_)
      clear hK K hS
      (try simp only [Act.put, List.setIfInBounds_toArray, List.set_cons_zero, List.set_cons_succ])
      refine wpAnyH_ready (rs := [11]) (by kernel_rfl) (by simp) ?_
      refine AllReadyH.cons rfl (fun K hK => ?_) AllReadyH.nil
      go_simp
      go_wp2_with fail
      refine hK.out _ _ (D1.out.alloc D1.out.size _) (fun hS => ?_)
      clear hK K
      (try simp only [Act.put])
      refine take_at 12 (some 7) (v := ?_) rfl rfl (by kernel_rfl) (by kernel_rfl) (by kernel_rfl) (fun _ _ _ h => h) ⟨by rfl, ?_⟩ hS ?_
      rotate_left
      · intro wq hSw; go_simp; try rfl
      simp only [Act.put, List.setIfInBounds_toArray, List.set_cons_zero, List.set_cons_succ]
      clear hS
      refine wpAnyH_done (by kernel_rfl) ?_ _
      have b1 := alloc_below x1 (.cells #[.int .i64 a1, .int .i64 a2, .bool a3, .bool a4] 58)
      have y0 := (HA.out.box ((HX.out.below D1.out).below b1))
      obtain ⟨y0, -, -, y3⟩ := y0
      obtain ⟨y4, -⟩ := ((HF.out.below D1.out).below b1).get 0 _ rfl
      have HBz := hide (HB.out.trans (D1.out.mono HB.out.size))
      clear b1
      go_wp2_with fail
      go_ret
      exact ⟨rfl, HBz.out.alloc HBz.out.size _⟩
set_option maxHeartbeats 4000000 in
theorem chained52_any (b m : Nat) (t : TbM) (rc : Array Value) (lsn k tx prev : Int) (fb : Nat) (w : World) (h : PT w b m t) (hr : RecA rc lsn k tx prev) (hf : Cells w fb [fv 71]) (hk : ∀ x : Lv, fitsK k x = (x.com || x.und)) : Calls Tryz.prog 86 #[ptr b, .agg rc, ptr fb] w fun r w' => r = .returned (.int .i64 (t.chainE lsn k tx prev)) ∧ Below w.heap.size w w' := by
  have hx := hr.i2
  have KF := fun (x : Lv) w => decided_any x w
  unfold TbM.chainE
  cases hg : getT t.L tx with
  | none =>
    have HG := hide hg
    clear hg hk KF
    simp only
    go_enter Tryz.func86, Tryz.ntmps86
    go_upto_region 1 with fail
    refine named (P := Code.wp _ _ _ _) ?_
    intro w1 hw1
    obtain ⟨rb, hrb⟩ : ∃ rb, rb = w.heap.size := ⟨_, rfl⟩
    have HP := hide (show PT w1 b m t by rw [hw1]; exact h.below (alloc_below _ _))
    have HX := hide (show RBox w1 rb 55 rc by rw [hw1, hrb]; exact RBox.new _ _ _)
    have HB := hide (show Below w.heap.size w w1 by rw [hw1]; exact alloc_below _ _)
    have HN := hide (show ¬ rb = m by have := h.lt; omega)
    have HA := hide hr
    rw [← hrb]
    have HF := hide (show Cells w1 fb [fv 71] by rw [hw1]; exact hf.below (alloc_below _ _))
    clear hw1 hrb h hr hf
    refine wp_region_held_drew (S := fun wq => Below w1.heap.size w1 wq) (by kernel_rfl) (Below.refl _ _).drew (fun hS => ?_)
    refine take_at 0 (some 9) (v := ?_) rfl rfl (by kernel_rfl) (by kernel_rfl) (by kernel_rfl) (fun _ _ _ h => h) ⟨by rfl, ?_⟩ hS ?_
    rotate_left
    · intro wq hSw; go_simp; try rfl
    simp only [Act.put, List.setIfInBounds_toArray, List.set_cons_zero, List.set_cons_succ]
    refine take_at 1 (some 10) (v := ?_) rfl rfl (by kernel_rfl) (by kernel_rfl) (by kernel_rfl) (fun _ _ _ h => h) ⟨by rfl, ?_⟩ hS ?_
    rotate_left
    · intro wq hSw; go_simp; try rfl
    simp only [Act.put, List.setIfInBounds_toArray, List.set_cons_zero, List.set_cons_succ]
    refine take_at 2 (some 11) (v := ?_) rfl rfl (by kernel_rfl) (by kernel_rfl) (by kernel_rfl) (fun _ _ _ h => h) ⟨by rfl, ?_⟩ hS ?_
    rotate_left
    · intro wq hSw; go_simp; try rfl
    simp only [Act.put, List.setIfInBounds_toArray, List.set_cons_zero, List.set_cons_succ]
    refine take_at 3 (some 12) (v := ?_) rfl rfl (by kernel_rfl) (by kernel_rfl) (by kernel_rfl) (fun _ _ _ h => h) ⟨by rfl, ?_⟩ hS ?_
    rotate_left
    · intro wq hSw; have q := ((HP.out.below hSw).box.get 0 _ rfl).1; go_simp; try rfl
    simp only [Act.put, List.setIfInBounds_toArray, List.set_cons_zero, List.set_cons_succ]
    refine take_at 4 (some 13) (v := ?_) rfl rfl (by kernel_rfl) (by kernel_rfl) (by kernel_rfl) (fun _ _ _ h => h) ⟨by rfl, ?_⟩ hS ?_
    rotate_left
    · intro wq hSw; go_simp; try rfl
    simp only [Act.put, List.setIfInBounds_toArray, List.set_cons_zero, List.set_cons_succ]
    refine take_at 5 (some 14) (v := ?_) rfl rfl (by kernel_rfl) (by kernel_rfl) (by kernel_rfl) (fun _ _ _ h => h) ⟨by rfl, ?_⟩ hS ?_
    rotate_left
    · intro wq hSw; have q := (HA.out.box (HX.out.below hSw)).2.2.1; go_simp; try rfl
    simp only [Act.put, List.setIfInBounds_toArray, List.set_cons_zero, List.set_cons_succ]
    refine take_at 6 (some 15) (v := ?_) rfl rfl (by kernel_rfl) (by kernel_rfl) (by kernel_rfl) (fun _ _ _ h => h) ⟨by rfl, ?_⟩ hS ?_
    rotate_left
    · intro wq hSw; have q := (HP.out.below hSw).look2 hx; rw [HG.out] at q; simp only [Option.map_none, Option.getD_none, Option.isSome_none, lvV] at q; go_simp; try rfl
    simp only [Act.put, List.setIfInBounds_toArray, List.set_cons_zero, List.set_cons_succ]
    refine take_at 7 (some 8) (v := ?_) rfl rfl (by kernel_rfl) (by kernel_rfl) (by kernel_rfl) (fun _ _ _ h => h) ⟨by rfl, ?_⟩ hS ?_
    rotate_left
    · intro wq hSw; go_simp; try rfl
    simp only [Act.put, List.setIfInBounds_toArray, List.set_cons_zero, List.set_cons_succ]
    refine take_at 8 (some 16) (v := ?_) rfl rfl (by kernel_rfl) (by kernel_rfl) (by kernel_rfl) (fun _ _ _ h => h) ⟨by rfl, ?_⟩ hS ?_
    rotate_left
    · intro wq hSw; go_simp; try rfl
    simp only [Act.put, List.setIfInBounds_toArray, List.set_cons_zero, List.set_cons_succ]
    refine take_at 9 (some 17) (v := ?_) rfl rfl (by kernel_rfl) (by kernel_rfl) (by kernel_rfl) (fun _ _ _ h => h) ⟨by rfl, ?_⟩ hS ?_
    rotate_left
    · intro wq hSw; go_simp; try rfl
    simp only [Act.put, List.setIfInBounds_toArray, List.set_cons_zero, List.set_cons_succ]
    have D1 := hide hS
    clear hS
    generalize w1.drew = x1 at *
    refine wpAnyH_ready (rs := [10]) (by kernel_rfl) (by simp) ?_
    refine AllReadyH.cons rfl (fun K hK => ?_) AllReadyH.nil
    go_simp
    go_wp2_with fail
    refine hK.out _ _ (D1.out.alloc D1.out.size _) (fun hS => ?_)
    clear hK K hS
    (try simp only [Act.put, List.setIfInBounds_toArray, List.set_cons_zero, List.set_cons_succ])
    refine wpAnyH_ready (rs := [11]) (by kernel_rfl) (by simp) ?_
    refine AllReadyH.cons rfl (fun K hK => ?_) AllReadyH.nil
    go_simp
    go_wp2_with fail
    refine hK.out _ _ (D1.out.alloc D1.out.size _) (fun hS => ?_)
    clear hK K
    (try simp only [Act.put])
    refine take_at 12 (some 7) (v := ?_) rfl rfl (by kernel_rfl) (by kernel_rfl) (by kernel_rfl) (fun _ _ _ h => h) ⟨by rfl, ?_⟩ hS ?_
    rotate_left
    · intro wq hSw; go_simp; try rfl
    simp only [Act.put, List.setIfInBounds_toArray, List.set_cons_zero, List.set_cons_succ]
    clear hS
    refine wpAnyH_done (by kernel_rfl) ?_ _
    have b1 := alloc_below x1 (.cells #[.int .i64 0, .int .i64 0, .bool false, .bool false] 58)
    have y0 := (HA.out.box ((HX.out.below D1.out).below b1))
    obtain ⟨y0, -, -, y3⟩ := y0
    obtain ⟨y4, -⟩ := ((HF.out.below D1.out).below b1).get 0 _ rfl
    have HBz := hide (HB.out.trans (D1.out.mono HB.out.size))
    clear b1 y3 y4
    go_wp2_with fail
    go_ret
    exact ⟨rfl, HBz.out.alloc HBz.out.size _⟩
  | some x =>
    have HG := hide hg
    have e1 := hk x
    have K1 := fun w => KF x w
    rw [← e1] at K1
    obtain ⟨a1, a2, a3, a4⟩ := x
    unfold lvV at K1
    clear hg hk KF e1
    simp only
    generalize fitsK k ⟨a1, a2, a3, a4⟩ = q at *
    by_cases hp : prev = a2
    · by_cases hl : a2 < lsn
      · rw [if_pos ⟨hp, hl⟩]
        have d1 : (prev != a2) = false := by simpa using hp
        have d2 : decide (lsn ≤ a2) = false := by simp; omega
        cases q
        · clear hp hl
          go_enter Tryz.func86, Tryz.ntmps86
          go_upto_region 1 with fail
          refine named (P := Code.wp _ _ _ _) ?_
          intro w1 hw1
          obtain ⟨rb, hrb⟩ : ∃ rb, rb = w.heap.size := ⟨_, rfl⟩
          have HP := hide (show PT w1 b m t by rw [hw1]; exact h.below (alloc_below _ _))
          have HX := hide (show RBox w1 rb 55 rc by rw [hw1, hrb]; exact RBox.new _ _ _)
          have HB := hide (show Below w.heap.size w w1 by rw [hw1]; exact alloc_below _ _)
          have HN := hide (show ¬ rb = m by have := h.lt; omega)
          have HA := hide hr
          rw [← hrb]
          have HF := hide (show Cells w1 fb [fv 71] by rw [hw1]; exact hf.below (alloc_below _ _))
          clear hw1 hrb h hr hf
          refine wp_region_held_drew (S := fun wq => Below w1.heap.size w1 wq) (by kernel_rfl) (Below.refl _ _).drew (fun hS => ?_)
          refine take_at 0 (some 9) (v := ?_) rfl rfl (by kernel_rfl) (by kernel_rfl) (by kernel_rfl) (fun _ _ _ h => h) ⟨by rfl, ?_⟩ hS ?_
          rotate_left
          · intro wq hSw; go_simp; try rfl
          simp only [Act.put, List.setIfInBounds_toArray, List.set_cons_zero, List.set_cons_succ]
          refine take_at 1 (some 10) (v := ?_) rfl rfl (by kernel_rfl) (by kernel_rfl) (by kernel_rfl) (fun _ _ _ h => h) ⟨by rfl, ?_⟩ hS ?_
          rotate_left
          · intro wq hSw; go_simp; try rfl
          simp only [Act.put, List.setIfInBounds_toArray, List.set_cons_zero, List.set_cons_succ]
          refine take_at 2 (some 11) (v := ?_) rfl rfl (by kernel_rfl) (by kernel_rfl) (by kernel_rfl) (fun _ _ _ h => h) ⟨by rfl, ?_⟩ hS ?_
          rotate_left
          · intro wq hSw; go_simp; try rfl
          simp only [Act.put, List.setIfInBounds_toArray, List.set_cons_zero, List.set_cons_succ]
          refine take_at 3 (some 12) (v := ?_) rfl rfl (by kernel_rfl) (by kernel_rfl) (by kernel_rfl) (fun _ _ _ h => h) ⟨by rfl, ?_⟩ hS ?_
          rotate_left
          · intro wq hSw; have q := ((HP.out.below hSw).box.get 0 _ rfl).1; go_simp; try rfl
          simp only [Act.put, List.setIfInBounds_toArray, List.set_cons_zero, List.set_cons_succ]
          refine take_at 4 (some 13) (v := ?_) rfl rfl (by kernel_rfl) (by kernel_rfl) (by kernel_rfl) (fun _ _ _ h => h) ⟨by rfl, ?_⟩ hS ?_
          rotate_left
          · intro wq hSw; go_simp; try rfl
          simp only [Act.put, List.setIfInBounds_toArray, List.set_cons_zero, List.set_cons_succ]
          refine take_at 5 (some 14) (v := ?_) rfl rfl (by kernel_rfl) (by kernel_rfl) (by kernel_rfl) (fun _ _ _ h => h) ⟨by rfl, ?_⟩ hS ?_
          rotate_left
          · intro wq hSw; have q := (HA.out.box (HX.out.below hSw)).2.2.1; go_simp; try rfl
          simp only [Act.put, List.setIfInBounds_toArray, List.set_cons_zero, List.set_cons_succ]
          refine take_at 6 (some 15) (v := ?_) rfl rfl (by kernel_rfl) (by kernel_rfl) (by kernel_rfl) (fun _ _ _ h => h) ⟨by rfl, ?_⟩ hS ?_
          rotate_left
          · intro wq hSw; have q := (HP.out.below hSw).look2 hx; rw [HG.out] at q; simp only [Option.map_some, Option.getD_some, Option.isSome_some, lvV] at q; go_simp; try rfl
          simp only [Act.put, List.setIfInBounds_toArray, List.set_cons_zero, List.set_cons_succ]
          refine take_at 7 (some 8) (v := ?_) rfl rfl (by kernel_rfl) (by kernel_rfl) (by kernel_rfl) (fun _ _ _ h => h) ⟨by rfl, ?_⟩ hS ?_
          rotate_left
          · intro wq hSw; go_simp; try rfl
          simp only [Act.put, List.setIfInBounds_toArray, List.set_cons_zero, List.set_cons_succ]
          refine take_at 8 (some 16) (v := ?_) rfl rfl (by kernel_rfl) (by kernel_rfl) (by kernel_rfl) (fun _ _ _ h => h) ⟨by rfl, ?_⟩ hS ?_
          rotate_left
          · intro wq hSw; go_simp; try rfl
          simp only [Act.put, List.setIfInBounds_toArray, List.set_cons_zero, List.set_cons_succ]
          refine take_at 9 (some 17) (v := ?_) rfl rfl (by kernel_rfl) (by kernel_rfl) (by kernel_rfl) (fun _ _ _ h => h) ⟨by rfl, ?_⟩ hS ?_
          rotate_left
          · intro wq hSw; go_simp; try rfl
          simp only [Act.put, List.setIfInBounds_toArray, List.set_cons_zero, List.set_cons_succ]
          have D1 := hide hS
          clear hS
          generalize w1.drew = x1 at *
          refine wpAnyH_ready (rs := [10]) (by kernel_rfl) (by simp) ?_
          refine AllReadyH.cons rfl (fun K hK => ?_) AllReadyH.nil
          go_simp
          go_wp2_with fail
          refine hK.out _ _ (D1.out.alloc D1.out.size _) (fun hS => ?_)
          clear hK K hS
          (try simp only [Act.put, List.setIfInBounds_toArray, List.set_cons_zero, List.set_cons_succ])
          refine wpAnyH_ready (rs := [11]) (by kernel_rfl) (by simp) ?_
          refine AllReadyH.cons rfl (fun K hK => ?_) AllReadyH.nil
          go_simp
          go_wp2_with fail
          refine hK.out _ _ (D1.out.alloc D1.out.size _) (fun hS => ?_)
          clear hK K
          (try simp only [Act.put])
          refine take_at 12 (some 7) (v := ?_) rfl rfl (by kernel_rfl) (by kernel_rfl) (by kernel_rfl) (fun _ _ _ h => h) ⟨by rfl, ?_⟩ hS ?_
          rotate_left
          · intro wq hSw; go_simp; try rfl
          simp only [Act.put, List.setIfInBounds_toArray, List.set_cons_zero, List.set_cons_succ]
          clear hS
          refine wpAnyH_done (by kernel_rfl) ?_ _
          have b1 := alloc_below x1 (.cells #[.int .i64 a1, .int .i64 a2, .bool a3, .bool a4] 58)
          have y0 := (HA.out.box ((HX.out.below D1.out).below b1))
          obtain ⟨y0, -, -, y3⟩ := y0
          obtain ⟨y4, -⟩ := ((HF.out.below D1.out).below b1).get 0 _ rfl
          have HBz := hide (HB.out.trans (D1.out.mono HB.out.size))
          have B1 := hide b1
          clear b1
          go_wp2_with fail
          refine (K1 _).mono ?_
          rintro e w2 ⟨rfl, hb⟩
          have HBf := hide (HBz.out.trans ((B1.out.trans (hb.mono B1.out.size)).mono HBz.out.size))
          clear hb
          go_wp2_with fail
          go_ret
          exact ⟨rfl, HBf.out⟩
        · clear hp hl
          go_enter Tryz.func86, Tryz.ntmps86
          go_upto_region 1 with fail
          refine named (P := Code.wp _ _ _ _) ?_
          intro w1 hw1
          obtain ⟨rb, hrb⟩ : ∃ rb, rb = w.heap.size := ⟨_, rfl⟩
          have HP := hide (show PT w1 b m t by rw [hw1]; exact h.below (alloc_below _ _))
          have HX := hide (show RBox w1 rb 55 rc by rw [hw1, hrb]; exact RBox.new _ _ _)
          have HB := hide (show Below w.heap.size w w1 by rw [hw1]; exact alloc_below _ _)
          have HN := hide (show ¬ rb = m by have := h.lt; omega)
          have HA := hide hr
          rw [← hrb]
          have HF := hide (show Cells w1 fb [fv 71] by rw [hw1]; exact hf.below (alloc_below _ _))
          clear hw1 hrb h hr hf
          refine wp_region_held_drew (S := fun wq => Below w1.heap.size w1 wq) (by kernel_rfl) (Below.refl _ _).drew (fun hS => ?_)
          refine take_at 0 (some 9) (v := ?_) rfl rfl (by kernel_rfl) (by kernel_rfl) (by kernel_rfl) (fun _ _ _ h => h) ⟨by rfl, ?_⟩ hS ?_
          rotate_left
          · intro wq hSw; go_simp; try rfl
          simp only [Act.put, List.setIfInBounds_toArray, List.set_cons_zero, List.set_cons_succ]
          refine take_at 1 (some 10) (v := ?_) rfl rfl (by kernel_rfl) (by kernel_rfl) (by kernel_rfl) (fun _ _ _ h => h) ⟨by rfl, ?_⟩ hS ?_
          rotate_left
          · intro wq hSw; go_simp; try rfl
          simp only [Act.put, List.setIfInBounds_toArray, List.set_cons_zero, List.set_cons_succ]
          refine take_at 2 (some 11) (v := ?_) rfl rfl (by kernel_rfl) (by kernel_rfl) (by kernel_rfl) (fun _ _ _ h => h) ⟨by rfl, ?_⟩ hS ?_
          rotate_left
          · intro wq hSw; go_simp; try rfl
          simp only [Act.put, List.setIfInBounds_toArray, List.set_cons_zero, List.set_cons_succ]
          refine take_at 3 (some 12) (v := ?_) rfl rfl (by kernel_rfl) (by kernel_rfl) (by kernel_rfl) (fun _ _ _ h => h) ⟨by rfl, ?_⟩ hS ?_
          rotate_left
          · intro wq hSw; have q := ((HP.out.below hSw).box.get 0 _ rfl).1; go_simp; try rfl
          simp only [Act.put, List.setIfInBounds_toArray, List.set_cons_zero, List.set_cons_succ]
          refine take_at 4 (some 13) (v := ?_) rfl rfl (by kernel_rfl) (by kernel_rfl) (by kernel_rfl) (fun _ _ _ h => h) ⟨by rfl, ?_⟩ hS ?_
          rotate_left
          · intro wq hSw; go_simp; try rfl
          simp only [Act.put, List.setIfInBounds_toArray, List.set_cons_zero, List.set_cons_succ]
          refine take_at 5 (some 14) (v := ?_) rfl rfl (by kernel_rfl) (by kernel_rfl) (by kernel_rfl) (fun _ _ _ h => h) ⟨by rfl, ?_⟩ hS ?_
          rotate_left
          · intro wq hSw; have q := (HA.out.box (HX.out.below hSw)).2.2.1; go_simp; try rfl
          simp only [Act.put, List.setIfInBounds_toArray, List.set_cons_zero, List.set_cons_succ]
          refine take_at 6 (some 15) (v := ?_) rfl rfl (by kernel_rfl) (by kernel_rfl) (by kernel_rfl) (fun _ _ _ h => h) ⟨by rfl, ?_⟩ hS ?_
          rotate_left
          · intro wq hSw; have q := (HP.out.below hSw).look2 hx; rw [HG.out] at q; simp only [Option.map_some, Option.getD_some, Option.isSome_some, lvV] at q; go_simp; try rfl
          simp only [Act.put, List.setIfInBounds_toArray, List.set_cons_zero, List.set_cons_succ]
          refine take_at 7 (some 8) (v := ?_) rfl rfl (by kernel_rfl) (by kernel_rfl) (by kernel_rfl) (fun _ _ _ h => h) ⟨by rfl, ?_⟩ hS ?_
          rotate_left
          · intro wq hSw; go_simp; try rfl
          simp only [Act.put, List.setIfInBounds_toArray, List.set_cons_zero, List.set_cons_succ]
          refine take_at 8 (some 16) (v := ?_) rfl rfl (by kernel_rfl) (by kernel_rfl) (by kernel_rfl) (fun _ _ _ h => h) ⟨by rfl, ?_⟩ hS ?_
          rotate_left
          · intro wq hSw; go_simp; try rfl
          simp only [Act.put, List.setIfInBounds_toArray, List.set_cons_zero, List.set_cons_succ]
          refine take_at 9 (some 17) (v := ?_) rfl rfl (by kernel_rfl) (by kernel_rfl) (by kernel_rfl) (fun _ _ _ h => h) ⟨by rfl, ?_⟩ hS ?_
          rotate_left
          · intro wq hSw; go_simp; try rfl
          simp only [Act.put, List.setIfInBounds_toArray, List.set_cons_zero, List.set_cons_succ]
          have D1 := hide hS
          clear hS
          generalize w1.drew = x1 at *
          refine wpAnyH_ready (rs := [10]) (by kernel_rfl) (by simp) ?_
          refine AllReadyH.cons rfl (fun K hK => ?_) AllReadyH.nil
          go_simp
          go_wp2_with fail
          refine hK.out _ _ (D1.out.alloc D1.out.size _) (fun hS => ?_)
          clear hK K hS
          (try simp only [Act.put, List.setIfInBounds_toArray, List.set_cons_zero, List.set_cons_succ])
          refine wpAnyH_ready (rs := [11]) (by kernel_rfl) (by simp) ?_
          refine AllReadyH.cons rfl (fun K hK => ?_) AllReadyH.nil
          go_simp
          go_wp2_with fail
          refine hK.out _ _ (D1.out.alloc D1.out.size _) (fun hS => ?_)
          clear hK K
          (try simp only [Act.put])
          refine take_at 12 (some 7) (v := ?_) rfl rfl (by kernel_rfl) (by kernel_rfl) (by kernel_rfl) (fun _ _ _ h => h) ⟨by rfl, ?_⟩ hS ?_
          rotate_left
          · intro wq hSw; go_simp; try rfl
          simp only [Act.put, List.setIfInBounds_toArray, List.set_cons_zero, List.set_cons_succ]
          clear hS
          refine wpAnyH_done (by kernel_rfl) ?_ _
          have b1 := alloc_below x1 (.cells #[.int .i64 a1, .int .i64 a2, .bool a3, .bool a4] 58)
          have y0 := (HA.out.box ((HX.out.below D1.out).below b1))
          obtain ⟨y0, -, -, y3⟩ := y0
          obtain ⟨y4, -⟩ := ((HF.out.below D1.out).below b1).get 0 _ rfl
          have HBz := hide (HB.out.trans (D1.out.mono HB.out.size))
          have B1 := hide b1
          clear b1
          go_wp2_with fail
          refine (K1 _).mono ?_
          rintro e w2 ⟨rfl, hb⟩
          have HBf := hide (HBz.out.trans ((B1.out.trans (hb.mono B1.out.size)).mono HBz.out.size))
          clear hb
          go_wp2_with fail
          go_ret
          exact ⟨rfl, HBf.out⟩
      · rw [if_neg (fun r => hl r.2)]
        have d1 : (prev != a2) = false := by simpa using hp
        have d2 : decide (lsn ≤ a2) = true := by simp; omega
        clear hp
        go_enter Tryz.func86, Tryz.ntmps86
        go_upto_region 1 with fail
        refine named (P := Code.wp _ _ _ _) ?_
        intro w1 hw1
        obtain ⟨rb, hrb⟩ : ∃ rb, rb = w.heap.size := ⟨_, rfl⟩
        have HP := hide (show PT w1 b m t by rw [hw1]; exact h.below (alloc_below _ _))
        have HX := hide (show RBox w1 rb 55 rc by rw [hw1, hrb]; exact RBox.new _ _ _)
        have HB := hide (show Below w.heap.size w w1 by rw [hw1]; exact alloc_below _ _)
        have HN := hide (show ¬ rb = m by have := h.lt; omega)
        have HA := hide hr
        rw [← hrb]
        have HF := hide (show Cells w1 fb [fv 71] by rw [hw1]; exact hf.below (alloc_below _ _))
        clear hw1 hrb h hr hf
        refine wp_region_held_drew (S := fun wq => Below w1.heap.size w1 wq) (by kernel_rfl) (Below.refl _ _).drew (fun hS => ?_)
        refine take_at 0 (some 9) (v := ?_) rfl rfl (by kernel_rfl) (by kernel_rfl) (by kernel_rfl) (fun _ _ _ h => h) ⟨by rfl, ?_⟩ hS ?_
        rotate_left
        · intro wq hSw; go_simp; try rfl
        simp only [Act.put, List.setIfInBounds_toArray, List.set_cons_zero, List.set_cons_succ]
        refine take_at 1 (some 10) (v := ?_) rfl rfl (by kernel_rfl) (by kernel_rfl) (by kernel_rfl) (fun _ _ _ h => h) ⟨by rfl, ?_⟩ hS ?_
        rotate_left
        · intro wq hSw; go_simp; try rfl
        simp only [Act.put, List.setIfInBounds_toArray, List.set_cons_zero, List.set_cons_succ]
        refine take_at 2 (some 11) (v := ?_) rfl rfl (by kernel_rfl) (by kernel_rfl) (by kernel_rfl) (fun _ _ _ h => h) ⟨by rfl, ?_⟩ hS ?_
        rotate_left
        · intro wq hSw; go_simp; try rfl
        simp only [Act.put, List.setIfInBounds_toArray, List.set_cons_zero, List.set_cons_succ]
        refine take_at 3 (some 12) (v := ?_) rfl rfl (by kernel_rfl) (by kernel_rfl) (by kernel_rfl) (fun _ _ _ h => h) ⟨by rfl, ?_⟩ hS ?_
        rotate_left
        · intro wq hSw; have q := ((HP.out.below hSw).box.get 0 _ rfl).1; go_simp; try rfl
        simp only [Act.put, List.setIfInBounds_toArray, List.set_cons_zero, List.set_cons_succ]
        refine take_at 4 (some 13) (v := ?_) rfl rfl (by kernel_rfl) (by kernel_rfl) (by kernel_rfl) (fun _ _ _ h => h) ⟨by rfl, ?_⟩ hS ?_
        rotate_left
        · intro wq hSw; go_simp; try rfl
        simp only [Act.put, List.setIfInBounds_toArray, List.set_cons_zero, List.set_cons_succ]
        refine take_at 5 (some 14) (v := ?_) rfl rfl (by kernel_rfl) (by kernel_rfl) (by kernel_rfl) (fun _ _ _ h => h) ⟨by rfl, ?_⟩ hS ?_
        rotate_left
        · intro wq hSw; have q := (HA.out.box (HX.out.below hSw)).2.2.1; go_simp; try rfl
        simp only [Act.put, List.setIfInBounds_toArray, List.set_cons_zero, List.set_cons_succ]
        refine take_at 6 (some 15) (v := ?_) rfl rfl (by kernel_rfl) (by kernel_rfl) (by kernel_rfl) (fun _ _ _ h => h) ⟨by rfl, ?_⟩ hS ?_
        rotate_left
        · intro wq hSw; have q := (HP.out.below hSw).look2 hx; rw [HG.out] at q; simp only [Option.map_some, Option.getD_some, Option.isSome_some, lvV] at q; go_simp; try rfl
        simp only [Act.put, List.setIfInBounds_toArray, List.set_cons_zero, List.set_cons_succ]
        refine take_at 7 (some 8) (v := ?_) rfl rfl (by kernel_rfl) (by kernel_rfl) (by kernel_rfl) (fun _ _ _ h => h) ⟨by rfl, ?_⟩ hS ?_
        rotate_left
        · intro wq hSw; go_simp; try rfl
        simp only [Act.put, List.setIfInBounds_toArray, List.set_cons_zero, List.set_cons_succ]
        refine take_at 8 (some 16) (v := ?_) rfl rfl (by kernel_rfl) (by kernel_rfl) (by kernel_rfl) (fun _ _ _ h => h) ⟨by rfl, ?_⟩ hS ?_
        rotate_left
        · intro wq hSw; go_simp; try rfl
        simp only [Act.put, List.setIfInBounds_toArray, List.set_cons_zero, List.set_cons_succ]
        refine take_at 9 (some 17) (v := ?_) rfl rfl (by kernel_rfl) (by kernel_rfl) (by kernel_rfl) (fun _ _ _ h => h) ⟨by rfl, ?_⟩ hS ?_
        rotate_left
        · intro wq hSw; go_simp; try rfl
        simp only [Act.put, List.setIfInBounds_toArray, List.set_cons_zero, List.set_cons_succ]
        have D1 := hide hS
        clear hS
        generalize w1.drew = x1 at *
        refine wpAnyH_ready (rs := [10]) (by kernel_rfl) (by simp) ?_
        refine AllReadyH.cons rfl (fun K hK => ?_) AllReadyH.nil
        go_simp
        go_wp2_with fail
        refine hK.out _ _ (D1.out.alloc D1.out.size _) (fun hS => ?_)
        clear hK K hS
        (try simp only [Act.put, List.setIfInBounds_toArray, List.set_cons_zero, List.set_cons_succ])
        refine wpAnyH_ready (rs := [11]) (by kernel_rfl) (by simp) ?_
        refine AllReadyH.cons rfl (fun K hK => ?_) AllReadyH.nil
        go_simp
        go_wp2_with fail
        refine hK.out _ _ (D1.out.alloc D1.out.size _) (fun hS => ?_)
        clear hK K
        (try simp only [Act.put])
        refine take_at 12 (some 7) (v := ?_) rfl rfl (by kernel_rfl) (by kernel_rfl) (by kernel_rfl) (fun _ _ _ h => h) ⟨by rfl, ?_⟩ hS ?_
        rotate_left
        · intro wq hSw; go_simp; try rfl
        simp only [Act.put, List.setIfInBounds_toArray, List.set_cons_zero, List.set_cons_succ]
        clear hS
        refine wpAnyH_done (by kernel_rfl) ?_ _
        have b1 := alloc_below x1 (.cells #[.int .i64 a1, .int .i64 a2, .bool a3, .bool a4] 58)
        have y0 := (HA.out.box ((HX.out.below D1.out).below b1))
        obtain ⟨y0, -, -, y3⟩ := y0
        obtain ⟨y4, -⟩ := ((HF.out.below D1.out).below b1).get 0 _ rfl
        have HBz := hide (HB.out.trans (D1.out.mono HB.out.size))
        clear b1
        go_wp2_with fail
        go_ret
        exact ⟨rfl, HBz.out.alloc HBz.out.size _⟩
    · rw [if_neg (fun r => hp r.1)]
      have d1 : (prev != a2) = true := by simpa using hp
      have d2 : True := trivial
      clear hp
      go_enter Tryz.func86, Tryz.ntmps86
      go_upto_region 1 with fail
      refine named (P := Code.wp _ _ _ _) ?_
      intro w1 hw1
      obtain ⟨rb, hrb⟩ : ∃ rb, rb = w.heap.size := ⟨_, rfl⟩
      have HP := hide (show PT w1 b m t by rw [hw1]; exact h.below (alloc_below _ _))
      have HX := hide (show RBox w1 rb 55 rc by rw [hw1, hrb]; exact RBox.new _ _ _)
      have HB := hide (show Below w.heap.size w w1 by rw [hw1]; exact alloc_below _ _)
      have HN := hide (show ¬ rb = m by have := h.lt; omega)
      have HA := hide hr
      rw [← hrb]
      have HF := hide (show Cells w1 fb [fv 71] by rw [hw1]; exact hf.below (alloc_below _ _))
      clear hw1 hrb h hr hf
      refine wp_region_held_drew (S := fun wq => Below w1.heap.size w1 wq) (by kernel_rfl) (Below.refl _ _).drew (fun hS => ?_)
      refine take_at 0 (some 9) (v := ?_) rfl rfl (by kernel_rfl) (by kernel_rfl) (by kernel_rfl) (fun _ _ _ h => h) ⟨by rfl, ?_⟩ hS ?_
      rotate_left
      · intro wq hSw; go_simp; try rfl
      simp only [Act.put, List.setIfInBounds_toArray, List.set_cons_zero, List.set_cons_succ]
      refine take_at 1 (some 10) (v := ?_) rfl rfl (by kernel_rfl) (by kernel_rfl) (by kernel_rfl) (fun _ _ _ h => h) ⟨by rfl, ?_⟩ hS ?_
      rotate_left
      · intro wq hSw; go_simp; try rfl
      simp only [Act.put, List.setIfInBounds_toArray, List.set_cons_zero, List.set_cons_succ]
      refine take_at 2 (some 11) (v := ?_) rfl rfl (by kernel_rfl) (by kernel_rfl) (by kernel_rfl) (fun _ _ _ h => h) ⟨by rfl, ?_⟩ hS ?_
      rotate_left
      · intro wq hSw; go_simp; try rfl
      simp only [Act.put, List.setIfInBounds_toArray, List.set_cons_zero, List.set_cons_succ]
      refine take_at 3 (some 12) (v := ?_) rfl rfl (by kernel_rfl) (by kernel_rfl) (by kernel_rfl) (fun _ _ _ h => h) ⟨by rfl, ?_⟩ hS ?_
      rotate_left
      · intro wq hSw; have q := ((HP.out.below hSw).box.get 0 _ rfl).1; go_simp; try rfl
      simp only [Act.put, List.setIfInBounds_toArray, List.set_cons_zero, List.set_cons_succ]
      refine take_at 4 (some 13) (v := ?_) rfl rfl (by kernel_rfl) (by kernel_rfl) (by kernel_rfl) (fun _ _ _ h => h) ⟨by rfl, ?_⟩ hS ?_
      rotate_left
      · intro wq hSw; go_simp; try rfl
      simp only [Act.put, List.setIfInBounds_toArray, List.set_cons_zero, List.set_cons_succ]
      refine take_at 5 (some 14) (v := ?_) rfl rfl (by kernel_rfl) (by kernel_rfl) (by kernel_rfl) (fun _ _ _ h => h) ⟨by rfl, ?_⟩ hS ?_
      rotate_left
      · intro wq hSw; have q := (HA.out.box (HX.out.below hSw)).2.2.1; go_simp; try rfl
      simp only [Act.put, List.setIfInBounds_toArray, List.set_cons_zero, List.set_cons_succ]
      refine take_at 6 (some 15) (v := ?_) rfl rfl (by kernel_rfl) (by kernel_rfl) (by kernel_rfl) (fun _ _ _ h => h) ⟨by rfl, ?_⟩ hS ?_
      rotate_left
      · intro wq hSw; have q := (HP.out.below hSw).look2 hx; rw [HG.out] at q; simp only [Option.map_some, Option.getD_some, Option.isSome_some, lvV] at q; go_simp; try rfl
      simp only [Act.put, List.setIfInBounds_toArray, List.set_cons_zero, List.set_cons_succ]
      refine take_at 7 (some 8) (v := ?_) rfl rfl (by kernel_rfl) (by kernel_rfl) (by kernel_rfl) (fun _ _ _ h => h) ⟨by rfl, ?_⟩ hS ?_
      rotate_left
      · intro wq hSw; go_simp; try rfl
      simp only [Act.put, List.setIfInBounds_toArray, List.set_cons_zero, List.set_cons_succ]
      refine take_at 8 (some 16) (v := ?_) rfl rfl (by kernel_rfl) (by kernel_rfl) (by kernel_rfl) (fun _ _ _ h => h) ⟨by rfl, ?_⟩ hS ?_
      rotate_left
      · intro wq hSw; go_simp; try rfl
      simp only [Act.put, List.setIfInBounds_toArray, List.set_cons_zero, List.set_cons_succ]
      refine take_at 9 (some 17) (v := ?_) rfl rfl (by kernel_rfl) (by kernel_rfl) (by kernel_rfl) (fun _ _ _ h => h) ⟨by rfl, ?_⟩ hS ?_
      rotate_left
      · intro wq hSw; go_simp; try rfl
      simp only [Act.put, List.setIfInBounds_toArray, List.set_cons_zero, List.set_cons_succ]
      have D1 := hide hS
      clear hS
      generalize w1.drew = x1 at *
      refine wpAnyH_ready (rs := [10]) (by kernel_rfl) (by simp) ?_
      refine AllReadyH.cons rfl (fun K hK => ?_) AllReadyH.nil
      go_simp
      go_wp2_with fail
      refine hK.out _ _ (D1.out.alloc D1.out.size _) (fun hS => ?_)
      clear hK K hS
      (try simp only [Act.put, List.setIfInBounds_toArray, List.set_cons_zero, List.set_cons_succ])
      refine wpAnyH_ready (rs := [11]) (by kernel_rfl) (by simp) ?_
      refine AllReadyH.cons rfl (fun K hK => ?_) AllReadyH.nil
      go_simp
      go_wp2_with fail
      refine hK.out _ _ (D1.out.alloc D1.out.size _) (fun hS => ?_)
      clear hK K
      (try simp only [Act.put])
      refine take_at 12 (some 7) (v := ?_) rfl rfl (by kernel_rfl) (by kernel_rfl) (by kernel_rfl) (fun _ _ _ h => h) ⟨by rfl, ?_⟩ hS ?_
      rotate_left
      · intro wq hSw; go_simp; try rfl
      simp only [Act.put, List.setIfInBounds_toArray, List.set_cons_zero, List.set_cons_succ]
      clear hS
      refine wpAnyH_done (by kernel_rfl) ?_ _
      have b1 := alloc_below x1 (.cells #[.int .i64 a1, .int .i64 a2, .bool a3, .bool a4] 58)
      have y0 := (HA.out.box ((HX.out.below D1.out).below b1))
      obtain ⟨y0, -, -, y3⟩ := y0
      obtain ⟨y4, -⟩ := ((HF.out.below D1.out).below b1).get 0 _ rfl
      have HBz := hide (HB.out.trans (D1.out.mono HB.out.size))
      clear b1
      go_wp2_with fail
      go_ret
      exact ⟨rfl, HBz.out.alloc HBz.out.size _⟩
end Go.Proofs.YtblngphjoafidaaGreat
