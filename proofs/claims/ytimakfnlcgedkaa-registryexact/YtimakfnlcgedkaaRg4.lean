import Derived.Test.YtimakfnlcgedkaaRg3
namespace Go.Proofs.Ytimakfnlcgedkaa
open Go.RowKit Go.QK Go.Maps Go.QM Go.QR
set_option maxRecDepth 100000
theorem CM.drew {w : World} {m : Nat} {f : Int → Option Value} {ks : List Int} (h : CM w m f ks) : CM w.drew m f ks := h.below (Below.refl _ _).drew
theorem CM.put_run {w : World} {m : Nat} {f : Int → Option Value} {ks : List Int} (h : CM w m f ks) {t e : TypeId} (ht : Try.prog.underlying t = some (.map 3 e)) {x : Int} (hx : I64 x) {v : Value} (hl : ks.length < 1000000000) :
    ∃ w', (Instr.mapUpdate t (.map (some m)) (.int .i64 x) v).run Try.prog w = .ok () w' ∧ CM w' m (fun n => if n = x then some v else f n) (if (f x).isSome then ks else ks ++ [x]) ∧ Keep (fun z => z = m) w w' := by
  obtain ⟨L, h1, h2, h3, h4⟩ := h
  have hlen := h4.length_eq
  simp at hlen
  obtain ⟨w', q1, q2, q3⟩ := World.ownsMap.update h2 lawK ht (by unfold maxLen; omega) (keyI hx) (show anyElem v = some (.held v, []) from rfl)
  refine ⟨w', q1, ⟨putM x v L, h1.put x v, AnyAt.put h1 q2, fun n => ?_, ?_⟩, (Keep.refl _ w).grown q3 (fun g hg _ => by cases hg; rfl)⟩
  · rw [getM_put h1, h3]
  · obtain ⟨k1, k2⟩ := keys_putM x v h1
    rw [h3] at k1 k2
    cases hf : f x with
    | none =>
      have := k1 hf
      simp only [Option.isSome_none, Bool.false_eq_true, if_false]
      exact (this.trans (List.Perm.cons x h4)).trans (List.perm_append_singleton x ks).symm
    | some u =>
      simp only [Option.isSome_some, if_true]
      rw [k2 (by rw [hf]; simp)]
      exact h4
abbrev TakePost (w : World) (b m g : Nat) (r : Reg) (c d : Int) (a s : SlotN) (e : Ending) (w' : World) : Prop := e = .returned (.int .i64 (r.takeE c d a s)) ∧ PR w' b m g (r.take c d a s) ∧ Keep (fun z => z = m ∨ z = g) w w'
theorem PR.more {w w' : World} {b m g : Nat} {r : Reg} (h : PR w b m g r) {c d : Int} (hp : r.planE c d = 0) (hb : Cells w' b [.int .i64 (r.P : Int), .map (some m), .map (some g)])
    (h1 : CM w' m (fun n => if n = c then some (stV (r.planW c d, d)) else (r.entry n).map stV) (if ((r.entry c).map stV).isSome then r.nums else r.nums ++ [c]))
    (h2 : CM w' g (fun n => if n = d then some (slotV (r.planS c d)) else (r.gslot n).map slotV) (if ((r.gslot d).map slotV).isSome then r.G else r.G ++ [d])) : PR w' b m g (r.more c d) := by
  obtain ⟨p1, p2, p3⟩ := planE_zero hp
  obtain ⟨q1, q2, q3⟩ := planE_ok p1 p2 p3
  refine ⟨hb, ?_, ?_, h.ne, h.ok.more hp⟩
  · rw [Reg.nums_more]
    have e0 : r.entry c = none := by unfold Reg.entry; rw [p2]; rfl
    rw [e0] at h1
    simp only [Option.map_none, Option.isSome_none, Bool.false_eq_true, if_false] at h1
    have e1 : (fun k => ((r.more c d).entry k).map stV) = (fun n => if n = c then some (stV (r.planW c d, d)) else (r.entry n).map stV) := by
      funext n
      rw [entry_more hp]
      split
      · rw [q2]; rfl
      · rfl
    rw [e1]
    exact h1
  · have e1 : (fun k => ((r.more c d).gslot k).map slotV) = (fun n => if n = d then some (slotV (r.planS c d)) else (r.gslot n).map slotV) := by
      funext n
      rw [gslot_more]
      split
      · rw [q3]; rfl
      · rfl
    rw [e1]
    have e2 : (r.more c d).G = (if ((r.gslot d).map slotV).isSome then r.G else r.G ++ [d]) := by
      unfold Reg.more Reg.gslot
      cases place r.G d <;> rfl
    rw [e2]
    exact h2
set_option maxHeartbeats 4000000 in
theorem take_any (b m g : Nat) (r : Reg) (c d : Int) (a s : SlotN) (w : World) (h : PR w b m g r) : Calls Try.prog 12 #[ptr b, .int .i64 c, .int .i64 d, slotV a, slotV s] w (TakePost w b m g r c d a s) := by
  unfold TakePost
  obtain ⟨w1, hw1⟩ : ∃ w1, w1 = (w.alloc (.cells #[.int .i64 a.1, .int .i64 a.2] 30)).alloc (.cells #[.int .i64 s.1, .int .i64 s.2] 30) := ⟨_, rfl⟩
  have b1 : Below w.heap.size w w1 := by rw [hw1]; exact (alloc_below _ _).alloc (by simp) _
  have P1 := h.below b1
  have KP := plan_any b m g r c d w1 P1
  have A1 : Cells w1 w.heap.size [.int .i64 a.1, .int .i64 a.2] := by rw [hw1]; exact (Cells.new w #[.int .i64 a.1, .int .i64 a.2] 30).below (alloc_below _ _)
  have B1 : Cells w1 (w.heap.size + 1) [.int .i64 s.1, .int .i64 s.2] := by
    have := (Cells.new (w.alloc (.cells #[.int .i64 a.1, .int .i64 a.2] 30)) #[.int .i64 s.1, .int .i64 s.2] 30)
    rw [hw1]
    simpa using this
  have s1 : w1.heap.size = w.heap.size + 2 := by rw [hw1]; simp
  rw [hw1] at KP
  unfold PlanPost at KP
  have LT := hide h.lt
  have OK := hide h.ok
  have hP := hide P1
  have hA := hide A1
  have hB := hide B1
  have hb1 := hide b1
  have hs1 := hide s1
  have HW1 := hide hw1
  have HPO := hide h
  clear P1 A1 B1 b1 s1 hw1 h
  by_cases hz : r.planE c d = 0
  · have hpW : ∃ pw, pw = r.planW c d := ⟨_, rfl⟩
    obtain ⟨pw, hpw⟩ := hpW
    obtain ⟨ps, hps⟩ : ∃ ps, ps = r.planS c d := ⟨_, rfl⟩
    have EZ := hide hz
    rw [hz, ← hpw, ← hps] at KP
    have HPW := hide hpw
    have HPS := hide hps
    clear hz hpw hps
    by_cases heq : a = pw ∧ s = ps
    · have EQT := hide (show r.takeE c d a s = 0 ∧ r.take c d a s = r.more c d by
        have e1 : r.takeE c d a s = 0 := by unfold Reg.takeE; rw [if_pos EZ.out, if_pos (by rw [← HPW.out, ← HPS.out]; exact heq)]
        exact ⟨e1, by unfold Reg.take; rw [if_pos e1]⟩)
      have HEQ := hide heq
      obtain ⟨ha, hs⟩ := heq
      subst ha hs
      obtain ⟨i1, i2, i3, i4⟩ := inR_true (planE_zero EZ.out).1
      go_enter Try.func12, Try.ntmps12
      go_upto_region 4 with (go_at_call 11; refine KP.mono ?_; rintro e w2 ⟨rfl, hh⟩; rw [← HW1.out] at hh; have P2 := hide (hP.out.below hh); have A2 := hide (hA.out.below hh); have B2 := hide (hB.out.below hh); have C2 := hide (hb1.out.trans (hh.mono hb1.out.size)); have S2 := hide (show w.heap.size + 2 ≤ w2.heap.size by have := hh.size; have := hs1.out; omega); clear hh hP hA hB hb1 hs1 HW1)
      refine named (P := Code.wp _ _ _ _) ?_
      intro w5 hw5
      have bb : Below w2.heap.size w2 w5 := by rw [hw5]; exact (alloc_below _ _).alloc (by simp) _
      have P5 := hide (P2.out.below bb)
      have A5 := hide (A2.out.below bb)
      have B5 := hide (B2.out.below bb)
      have D5 : Cells w5 w2.heap.size [.int .i64 a.1, .int .i64 a.2] := by rw [hw5]; exact (Cells.new w2 #[.int .i64 a.1, .int .i64 a.2] 30).below (alloc_below _ _)
      have E5 : Cells w5 (w2.heap.size + 1) [.int .i64 s.1, .int .i64 s.2] := by
        have := (Cells.new (w2.alloc (.cells #[.int .i64 a.1, .int .i64 a.2] 30)) #[.int .i64 s.1, .int .i64 s.2] 30)
        rw [hw5]
        simpa using this
      have C5 := hide (C2.out.trans (bb.mono C2.out.size))
      have S5 := hide (Nat.le_trans S2.out bb.size)
      clear bb hw5 P2 A2 B2 C2 S2
      obtain ⟨A, hA⟩ : ∃ A, A = w.heap.size := ⟨_, rfl⟩
      rw [← hA] at A5 B5 C5 S5 LT ⊢
      have HA := hide hA
      clear hA
      generalize w2.heap.size = F at *
      obtain ⟨a0, a0f⟩ := A5.out.get 0 _ rfl
      obtain ⟨a1, a1f⟩ := A5.out.get 1 _ rfl
      obtain ⟨c0, c0f⟩ := B5.out.get 0 _ rfl
      obtain ⟨c1, c1f⟩ := B5.out.get 1 _ rfl
      obtain ⟨d0, d0f⟩ := D5.get 0 _ rfl
      obtain ⟨d1, d1f⟩ := D5.get 1 _ rfl
      obtain ⟨e0, e0f⟩ := E5.get 0 _ rfl
      obtain ⟨e1, e1f⟩ := E5.get 1 _ rfl
      clear D5 E5
      go_upto_region 6 with fail
      clear a0 a0f a1 a1f c0 c0f c1 c1f d0 d0f d1 d1f e0 e0f e1 e1f
      refine wp_region_held_drew (S := fun wq => wq.cell? ⟨b, 1, none⟩ = some (.map (some m)) ∧ wq.cell? ⟨A, 0, none⟩ = some (.int .i64 a.1) ∧ wq.cell? ⟨A, 1, none⟩ = some (.int .i64 a.2)) (by kernel_rfl) ⟨(P5.out.box.get 1 _ rfl).1, (A5.out.get 0 _ rfl).1, (A5.out.get 1 _ rfl).1⟩ (fun hS => ?_)
      obtain ⟨w6, hr6, cm6, kp6⟩ := CM.put_run P5.out.cm.drew Try.underlying66 (x := c) (by unfold I64; omega) (v := stV (a, d)) (by have := P5.out.ok.lens.1; simp [Reg.nums]; omega)
      refine take_at 0 (some 33) (v := ?_) rfl rfl (by kernel_rfl) (by kernel_rfl) (by kernel_rfl) (fun _ _ _ h => h) ⟨by rfl, ?_⟩ hS ?_
      rotate_left
      · intro wq hSw; go_simp; try rfl
      simp only [Act.put, List.setIfInBounds_toArray, List.set_cons_zero, List.set_cons_succ]
      refine take_at 1 (some 34) (v := ?_) rfl rfl (by kernel_rfl) (by kernel_rfl) (by kernel_rfl) (fun _ _ _ h => h) ⟨by rfl, ?_⟩ hS ?_
      rotate_left
      · intro wq hSw; go_simp; try rfl
      simp only [Act.put, List.setIfInBounds_toArray, List.set_cons_zero, List.set_cons_succ]
      refine take_at 2 (some 35) (v := ?_) rfl rfl (by kernel_rfl) (by kernel_rfl) (by kernel_rfl) (fun _ _ _ h => h) ⟨by rfl, ?_⟩ hS ?_
      rotate_left
      · intro wq hSw; go_simp; try rfl
      simp only [Act.put, List.setIfInBounds_toArray, List.set_cons_zero, List.set_cons_succ]
      refine take_at 3 (some 36) (v := ?_) rfl rfl (by kernel_rfl) (by kernel_rfl) (by kernel_rfl) (fun _ _ _ h => h) ⟨by rfl, ?_⟩ hS ?_
      rotate_left
      · intro wq hSw; obtain ⟨s1, s2, s3⟩ := hSw; go_simp; try rfl
      simp only [Act.put, List.setIfInBounds_toArray, List.set_cons_zero, List.set_cons_succ]
      refine take_at 4 (some 37) (v := ?_) rfl rfl (by kernel_rfl) (by kernel_rfl) (by kernel_rfl) (fun _ _ _ h => h) ⟨by rfl, ?_⟩ hS ?_
      rotate_left
      · intro wq hSw; go_simp; try rfl
      simp only [Act.put, List.setIfInBounds_toArray, List.set_cons_zero, List.set_cons_succ]
      refine take_at 5 (some 38) (v := ?_) rfl rfl (by kernel_rfl) (by kernel_rfl) (by kernel_rfl) (fun _ _ _ h => h) ⟨by rfl, ?_⟩ hS ?_
      rotate_left
      · intro wq hSw; obtain ⟨s1, s2, s3⟩ := hSw; go_simp; try rfl
      simp only [Act.put, List.setIfInBounds_toArray, List.set_cons_zero, List.set_cons_succ]
      refine take_at 6 (some 39) (v := ?_) rfl rfl (by kernel_rfl) (by kernel_rfl) (by kernel_rfl) (fun _ _ _ h => h) ⟨by rfl, ?_⟩ hS ?_
      rotate_left
      · intro wq hSw; go_simp; try rfl
      simp only [Act.put, List.setIfInBounds_toArray, List.set_cons_zero, List.set_cons_succ]
      refine take_at 7 (some 40) (v := ?_) rfl rfl (by kernel_rfl) (by kernel_rfl) (by kernel_rfl) (fun _ _ _ h => h) ⟨by rfl, ?_⟩ hS ?_
      rotate_left
      · intro wq hSw; go_simp; try rfl
      simp only [Act.put, List.setIfInBounds_toArray, List.set_cons_zero, List.set_cons_succ]
      refine wpAnyH_ready (rs := [8]) (by kernel_rfl) (by simp) ?_
      refine AllReadyH.cons rfl (fun K hK => ?_) AllReadyH.nil
      go_simp
      go_wp2_with fail
      refine hK.out _ _ ⟨(kp6.cell (p := ⟨b, 1, none⟩) P5.out.lt.1 (P5.out.cm.ne_cells P5.out.box)).trans (P5.out.box.get 1 _ rfl).1, (kp6.cell (p := ⟨A, 0, none⟩) A5.out.1 (by have := LT.out; show ¬ A = m; omega)).trans (A5.out.get 0 _ rfl).1, (kp6.cell (p := ⟨A, 1, none⟩) A5.out.1 (by have := LT.out; show ¬ A = m; omega)).trans (A5.out.get 1 _ rfl).1⟩ (fun hS => ?_)
      clear hK K
      (try simp only [Act.put, List.setIfInBounds_toArray, List.set_cons_zero, List.set_cons_succ])
      refine wpAnyH_done (by kernel_rfl) ?_ _
      have BX := hide ((P5.out.box.drew).keep kp6 (P5.out.cm.ne_cells P5.out.box))
      have B6 := hide ((B5.out.drew).keep kp6 (by have := LT.out; omega))
      have G6 := hide ((P5.out.gm.drew).keep kp6 (fun e => P5.out.ne e.symm))
      have C6 := hide (show Keep (fun z => z = m ∨ z = g) w w6 from (Keep.of_below (S := fun z => z = m ∨ z = g) (by have := C5.out.drew; rw [HA.out] at this; exact this)).trans kp6 (fun j _ e => .inl e))
      have M6 := hide cm6
      clear cm6 kp6 A5 B5 C5 hS
      go_upto_region 7 with fail
      refine wp_region_held_drew (S := fun wq => wq.cell? ⟨b, 2, none⟩ = some (.map (some g)) ∧ wq.cell? ⟨A + 1, 0, none⟩ = some (.int .i64 s.1) ∧ wq.cell? ⟨A + 1, 1, none⟩ = some (.int .i64 s.2)) (by kernel_rfl) ⟨(BX.out.get 2 _ rfl).1, (B6.out.get 0 _ rfl).1, (B6.out.get 1 _ rfl).1⟩ (fun hS => ?_)
      obtain ⟨w8, hr8, cm8, kp8⟩ := CM.put_run G6.out.drew Try.underlying41 (x := d) (by unfold I64; omega) (v := slotV s) (by have := P5.out.ok.lens.2; omega)
      refine take_at 0 (some 41) (v := ?_) rfl rfl (by kernel_rfl) (by kernel_rfl) (by kernel_rfl) (fun _ _ _ h => h) ⟨by rfl, ?_⟩ hS ?_
      rotate_left
      · intro wq hSw; go_simp; try rfl
      simp only [Act.put, List.setIfInBounds_toArray, List.set_cons_zero, List.set_cons_succ]
      refine take_at 1 (some 42) (v := ?_) rfl rfl (by kernel_rfl) (by kernel_rfl) (by kernel_rfl) (fun _ _ _ h => h) ⟨by rfl, ?_⟩ hS ?_
      rotate_left
      · intro wq hSw; go_simp; try rfl
      simp only [Act.put, List.setIfInBounds_toArray, List.set_cons_zero, List.set_cons_succ]
      refine take_at 2 (some 43) (v := ?_) rfl rfl (by kernel_rfl) (by kernel_rfl) (by kernel_rfl) (fun _ _ _ h => h) ⟨by rfl, ?_⟩ hS ?_
      rotate_left
      · intro wq hSw; go_simp; try rfl
      simp only [Act.put, List.setIfInBounds_toArray, List.set_cons_zero, List.set_cons_succ]
      refine take_at 3 (some 44) (v := ?_) rfl rfl (by kernel_rfl) (by kernel_rfl) (by kernel_rfl) (fun _ _ _ h => h) ⟨by rfl, ?_⟩ hS ?_
      rotate_left
      · intro wq hSw; obtain ⟨s1, s2, s3⟩ := hSw; go_simp; try rfl
      simp only [Act.put, List.setIfInBounds_toArray, List.set_cons_zero, List.set_cons_succ]
      refine take_at 4 (some 45) (v := ?_) rfl rfl (by kernel_rfl) (by kernel_rfl) (by kernel_rfl) (fun _ _ _ h => h) ⟨by rfl, ?_⟩ hS ?_
      rotate_left
      · intro wq hSw; go_simp; try rfl
      simp only [Act.put, List.setIfInBounds_toArray, List.set_cons_zero, List.set_cons_succ]
      refine take_at 5 (some 46) (v := ?_) rfl rfl (by kernel_rfl) (by kernel_rfl) (by kernel_rfl) (fun _ _ _ h => h) ⟨by rfl, ?_⟩ hS ?_
      rotate_left
      · intro wq hSw; obtain ⟨s1, s2, s3⟩ := hSw; go_simp; try rfl
      simp only [Act.put, List.setIfInBounds_toArray, List.set_cons_zero, List.set_cons_succ]
      refine wpAnyH_ready (rs := [6]) (by kernel_rfl) (by simp) ?_
      refine AllReadyH.cons rfl (fun K hK => ?_) AllReadyH.nil
      go_simp
      go_wp2_with fail
      refine hK.out _ _ ⟨(kp8.cell (p := ⟨b, 2, none⟩) BX.out.1 (G6.out.ne_cells BX.out)).trans (BX.out.get 2 _ rfl).1, (kp8.cell (p := ⟨A + 1, 0, none⟩) B6.out.1 (by have := LT.out; show ¬ A + 1 = g; omega)).trans (B6.out.get 0 _ rfl).1, (kp8.cell (p := ⟨A + 1, 1, none⟩) B6.out.1 (by have := LT.out; show ¬ A + 1 = g; omega)).trans (B6.out.get 1 _ rfl).1⟩ (fun hS => ?_)
      clear hK K
      (try simp only [Act.put, List.setIfInBounds_toArray, List.set_cons_zero, List.set_cons_succ])
      refine wpAnyH_done (by kernel_rfl) ?_ _
      go_wp2
      go_ret
      refine ⟨?_, ?_, C6.out.drew.trans kp8 (fun j _ e => .inr e)⟩
      · rw [EQT.out.1]
        rfl
      · rw [EQT.out.2]
        refine HPO.out.more EZ.out ((BX.out.drew).keep kp8 (G6.out.ne_cells BX.out)) ?_ ?_
        · rw [← HPW.out]
          exact (M6.out.drew).keep kp8 P5.out.ne
        · rw [← HPS.out]
          exact cm8
    · have EQT := hide (show r.takeE c d a s = 83 ∧ r.take c d a s = r by
        have e1 : r.takeE c d a s = 83 := by unfold Reg.takeE; rw [if_pos EZ.out, if_neg (by rw [← HPW.out, ← HPS.out]; exact heq)]
        exact ⟨e1, by unfold Reg.take; rw [if_neg (by rw [e1]; decide)]⟩)
      go_enter Try.func12, Try.ntmps12
      go_upto_region 4 with (go_at_call 11; refine KP.mono ?_; rintro e w2 ⟨rfl, hh⟩; rw [← HW1.out] at hh; have P2 := hide (hP.out.below hh); have A2 := hide (hA.out.below hh); have B2 := hide (hB.out.below hh); have C2 := hide (hb1.out.trans (hh.mono hb1.out.size)); have S2 := hide (show w.heap.size + 2 ≤ w2.heap.size by have := hh.size; have := hs1.out; omega); clear hh hP hA hB hb1 hs1 HW1)
      refine named (P := Code.wp _ _ _ _) ?_
      intro w5 hw5
      have bb : Below w2.heap.size w2 w5 := by rw [hw5]; exact (alloc_below _ _).alloc (by simp) _
      have P5 := hide (P2.out.below bb)
      have A5 := hide (A2.out.below bb)
      have B5 := hide (B2.out.below bb)
      have D5 : Cells w5 w2.heap.size [.int .i64 pw.1, .int .i64 pw.2] := by rw [hw5]; exact (Cells.new w2 #[.int .i64 pw.1, .int .i64 pw.2] 30).below (alloc_below _ _)
      have E5 : Cells w5 (w2.heap.size + 1) [.int .i64 ps.1, .int .i64 ps.2] := by
        have := (Cells.new (w2.alloc (.cells #[.int .i64 pw.1, .int .i64 pw.2] 30)) #[.int .i64 ps.1, .int .i64 ps.2] 30)
        rw [hw5]
        simpa using this
      have C5 := hide (C2.out.trans (bb.mono C2.out.size))
      have S5 := hide (Nat.le_trans S2.out bb.size)
      clear bb hw5 P2 A2 B2 C2 S2
      obtain ⟨A, hA⟩ : ∃ A, A = w.heap.size := ⟨_, rfl⟩
      rw [← hA] at A5 B5 C5 S5 LT ⊢
      have HA := hide hA
      clear hA
      generalize w2.heap.size = F at *
      obtain ⟨a0, a0f⟩ := A5.out.get 0 _ rfl
      obtain ⟨a1, a1f⟩ := A5.out.get 1 _ rfl
      obtain ⟨c0, c0f⟩ := B5.out.get 0 _ rfl
      obtain ⟨c1, c1f⟩ := B5.out.get 1 _ rfl
      obtain ⟨d0, d0f⟩ := D5.get 0 _ rfl
      obtain ⟨d1, d1f⟩ := D5.get 1 _ rfl
      obtain ⟨e0, e0f⟩ := E5.get 0 _ rfl
      obtain ⟨e1, e1f⟩ := E5.get 1 _ rfl
      clear D5 E5
      go_wp2
      all_goals first
        | (exfalso; exact heq ⟨Prod.ext (by assumption) (by assumption), Prod.ext (by assumption) (by assumption)⟩)
        | (go_ret; exact ⟨by rw [EQT.out.1]; rfl, by rw [EQT.out.2]; exact P5.out, by have := C5.out; rw [HA.out] at this; exact Keep.of_below this⟩)
  · have EQT := hide (show r.takeE c d a s = r.planE c d ∧ r.take c d a s = r by
      have e1 : r.takeE c d a s = r.planE c d := by unfold Reg.takeE; rw [if_neg hz]
      exact ⟨e1, by unfold Reg.take; rw [if_neg (by rw [e1]; exact hz)]⟩)
    obtain ⟨pw, hpw⟩ : ∃ ps, ps = r.planW c d := ⟨_, rfl⟩
    obtain ⟨ps, hps⟩ : ∃ ps, ps = r.planS c d := ⟨_, rfl⟩
    obtain ⟨pe, hpe⟩ : ∃ ps, ps = r.planE c d := ⟨_, rfl⟩
    rw [← hpw, ← hps, ← hpe] at KP
    rw [← hpe] at hz
    have HPE := hide hpe
    have hne : (pe != 0) = true := by simpa using hz
    clear hpw hps hpe hz
    go_enter Try.func12, Try.ntmps12
    go_wp2_with (go_at_call 11; refine KP.mono ?_; rintro e w2 ⟨rfl, hh⟩; rw [← HW1.out] at hh; have P2 := hide (hP.out.below hh); have C2 := hide (hb1.out.trans (hh.mono hb1.out.size)); clear hh hP hA hB hb1 hs1 HW1)
    go_ret
    refine ⟨?_, ?_, ?_⟩
    · rw [EQT.out.1, ← HPE.out]
      rfl
    · rw [EQT.out.2]
      exact P2.out.below ((alloc_below _ _).alloc (by simp) _)
    · exact (Keep.of_below C2.out).then_below ((alloc_below _ _).alloc (by simp) _)
end Go.Proofs.Ytimakfnlcgedkaa
