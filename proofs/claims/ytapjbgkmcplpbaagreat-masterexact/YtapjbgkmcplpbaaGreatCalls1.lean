import Derived.Test.YtapjbgkmcplpbaaGreatG38
namespace Go.Proofs.YtapjbgkmcplpbaaGreat
open Go.RowKit Go.QK

set_option maxHeartbeats 4000000 in
set_option maxRecDepth 100000 in
theorem formats_any {w : World} {S T : Nat → Prop} {d c : Nat} {g : Dev} {pb p q r : Nat} (h : Duet w S d g T c g pb p q r) (x y z : Int) (hpl : g.pend.length ≤ 999990) (hcl : g.calls ≤ 999990) :
    Calls Tryz.prog 22 #[.pointer (some ⟨pb, 0, none⟩), .agg (shC x y z)] w fun e w' => ∃ S' T', e = .returned (.bool true) ∧ Duet w' S' d (g.formatD x y z) T' c (g.formatD x y z) pb p q r ∧ Step w (fun b => S b ∨ T b) w' (fun b => S' b ∨ T' b) := by
  obtain ⟨w1, hw1⟩ : ∃ w1, w1 = w.alloc (.cells #[.int .i64 x, .int .i64 y, .int .i64 z] 23) := ⟨_, rfl⟩
  have b1 : Below w.heap.size w w1 := by rw [hw1]; exact alloc_below _ _
  have C1 : cell3 w1 w.heap.size x y z := by rw [hw1]; exact cell3.new w x y z
  have D1 := h.below b1
  have n1 : ¬ S w.heap.size ∧ ¬ T w.heap.size := ⟨fun q => by have := h.pr.one.lt _ q; omega, fun q => by have := h.pr.two.lt _ q; omega⟩
  obtain ⟨W, hW⟩ : ∃ W, W = w1.drew := ⟨_, rfl⟩
  have bW : Below w1.heap.size w1 W := by rw [hW]; exact (Below.refl _ _).drew
  have DW := D1.below bW
  have CW := C1.below bW
  have ST0 := hide (Step.of_below (S := fun b => S b ∨ T b) (bnext b1 bW (Nat.le_refl _)))
  have KF := Format_new DW.pr.one x y z hpl hcl
  have KR := fun (w' : World) (T' : Nat → Prop) (hh : RDev w' T' c g) => rFormat_any hh x y z hpl hcl
  obtain ⟨ee, hee⟩ : ∃ ee, ee = g.formatE x y z := ⟨_, rfl⟩
  obtain ⟨gg, hgg⟩ : ∃ gg, gg = g.formatD x y z := ⟨_, rfl⟩
  rw [← hee, ← hgg] at KF
  simp only [← hee, ← hgg] at KR
  rw [← hgg]
  unfold shC at KF KR ⊢
  have KF := hide KF
  have KR := hide KR
  have F1 := hide (show PC pb d c w1 ∧ Three w.heap.size x y z w1 from ⟨D1.pc, C1.three⟩)
  have DW := hide DW
  have CW := hide CW
  have HW1 := hide hw1
  have HW := hide hW
  have LT := hide (show w.heap.size < W.heap.size from CW.out.1)
  clear hw1 b1 C1 D1 hW bW h hee hgg
  go_enter Tryz.func22, Tryz.ntmps22
  go_upto_region 1 with fail
  rw [← HW1.out]
  clear HW1
  refine wp_region_held_drew (S := fun wq => PC pb d c wq ∧ Three w.heap.size x y z wq) (by kernel_rfl) F1.out (fun hS => ?_)
  rw [← HW.out] at hS ⊢
  clear HW F1
  refine take_at 0 (some 6) (v := ?_) rfl rfl (by kernel_rfl) (by kernel_rfl) (by kernel_rfl) (fun _ _ _ h => h) ⟨by rfl, ?_⟩ hS ?_
  rotate_left
  · intro wq hSw; go_simp; try rfl
  simp only [Act.put, List.setIfInBounds_toArray, List.set_cons_zero, List.set_cons_succ]
  refine take_at 1 (some 7) (v := ?_) rfl rfl (by kernel_rfl) (by kernel_rfl) (by kernel_rfl) (fun _ _ _ h => h) ⟨by rfl, ?_⟩ hS ?_
  rotate_left
  · intro wq hSw; go_simp; try rfl
  simp only [Act.put, List.setIfInBounds_toArray, List.set_cons_zero, List.set_cons_succ]
  refine take_at 2 (some 8) (v := ?_) rfl rfl (by kernel_rfl) (by kernel_rfl) (by kernel_rfl) (fun _ _ _ h => h) ⟨by rfl, ?_⟩ hS ?_
  rotate_left
  · intro wq hSw; go_simp; try rfl
  simp only [Act.put, List.setIfInBounds_toArray, List.set_cons_zero, List.set_cons_succ]
  refine take_at 3 (some 9) (v := ?_) rfl rfl (by kernel_rfl) (by kernel_rfl) (by kernel_rfl) (fun _ _ _ h => h) ⟨by rfl, ?_⟩ hS ?_
  rotate_left
  · intro wq hSw; obtain ⟨⟨x0, x1⟩, y0, y1, y2⟩ := hSw; go_simp; try rfl
  simp only [Act.put, List.setIfInBounds_toArray, List.set_cons_zero, List.set_cons_succ]
  refine take_at 4 (some 10) (v := ?_) rfl rfl (by kernel_rfl) (by kernel_rfl) (by kernel_rfl) (fun _ _ _ h => h) ⟨by rfl, ?_⟩ hS ?_
  rotate_left
  · intro wq hSw; obtain ⟨⟨x0, x1⟩, y0, y1, y2⟩ := hSw; go_simp; try rfl
  simp only [Act.put, List.setIfInBounds_toArray, List.set_cons_zero, List.set_cons_succ]
  refine wpAnyH_ready (rs := [5]) (by kernel_rfl) (by simp) ?_
  refine AllReadyH.cons rfl (fun K hK => ?_) AllReadyH.nil
  go_simp
  go_wp2_with fail
  refine KF.out.mono ?_
  rintro e w3 ⟨S3, v3, rfl, e3, n3, P3, st3⟩
  have D3 := hide (DW.out.left P3 st3)
  have C3 := hide (CW.out.keep st3.1 n1.1)
  have ST3 := hide (ST0.out.trans (Step.inl (T := T) st3))
  have E3 := hide e3
  have N3 := hide (show ∀ b, v3 = .iface 85 (.pointer (some ⟨b, 0, none⟩)) → ¬ T b from fun b q ht => by have := n3 b q; have := DW.out.pr.two.lt b ht; omega)
  clear e3 n3 P3 st3 KF DW CW ST0
  go_wp2_with fail
  refine hK.out _ _ ⟨D3.out.pc, C3.out.three⟩ (fun hS => ?_)
  clear hK K
  (try simp only [Act.put, List.setIfInBounds_toArray, List.set_cons_zero, List.set_cons_succ])
  refine take_at 6 (some 5) (v := ?_) rfl rfl (by kernel_rfl) (by kernel_rfl) (by kernel_rfl) (fun _ _ _ h => h) ⟨by rfl, ?_⟩ hS ?_
  rotate_left
  · intro wq hSw; go_simp; try rfl
  simp only [Act.put, List.setIfInBounds_toArray, List.set_cons_zero, List.set_cons_succ]
  refine wpAnyH_done (by kernel_rfl) ?_ _
  obtain ⟨W4, hW4⟩ : ∃ W4, W4 = w3.drew := ⟨_, rfl⟩
  have b4 : Below w3.heap.size w3 W4 := by rw [hW4]; exact (Below.refl _ _).drew
  have D4 := hide (D3.out.below b4)
  have C4 := hide (C3.out.below b4)
  have E4 := hide (E3.out.below b4)
  have ST4 := hide (ST3.out.trans (Step.of_below b4))
  have F3 := hide (show PC pb d c w3 ∧ Three w.heap.size x y z w3 from ⟨D3.out.pc, C3.out.three⟩)
  have HW4 := hide hW4
  have KQ := hide (KR.out W4 T D4.out.pr.two)
  clear hW4 b4 D3 C3 E3 ST3 hS KR
  go_wp2_with fail
  refine wp_region_held_drew (S := fun wq => PC pb d c wq ∧ Three w.heap.size x y z wq) (by kernel_rfl) F3.out (fun hS => ?_)
  rw [← HW4.out] at hS ⊢
  clear HW4 F3
  refine take_at 0 (some 12) (v := ?_) rfl rfl (by kernel_rfl) (by kernel_rfl) (by kernel_rfl) (fun _ _ _ h => h) ⟨by rfl, ?_⟩ hS ?_
  rotate_left
  · intro wq hSw; go_simp; try rfl
  simp only [Act.put, List.setIfInBounds_toArray, List.set_cons_zero, List.set_cons_succ]
  refine take_at 1 (some 13) (v := ?_) rfl rfl (by kernel_rfl) (by kernel_rfl) (by kernel_rfl) (fun _ _ _ h => h) ⟨by rfl, ?_⟩ hS ?_
  rotate_left
  · intro wq hSw; go_simp; try rfl
  simp only [Act.put, List.setIfInBounds_toArray, List.set_cons_zero, List.set_cons_succ]
  refine take_at 2 (some 14) (v := ?_) rfl rfl (by kernel_rfl) (by kernel_rfl) (by kernel_rfl) (fun _ _ _ h => h) ⟨by rfl, ?_⟩ hS ?_
  rotate_left
  · intro wq hSw; go_simp; try rfl
  simp only [Act.put, List.setIfInBounds_toArray, List.set_cons_zero, List.set_cons_succ]
  refine take_at 3 (some 15) (v := ?_) rfl rfl (by kernel_rfl) (by kernel_rfl) (by kernel_rfl) (fun _ _ _ h => h) ⟨by rfl, ?_⟩ hS ?_
  rotate_left
  · intro wq hSw; go_simp; try rfl
  simp only [Act.put, List.setIfInBounds_toArray, List.set_cons_zero, List.set_cons_succ]
  refine take_at 4 (some 16) (v := ?_) rfl rfl (by kernel_rfl) (by kernel_rfl) (by kernel_rfl) (fun _ _ _ h => h) ⟨by rfl, ?_⟩ hS ?_
  rotate_left
  · intro wq hSw; obtain ⟨⟨x0, x1⟩, y0, y1, y2⟩ := hSw; go_simp; try rfl
  simp only [Act.put, List.setIfInBounds_toArray, List.set_cons_zero, List.set_cons_succ]
  refine take_at 5 (some 17) (v := ?_) rfl rfl (by kernel_rfl) (by kernel_rfl) (by kernel_rfl) (fun _ _ _ h => h) ⟨by rfl, ?_⟩ hS ?_
  rotate_left
  · intro wq hSw; obtain ⟨⟨x0, x1⟩, y0, y1, y2⟩ := hSw; go_simp; try rfl
  simp only [Act.put, List.setIfInBounds_toArray, List.set_cons_zero, List.set_cons_succ]
  refine wpAnyH_ready (rs := [6]) (by kernel_rfl) (by simp) ?_
  refine AllReadyH.cons rfl (fun K hK => ?_) AllReadyH.nil
  go_simp
  go_wp2_with fail
  refine KQ.out.mono ?_
  rintro e w5 ⟨T5, rfl, P5, st5⟩
  have D5 := hide (D4.out.right P5 st5)
  have C5 := hide (C4.out.keep st5.1 n1.2)
  have ST5 := hide (ST4.out.trans (Step.inr (S := S3) st5))
  have KT := told_any v3 formatS ee (ee : Int) w5 (errAt_keep E4.out st5.1 N3.out)
  rw [decide_eq_true rfl] at KT
  have KT := hide KT
  clear P5 st5 KQ D4 C4 ST4 E4
  go_wp2_with fail
  refine hK.out _ _ ⟨D5.out.pc, C5.out.three⟩ (fun hS => ?_)
  clear hK K
  (try simp only [Act.put, List.setIfInBounds_toArray, List.set_cons_zero, List.set_cons_succ])
  refine wpAnyH_ready (rs := [7]) (by kernel_rfl) (by simp) ?_
  refine AllReadyH.cons rfl (fun K hK => ?_) AllReadyH.nil
  go_simp
  go_wp2_with fail
  refine KT.out.mono ?_
  rintro e w' ⟨rfl, hw⟩
  obtain rfl : w5 = w' := hw.symm
  go_wp2_with fail
  refine hK.out _ _ ⟨D5.out.pc, C5.out.three⟩ (fun hS => ?_)
  clear hK K
  (try simp only [Act.put, List.setIfInBounds_toArray, List.set_cons_zero, List.set_cons_succ])
  refine take_at 8 (some 4) (v := ?_) rfl rfl (by kernel_rfl) (by kernel_rfl) (by kernel_rfl) (fun _ _ _ h => h) ⟨by rfl, ?_⟩ hS ?_
  rotate_left
  · intro wq hSw; go_simp; try rfl
  simp only [Act.put, List.setIfInBounds_toArray, List.set_cons_zero, List.set_cons_succ]
  refine wpAnyH_done (by kernel_rfl) ?_ _
  go_wp2_with fail
  go_ret
  exact ⟨S3, T5, rfl, D5.out, ST5.out⟩

set_option maxHeartbeats 4000000 in
set_option maxRecDepth 100000 in
theorem points_any {w : World} {S T : Nat → Prop} {d c : Nat} {g : Dev} {pb p q r : Nat} (h : Duet w S d g T c g pb p q r) (lsn : Int) (hn : 2 ≤ g.n) (hpl : g.pend.length ≤ 999990) (hcl : g.calls ≤ 999990) :
    Calls Tryz.prog 24 #[.pointer (some ⟨pb, 0, none⟩), .int .i64 lsn] w fun e w' => ∃ S' T', e = .returned (.bool true) ∧ Duet w' S' d (g.pointD lsn) T' c (g.pointD lsn) pb p q r ∧ Step w (fun b => S b ∨ T b) w' (fun b => S' b ∨ T' b) := by
  have KF := Point_new h.pr.one lsn hpl hcl
  have KR := fun (w' : World) (T' : Nat → Prop) (hh : RDev w' T' c g) => rPoint_any hh lsn hn hpl hcl
  obtain ⟨ee, hee⟩ : ∃ ee, ee = g.pointE lsn := ⟨_, rfl⟩
  obtain ⟨gg, hgg⟩ : ∃ gg, gg = g.pointD lsn := ⟨_, rfl⟩
  rw [← hee, ← hgg] at KF
  simp only [← hee, ← hgg] at KR
  rw [← hgg]
  have KF := hide KF
  have KR := hide KR
  obtain ⟨x0, x1⟩ := h.pc
  have DW := hide h
  clear h hee hgg
  go_enter Tryz.func24, Tryz.ntmps24
  go_wp2_with fail
  refine KF.out.mono ?_
  rintro e w3 ⟨S3, v3, rfl, e3, n3, P3, st3⟩
  have D3 := hide (DW.out.left P3 st3)
  have ST3 := hide (Step.inl (T := T) st3)
  have E3 := hide e3
  have N3 := hide (show ∀ b, v3 = .iface 85 (.pointer (some ⟨b, 0, none⟩)) → ¬ T b from fun b q ht => by have := n3 b q; have := DW.out.pr.two.lt b ht; omega)
  have KQ := hide (KR.out w3 T D3.out.pr.two)
  clear e3 n3 P3 st3 KF DW x0 x1 KR
  obtain ⟨x0, x1⟩ := D3.out.pc
  go_wp2_with fail
  refine KQ.out.mono ?_
  rintro e w5 ⟨T5, rfl, P5, st5⟩
  have D5 := hide (D3.out.right P5 st5)
  have ST5 := hide (ST3.out.trans (Step.inr (S := S3) st5))
  have KT := told_any v3 pointS ee (ee : Int) w5 (errAt_keep E3.out st5.1 N3.out)
  rw [decide_eq_true rfl] at KT
  have KT := hide KT
  clear P5 st5 KQ D3 ST3 E3 x0 x1
  go_wp2_with fail
  refine KT.out.mono ?_
  rintro e w' ⟨rfl, hw⟩
  obtain rfl : w5 = w' := hw.symm
  go_wp2_with fail
  go_ret
  exact ⟨S3, T5, rfl, D5.out, ST5.out⟩

set_option maxHeartbeats 4000000 in
set_option maxRecDepth 100000 in
theorem opens_any {w : World} {S T : Nat → Prop} {d c : Nat} {g : Dev} {pb p q r : Nat} (h : Duet w S d g T c g pb p q r) (hn : 2 ≤ g.n) (hpl : g.pend.length ≤ 999990) :
    Calls Tryz.prog 23 #[.pointer (some ⟨pb, 0, none⟩)] w fun e w' => ∃ S' T', e = .returned (.bool true) ∧ Duet w' S' d (g) T' c (g) pb p q r ∧ Step w (fun b => S b ∨ T b) w' (fun b => S' b ∨ T' b) := by
  have KF := Open_any h.pr.one (by omega)
  have KR := fun (w' : World) (hb : Below w.heap.size w w') => rOpen_any (h.pr.two.below hb) hn (by omega)
  obtain ⟨m, hm⟩ : ∃ m, m = g.openS := ⟨_, rfl⟩
  obtain ⟨ee, hee⟩ : ∃ ee, ee = g.openE := ⟨_, rfl⟩
  rw [← hm, ← hee] at KF
  simp only [← hm, ← hee] at KR
  unfold shC at KF KR
  have KF := hide KF
  have KR := hide KR
  obtain ⟨x0, x1⟩ := h.pc
  have DW := hide h
  clear h hee hm
  go_enter Tryz.func23, Tryz.ntmps23
  go_wp2_with fail
  refine KF.out.mono ?_
  rintro e w2 ⟨v2, rfl, e2, b2⟩
  obtain ⟨w3, hw3⟩ : ∃ w3, w3 = w2.alloc (.cells #[.int .i64 (m.pages : Int), .int .i64 (m.log : Int), .int .i64 (m.frames : Int)] 23) := ⟨_, rfl⟩
  have b3 : Below w2.heap.size w2 w3 := by rw [hw3]; exact alloc_below _ _
  have C3 : cell3 w3 w2.heap.size m.pages m.log m.frames := by rw [hw3]; exact cell3.new w2 _ _ _
  have B3 := hide (bnext b2 b3 (Nat.le_refl _))
  have D3 := hide (DW.out.below B3.out)
  have E3 := hide (e2.below b3)
  have KQ := hide (KR.out w3 B3.out)
  have C3 := hide C3
  have HW3 := hide hw3
  clear hw3 b2 b3 e2 KF KR x0 x1
  obtain ⟨x0, x1⟩ := D3.out.pc
  go_upto_region 2 with fail
  rw [← HW3.out]
  clear HW3
  go_wp2_with fail
  refine KQ.out.mono ?_
  rintro e w4 ⟨rfl, b4⟩
  obtain ⟨w5, hw5⟩ : ∃ w5, w5 = w4.alloc (.cells #[.int .i64 (m.pages : Int), .int .i64 (m.log : Int), .int .i64 (m.frames : Int)] 23) := ⟨_, rfl⟩
  have b5 : Below w4.heap.size w4 w5 := by rw [hw5]; exact alloc_below _ _
  have C5 : cell3 w5 w4.heap.size m.pages m.log m.frames := by rw [hw5]; exact cell3.new w4 _ _ _
  have bb := bnext b4 b5 (Nat.le_refl _)
  have B5 := hide (bnext B3.out bb (Nat.le_refl _))
  have D5 := hide (DW.out.below B5.out)
  have A5 := C3.out.below bb
  have KT := told_any v2 openS ee (ee : Int) w5 (E3.out.below bb)
  rw [decide_eq_true rfl] at KT
  have KT := hide KT
  have HW5 := hide hw5
  clear hw5 b4 b5 bb KQ E3 C3 B3 D3 x0 x1
  have c0 := C5.c0
  have c1 := C5.c1
  have c2 := C5.c2
  have d0 := A5.c0
  have d1 := A5.c1
  have d2 := A5.c2
  go_upto_region 3 with fail
  rw [← HW5.out]
  clear HW5 C5 A5
  go_wp2_with fail
  refine KT.out.mono ?_
  rintro e w' ⟨rfl, hw⟩
  obtain rfl : w5 = w' := hw.symm
  go_wp2_with fail
  go_ret
  exact ⟨S, T, rfl, D5.out, Step.of_below B5.out⟩
end Go.Proofs.YtapjbgkmcplpbaaGreat
