import Derived.Test.YtimakfnlcgedkaaRg7
namespace Go.Proofs.Ytimakfnlcgedkaa
open Go.RowKit Go.QK Go.Maps Go.QM Go.QR
set_option maxRecDepth 100000
theorem two_cells {w w' : World} {x y z u : Value} (h : w' = (w.alloc (.cells #[x, y] 30)).alloc (.cells #[z, u] 30)) : Cells w' w.heap.size [x, y] ∧ Cells w' (w.heap.size + 1) [z, u] ∧ Below w.heap.size w w' ∧ w'.heap.size = w.heap.size + 2 := by
  subst h
  refine ⟨(Cells.new w #[x, y] 30).below (alloc_below _ _), ?_, (alloc_below _ _).alloc (by simp) _, by simp⟩
  have := (Cells.new (w.alloc (.cells #[x, y] 30)) #[z, u] 30)
  simpa using this
theorem one_cell {w w' : World} {x y : Value} (h : w' = w.alloc (.cells #[x, y] 30)) : Cells w' w.heap.size [x, y] ∧ Below w.heap.size w w' ∧ w'.heap.size = w.heap.size + 1 := by
  subst h
  exact ⟨Cells.new w #[x, y] 30, alloc_below _ _, by simp⟩
set_option maxHeartbeats 4000000 in
theorem awake_any (w : World) : Calls Try.prog 7 #[] w fun e w' => e = .returned (.bool true) ∧ Below w.heap.size w w' := by
  have K1 : Calls Try.prog 9 #[.int .i64 2] w _ := new_yes 2 w (by omega) (by omega)
  go_enter Try.func7, Try.ntmps7
  go_wp2_with fail
  refine K1.mono ?_
  rintro e w1 ⟨rfl, P1, B1, _⟩
  have PL := hide (show w.heap.size ≤ w.heap.size + 2 ∧ w.heap.size ≤ w.heap.size ∧ w.heap.size ≤ w.heap.size + 1 by omega)
  have HP1 := hide (show PR w1 (w.heap.size + 2) w.heap.size (w.heap.size + 1) g2 from P1)
  have HB1 := hide B1
  clear P1 B1 K1
  generalize w.heap.size + 2 = b at *
  obtain ⟨m, hm⟩ : ∃ m, m = w.heap.size := ⟨_, rfl⟩
  rw [← hm] at HP1
  obtain ⟨g, hg⟩ : ∃ g, g = w.heap.size + 1 := ⟨_, rfl⟩
  have hg' : g = m + 1 := by rw [hg, hm]
  rw [← hg'] at HP1
  have PL := hide (show w.heap.size ≤ b ∧ w.heap.size ≤ m ∧ w.heap.size ≤ g by have := PL.out; omega)
  clear hm hg hg'
  go_wp2_with (go_at_call 9; refine (new_no 65 _ (by omega)).mono ?_; rintro e w2 ⟨rfl, rfl⟩)
  have K2 := fun w' (h : PR w' b m g g2) => plan_any b m g g2 7 3 w' h
  have K3 := fun w' (h : PR w' b m g g2) => take_any b m g g2 7 3 (0, 0) (0, 0) w' h
  have K4 := fun w' (h : PR w' b m g g2) => take_any b m g g2 7 3 (0, 0) (1, 0) w' h
  have K5 := fun w' (h : PR w' b m g g3) => plan_any b m g g3 5 4 w' h
  have K6 := fun w' (h : PR w' b m g g3) => find_any b m g g3 7 w' h (by unfold I64; omega)
  have K7 := fun w' (h : PR w' b m g g3) => group_any b m g g3 3 w' h (by unfold I64; omega)
  have K8 := fun w' (h : PR w' b m g g3) => group_any b m g g3 4 w' h (by unfold I64; omega)
  have K9 := fun w' (h : PR w' b m g g3) => counters_any b m g g3 w' h
  have K10 := fun w' (h : PR w' b m g g3) => groups_any b m g g3 w' h
  unfold PlanPost at K2 K5
  unfold TakePost at K3 K4
  simp only [aw1, aw2, aw2', aw3, aw3', aw4, aw5, aw6, aw7] at K2 K3 K4 K5 K6 K7 K8 K9 K10
  go_upto_region 6 with (first | (go_at_call 10; refine (num_any _ _).mono ?_; rintro e w2 ⟨rfl, rfl⟩) | (go_at_call 11; refine (K2 _ HP1.out).mono ?_; rintro e w3 ⟨rfl, hh⟩; have HP3 := hide (HP1.out.below hh); have HB3 := hide (HB1.out.trans (hh.mono HB1.out.size)); clear hh HP1 HB1))
  refine named (P := Code.wp _ _ _ _) ?_
  intro w4 hw4
  obtain ⟨C5, C6, bb, sz⟩ := two_cells hw4
  have HP4 := hide (HP3.out.below bb)
  have HB4 := hide (HB3.out.trans (bb.mono HB3.out.size))
  have A5 := hide C5
  have A6 := hide C6
  have hlow := hide HB3.out.size
  have TL := hide HP3.out.lt
  clear hw4 bb sz HP3 HB3 C5 C6
  obtain ⟨t5, ht5⟩ : ∃ t, t = w3.heap.size := ⟨_, rfl⟩
  rw [← ht5] at A5 A6 hlow TL ⊢
  clear ht5
  obtain ⟨a0, _⟩ := A5.out.get 0 _ rfl
  obtain ⟨a1, _⟩ := A5.out.get 1 _ rfl
  obtain ⟨c0, _⟩ := A6.out.get 0 _ rfl
  obtain ⟨c1, _⟩ := A6.out.get 1 _ rfl
  go_wp2_with (go_at_call 10; refine (num_any _ _).mono ?_; rintro e w2 ⟨rfl, rfl⟩)
  refine (K3 _ HP4.out).mono ?_
  rintro e w5 ⟨rfl, P5, kp⟩
  have B5 := hide (HB4.out.trans (kp.below HB4.out.size (fun z hz q => by have := PL.out; omega)))
  have D5 := hide (A5.out.keep kp (by have := TL.out; omega))
  have D6 := hide (A6.out.keep kp (by have := TL.out; omega))
  clear kp HP4 HB4 A5 A6 a0 a1 c0 c1 K2 K3
  obtain ⟨a0, _⟩ := D5.out.get 0 _ rfl
  obtain ⟨a1, _⟩ := D5.out.get 1 _ rfl
  obtain ⟨c0, _⟩ := D6.out.get 0 _ rfl
  obtain ⟨c1, _⟩ := D6.out.get 1 _ rfl
  have HP5 := hide P5
  clear P5
  go_wp2_with (go_at_call 10; refine (num_any _ _).mono ?_; rintro e w2 ⟨rfl, rfl⟩)
  refine (K4 _ HP5.out).mono ?_
  rintro e w6 ⟨rfl, P6, kp⟩
  have HB6 := hide (B5.out.trans (kp.below B5.out.size (fun z hz q => by have := PL.out; omega)))
  have A5 := hide (D5.out.keep kp (by have := TL.out; omega))
  have A6 := hide (D6.out.keep kp (by have := TL.out; omega))
  have HP6 := hide P6
  clear kp B5 D5 D6 HP5 P6 K4 a0 a1 c0 c1
  go_upto_region 9 with (first | (go_at_call 10; refine (num_any _ _).mono ?_; rintro e w2 ⟨rfl, rfl⟩) | (go_at_call 11; refine (K5 _ HP6.out).mono ?_; rintro e v5 ⟨rfl, hh⟩; have QP5 := hide (HP6.out.below hh); have QB5 := hide (HB6.out.trans (hh.mono HB6.out.size)); have A5x := hide (A5.out.below hh); have A6x := hide (A6.out.below hh); clear hh HP6 HB6 A5 A6 K5))
  refine named (P := Code.wp _ _ _ _) ?_
  intro w5n hwn
  obtain ⟨N1, N2, bb, _⟩ := two_cells hwn
  have HP5 := hide (QP5.out.below bb)
  have HB5 := hide (QB5.out.trans (bb.mono QB5.out.size))
  have A5 := hide (A5x.out.below bb)
  have A6 := hide (A6x.out.below bb)
  have A8 := hide N1
  have A9 := hide N2
  clear hwn bb N1 N2 QP5 QB5 A5x A6x
  obtain ⟨t5, ht⟩ : ∃ t, t = v5.heap.size := ⟨_, rfl⟩
  rw [← ht] at A8 A9 ⊢
  clear ht
  go_upto_region 10 with (first | (go_at_call 10; refine (num_any _ _).mono ?_; rintro e w2 ⟨rfl, rfl⟩) | (go_at_call 15; refine (K6 _ HP5.out).mono ?_; rintro e v6 ⟨rfl, hh⟩; have QP6 := hide (HP5.out.below hh); have QB6 := hide (HB5.out.trans (hh.mono HB5.out.size)); have A5x := hide (A5.out.below hh); have A6x := hide (A6.out.below hh); have A8x := hide (A8.out.below hh); have A9x := hide (A9.out.below hh); clear hh HP5 HB5 A5 A6 A8 A9 K6))
  refine named (P := Code.wp _ _ _ _) ?_
  intro w6n hwn
  obtain ⟨N1, N2, bb, _⟩ := two_cells hwn
  have HP6 := hide (QP6.out.below bb)
  have HB6 := hide (QB6.out.trans (bb.mono QB6.out.size))
  have A5 := hide (A5x.out.below bb)
  have A6 := hide (A6x.out.below bb)
  have A8 := hide (A8x.out.below bb)
  have A9 := hide (A9x.out.below bb)
  have A11 := hide N1
  have A13 := hide N2
  clear hwn bb N1 N2 QP6 QB6 A5x A6x A8x A9x
  obtain ⟨t6, ht⟩ : ∃ t, t = v6.heap.size := ⟨_, rfl⟩
  rw [← ht] at A11 A13 ⊢
  clear ht
  go_upto_region 11 with (first | (go_at_call 10; refine (num_any _ _).mono ?_; rintro e w2 ⟨rfl, rfl⟩) | (go_at_call 16; refine (K7 _ HP6.out).mono ?_; rintro e v7 ⟨rfl, hh⟩; have QP7 := hide (HP6.out.below hh); have QB7 := hide (HB6.out.trans (hh.mono HB6.out.size)); have A5x := hide (A5.out.below hh); have A6x := hide (A6.out.below hh); have A8x := hide (A8.out.below hh); have A9x := hide (A9.out.below hh); have A11x := hide (A11.out.below hh); have A13x := hide (A13.out.below hh); clear hh HP6 HB6 A5 A6 A8 A9 A11 A13 K7))
  refine named (P := Code.wp _ _ _ _) ?_
  intro w7n hwn
  obtain ⟨N1, bb, _⟩ := one_cell hwn
  have HP7 := hide (QP7.out.below bb)
  have HB7 := hide (QB7.out.trans (bb.mono QB7.out.size))
  have A5 := hide (A5x.out.below bb)
  have A6 := hide (A6x.out.below bb)
  have A8 := hide (A8x.out.below bb)
  have A9 := hide (A9x.out.below bb)
  have A11 := hide (A11x.out.below bb)
  have A13 := hide (A13x.out.below bb)
  have A15 := hide N1
  clear hwn bb N1  QP7 QB7 A5x A6x A8x A9x A11x A13x
  obtain ⟨t7, ht⟩ : ∃ t, t = v7.heap.size := ⟨_, rfl⟩
  rw [← ht] at A15 ⊢
  clear ht
  go_upto_region 12 with (first | (go_at_call 10; refine (num_any _ _).mono ?_; rintro e w2 ⟨rfl, rfl⟩) | (go_at_call 16; refine (K8 _ HP7.out).mono ?_; rintro e v8 ⟨rfl, hh⟩; have QP8 := hide (HP7.out.below hh); have QB8 := hide (HB7.out.trans (hh.mono HB7.out.size)); have A5x := hide (A5.out.below hh); have A6x := hide (A6.out.below hh); have A8x := hide (A8.out.below hh); have A9x := hide (A9.out.below hh); have A11x := hide (A11.out.below hh); have A13x := hide (A13.out.below hh); have A15x := hide (A15.out.below hh); clear hh HP7 HB7 A5 A6 A8 A9 A11 A13 A15 K8))
  refine named (P := Code.wp _ _ _ _) ?_
  intro w8n hwn
  obtain ⟨N1, bb, _⟩ := one_cell hwn
  have HP8 := hide (QP8.out.below bb)
  have HB8 := hide (QB8.out.trans (bb.mono QB8.out.size))
  have A5 := hide (A5x.out.below bb)
  have A6 := hide (A6x.out.below bb)
  have A8 := hide (A8x.out.below bb)
  have A9 := hide (A9x.out.below bb)
  have A11 := hide (A11x.out.below bb)
  have A13 := hide (A13x.out.below bb)
  have A15 := hide (A15x.out.below bb)
  have A17 := hide N1
  clear hwn bb N1  QP8 QB8 A5x A6x A8x A9x A11x A13x A15x
  obtain ⟨t8, ht⟩ : ∃ t, t = v8.heap.size := ⟨_, rfl⟩
  rw [← ht] at A17 ⊢
  clear ht
  obtain ⟨A5p, _⟩ := A5.out.get 0 _ rfl
  obtain ⟨A5q, _⟩ := A5.out.get 1 _ rfl
  obtain ⟨A6p, _⟩ := A6.out.get 0 _ rfl
  obtain ⟨A6q, _⟩ := A6.out.get 1 _ rfl
  obtain ⟨A8p, _⟩ := A8.out.get 0 _ rfl
  obtain ⟨A8q, _⟩ := A8.out.get 1 _ rfl
  obtain ⟨A9p, _⟩ := A9.out.get 0 _ rfl
  obtain ⟨A9q, _⟩ := A9.out.get 1 _ rfl
  obtain ⟨A11p, _⟩ := A11.out.get 0 _ rfl
  obtain ⟨A11q, _⟩ := A11.out.get 1 _ rfl
  obtain ⟨A13p, _⟩ := A13.out.get 0 _ rfl
  obtain ⟨A13q, _⟩ := A13.out.get 1 _ rfl
  obtain ⟨A15p, _⟩ := A15.out.get 0 _ rfl
  obtain ⟨A15q, _⟩ := A15.out.get 1 _ rfl
  go_upto_region 14 with (go_at_call 10; refine (num_any _ _).mono ?_; rintro e w2 ⟨rfl, rfl⟩)
  clear A5p A5q A6p A6q A8p A8q A9p A9q A11p A11q A13p A13q A15p A15q A5 A6 A8 A9 A11 A13 A15 A17
  go_wp2_with fail
  refine (K9 _ HP8.out).mono ?_
  rintro e w20 ⟨v, rfl, ov, nv, hh⟩
  obtain ⟨g1, cap1, rfl, _⟩ := ov.form (by simp)
  have HP20 := hide (HP8.out.below hh)
  have HB20 := hide (HB8.out.trans (hh.mono HB8.out.size))
  have OV := hide ov
  clear ov nv hh HP8 HB8 K9
  go_wp2_with fail
  have bb := alloc_below w20 (.cells #[.int .i64 7] 3)
  refine (same_true [7] _ _ cap1 1 _ ((OV.out.below bb).seen_at) (Seen.one w20 .i64 7 3) (by simp)).mono ?_
  rintro e w21 ⟨rfl, hh⟩
  have HP21 := hide ((HP20.out.below bb).below hh)
  have HB21 := hide (HB20.out.trans ((bb.trans (hh.mono bb.size)).mono HB20.out.size))
  clear OV bb hh HP20 HB20
  go_wp2_with fail
  refine (K10 _ HP21.out).mono ?_
  rintro e w22 ⟨v, rfl, ov, nv, hh⟩
  obtain ⟨g1, cap1, rfl, _⟩ := ov.form (by simp)
  have HB22 := hide (HB21.out.trans (hh.mono HB21.out.size))
  have OV := hide ov
  clear ov nv hh HP21 HB21 K10
  go_wp2_with fail
  have bb := alloc_below w22 (.cells #[.int .i64 3] 3)
  refine (same_true [3] _ _ cap1 1 _ ((OV.out.below bb).seen_at) (Seen.one w22 .i64 3 3) (by simp)).mono ?_
  rintro e w23 ⟨rfl, hh⟩
  have HB23 := hide (HB22.out.trans ((bb.trans (hh.mono bb.size)).mono HB22.out.size))
  clear OV bb hh HB22
  go_wp2_with fail
  go_ret
  exact ⟨rfl, HB23.out⟩
end Go.Proofs.Ytimakfnlcgedkaa
