import Derived.Test.YtapjbgkmcplpbaaGreatAwake
namespace Go.Proofs.YtapjbgkmcplpbaaGreat
open Go.RowKit Go.QK

set_option maxRecDepth 100000 in
theorem rest_any (n : Int) (m : Nat) (h1 : 1 ≤ m) (h2 : m ≤ 4294967296) (w : World) : Calls Tryz.prog 20 #[.int .i64 n, .int .i64 (m : Int)] w fun e w' => e = .returned (.int .i64 (n % (m : Int))) ∧ w' = w := by
  obtain ⟨q, hq⟩ : ∃ q, q = n.tmod (m : Int) := ⟨_, rfl⟩
  have q1 : -(m : Int) < q := by
    rw [hq]
    have := Int.lt_tmod_of_pos n (show (0 : Int) < m by omega)
    omega
  have q2 : q < (m : Int) := by rw [hq]; exact Int.tmod_lt_of_pos n (by omega)
  have q3 : (q + (m : Int)).tmod (m : Int) = n % (m : Int) := by
    rw [Int.tmod_eq_emod_of_nonneg (by omega), Int.add_emod_right, hq, Int.tmod_eq_emod]
    split
    · simp
    · rename_i h
      rw [Int.sub_emod]
      simp
  have e0 : ¬ (m : Int) = 0 := by omega
  have e0' : ((m : Int) == 0) = false := by simpa using e0
  have e1 : n.tmod (m : Int) = q := hq.symm
  have e2 : wrap64 (q + (m : Int)) = q + (m : Int) := by unfold wrap64; omega
  generalize n % (m : Int) = r at *
  clear hq
  go_enter Tryz.func20, Tryz.ntmps20
  go_wp2_with fail
  go_ret
  exact ⟨rfl, rfl⟩

def smP (p : Int) : Int := 2 + p % 4
def smL (l : Int) : Int := 4 + l % 5
def smF (f : Int) : Int := 2 + f % 15
theorem small_may (p l f : Int) : mayN (smP p) (smL l) (smF f) := by unfold mayN smP smL smF; omega
theorem small_lt (p l f : Int) : smP p ≤ 5 ∧ smL l ≤ 8 ∧ smF f ≤ 16 ∧ 2 ≤ smP p ∧ 4 ≤ smL l ∧ 2 ≤ smF f := by unfold smP smL smF; omega

set_option maxHeartbeats 2000000 in
set_option maxRecDepth 100000 in
theorem small_any (p l f : Int) (w : World) : Calls Tryz.prog 6 #[.agg (shC p l f)] w fun e w' => e = .returned (.agg (shC (smP p) (smL l) (smF f))) ∧ Below w.heap.size w w' := by
  obtain ⟨w1, hw1⟩ : ∃ w1, w1 = (w.alloc (.cells #[.int .i64 p, .int .i64 l, .int .i64 f] 23)).alloc (.cells #[.int .i64 0, .int .i64 0, .int .i64 0] 23) := ⟨_, rfl⟩
  have b1 : Below w.heap.size w w1 := by rw [hw1]; exact ((Below.refl _ w).alloc (Nat.le_refl _) _).alloc (by simp) _
  have C1 : cell3 w1 w.heap.size p l f := by rw [hw1]; exact (cell3.new w p l f).below (alloc_below _ _)
  have R1 : cell3 w1 (w.heap.size + 1) 0 0 0 := by
    have := cell3.new (w.alloc (.cells #[.int .i64 p, .int .i64 l, .int .i64 f] 23)) 0 0 0
    rw [World.size_alloc] at this
    rw [hw1]; exact this
  have z1 : w1.heap.size = w.heap.size + 2 := by rw [hw1]; simp
  have K1 := rest_any p 4 (by omega) (by omega) w1.drew
  have K2 := rest_any l 5 (by omega) (by omega) w1.drew
  have K3 := rest_any f 15 (by omega) (by omega) w1.drew
  have e1 : wrap64 (2 + p % 4) = 2 + p % 4 := by unfold wrap64; omega
  have e2 : wrap64 (4 + l % 5) = 4 + l % 5 := by unfold wrap64; omega
  have e3 : wrap64 (2 + f % 15) = 2 + f % 15 := by unfold wrap64; omega
  simp only [show ((4 : Nat) : Int) = 4 from rfl, show ((5 : Nat) : Int) = 5 from rfl, show ((15 : Nat) : Int) = 15 from rfl] at K1 K2 K3
  have g1 : IntKind.i64.wrap (2 + p % 4) = 2 + p % 4 := by rw [IntKind.wrap_i64]; omega
  have g2 : IntKind.i64.wrap (4 + l % 5) = 4 + l % 5 := by rw [IntKind.wrap_i64]; omega
  have g3 : IntKind.i64.wrap (2 + f % 15) = 2 + f % 15 := by rw [IntKind.wrap_i64]; omega
  have q0 := R1.c0
  have q1 := R1.c1
  have q2 := R1.c2
  have f0 := R1.fr 0 (by omega)
  have f1 := R1.fr 1 (by omega)
  have f2 := R1.fr 2 (by omega)
  unfold smP smL smF shC
  generalize p % 4 = pp at *
  generalize l % 5 = ll at *
  generalize f % 15 = ff at *
  obtain ⟨w5, hw5⟩ : ∃ w5, w5 = (((w1.setCell ⟨w.heap.size + 1, 0, none⟩ (.int .i64 (2 + pp))).setCell ⟨w.heap.size + 1, 1, none⟩ (.int .i64 (4 + ll))).setCell ⟨w.heap.size + 1, 2, none⟩ (.int .i64 (2 + ff))).drew := ⟨_, rfl⟩
  have k5 : Keep (fun b => b = w.heap.size + 1) w1 w5 := by rw [hw5]; exact ((((Keep.refl (fun k => k = w.heap.size + 1) w1).setCell (fun _ => rfl) _).setCell (fun _ => rfl) _).setCell (fun _ => rfl) _).drew
  have C5 : cell3 w5 (w.heap.size + 1) (2 + pp) (4 + ll) (2 + ff) := by rw [hw5]; exact ((Cells.stored R1 (j := 0) (by simp) _).stored (j := 1) (by simp) _).stored (j := 2) (by simp) _
  have D5 := C1.keep k5 (by omega)
  have B5 := hide (b1.trans (k5.below (by omega) (fun k hk => by omega)))
  have K1 := hide K1
  have K2 := hide K2
  have K3 := hide K3
  have HW := hide hw1
  have HW5 := hide hw5
  have C5 := hide C5
  have D5 := hide D5
  have F1 := C1.three
  clear hw1 hw5 k5 R1 C1 b1
  go_enter Tryz.func6, Tryz.ntmps6
  go_upto_region 1 with fail
  rw [← HW.out]
  clear HW
  refine wp_region_held_drew (S := Three w.heap.size p l f) (by kernel_rfl) F1 (fun hS => ?_)
  refine take_at 0 (some 3) (v := ?_) rfl rfl (by kernel_rfl) (by kernel_rfl) (by kernel_rfl) (fun _ _ _ h => h) ⟨by rfl, ?_⟩ hS ?_
  rotate_left
  · intro wq hSw; go_simp; try rfl
  simp only [Act.put, List.setIfInBounds_toArray, List.set_cons_zero, List.set_cons_succ]
  refine take_at 1 (some 4) (v := ?_) rfl rfl (by kernel_rfl) (by kernel_rfl) (by kernel_rfl) (fun _ _ _ h => h) ⟨by rfl, ?_⟩ hS ?_
  rotate_left
  · intro wq hSw; obtain ⟨x0, x1, x2⟩ := hSw; go_simp; try rfl
  simp only [Act.put, List.setIfInBounds_toArray, List.set_cons_zero, List.set_cons_succ]
  refine take_at 4 (some 7) (v := ?_) rfl rfl (by kernel_rfl) (by kernel_rfl) (by kernel_rfl) (fun _ _ _ h => h) ⟨by rfl, ?_⟩ hS ?_
  rotate_left
  · intro wq hSw; go_simp; try rfl
  simp only [Act.put, List.setIfInBounds_toArray, List.set_cons_zero, List.set_cons_succ]
  refine take_at 5 (some 8) (v := ?_) rfl rfl (by kernel_rfl) (by kernel_rfl) (by kernel_rfl) (fun _ _ _ h => h) ⟨by rfl, ?_⟩ hS ?_
  rotate_left
  · intro wq hSw; obtain ⟨x0, x1, x2⟩ := hSw; go_simp; try rfl
  simp only [Act.put, List.setIfInBounds_toArray, List.set_cons_zero, List.set_cons_succ]
  refine take_at 8 (some 11) (v := ?_) rfl rfl (by kernel_rfl) (by kernel_rfl) (by kernel_rfl) (fun _ _ _ h => h) ⟨by rfl, ?_⟩ hS ?_
  rotate_left
  · intro wq hSw; go_simp; try rfl
  simp only [Act.put, List.setIfInBounds_toArray, List.set_cons_zero, List.set_cons_succ]
  refine take_at 9 (some 12) (v := ?_) rfl rfl (by kernel_rfl) (by kernel_rfl) (by kernel_rfl) (fun _ _ _ h => h) ⟨by rfl, ?_⟩ hS ?_
  rotate_left
  · intro wq hSw; obtain ⟨x0, x1, x2⟩ := hSw; go_simp; try rfl
  simp only [Act.put, List.setIfInBounds_toArray, List.set_cons_zero, List.set_cons_succ]
  refine wpAnyH_ready (rs := [2]) (by kernel_rfl) (by simp) ?_
  refine AllReadyH.cons rfl (fun K hK => ?_) AllReadyH.nil
  go_simp
  go_wp2_with fail
  refine K1.out.mono ?_
  rintro e w' ⟨rfl, hw⟩
  obtain rfl : w1.drew = w' := hw.symm
  go_wp2_with fail
  refine hK.out _ _ hS (fun hS => ?_)
  clear hK K
  clear K1
  (try simp only [Act.put, List.setIfInBounds_toArray, List.set_cons_zero, List.set_cons_succ])
  refine take_at 3 (some 6) (v := ?_) rfl rfl (by kernel_rfl) (by kernel_rfl) (by kernel_rfl) (fun _ _ _ h => h) ⟨by rfl, ?_⟩ hS ?_
  rotate_left
  · intro wq hSw; go_simp; try rfl
  simp only [Act.put, List.setIfInBounds_toArray, List.set_cons_zero, List.set_cons_succ]
  refine wpAnyH_ready (rs := [6]) (by kernel_rfl) (by simp) ?_
  refine AllReadyH.cons rfl (fun K hK => ?_) AllReadyH.nil
  go_simp
  go_wp2_with fail
  refine K2.out.mono ?_
  rintro e w' ⟨rfl, hw⟩
  obtain rfl : w1.drew = w' := hw.symm
  go_wp2_with fail
  refine hK.out _ _ hS (fun hS => ?_)
  clear hK K
  clear K2
  (try simp only [Act.put, List.setIfInBounds_toArray, List.set_cons_zero, List.set_cons_succ])
  refine take_at 7 (some 10) (v := ?_) rfl rfl (by kernel_rfl) (by kernel_rfl) (by kernel_rfl) (fun _ _ _ h => h) ⟨by rfl, ?_⟩ hS ?_
  rotate_left
  · intro wq hSw; go_simp; try rfl
  simp only [Act.put, List.setIfInBounds_toArray, List.set_cons_zero, List.set_cons_succ]
  refine wpAnyH_ready (rs := [10]) (by kernel_rfl) (by simp) ?_
  refine AllReadyH.cons rfl (fun K hK => ?_) AllReadyH.nil
  go_simp
  go_wp2_with fail
  refine K3.out.mono ?_
  rintro e w' ⟨rfl, hw⟩
  obtain rfl : w1.drew = w' := hw.symm
  go_wp2_with fail
  refine hK.out _ _ hS (fun hS => ?_)
  clear hK K
  clear K3
  (try simp only [Act.put, List.setIfInBounds_toArray, List.set_cons_zero, List.set_cons_succ])
  refine take_at 11 (some 14) (v := ?_) rfl rfl (by kernel_rfl) (by kernel_rfl) (by kernel_rfl) (fun _ _ _ h => h) ⟨by rfl, ?_⟩ hS ?_
  rotate_left
  · intro wq hSw; go_simp; try rfl
  simp only [Act.put, List.setIfInBounds_toArray, List.set_cons_zero, List.set_cons_succ]
  refine take_at 12 (some 15) (v := ?_) rfl rfl (by kernel_rfl) (by kernel_rfl) (by kernel_rfl) (fun _ _ _ h => h) ⟨by rfl, ?_⟩ hS ?_
  rotate_left
  · intro wq hSw; go_simp; try rfl
  simp only [Act.put, List.setIfInBounds_toArray, List.set_cons_zero, List.set_cons_succ]
  refine wpAnyH_ready (rs := [13]) (by kernel_rfl) (by simp) ?_
  refine AllReadyH.cons rfl (fun K hK => ?_) AllReadyH.nil
  go_simp
  go_wp2_with fail
  rw [← HW5.out]
  refine hK.out _ _ D5.out.three (fun hS => ?_)
  clear hK K
  (try simp only [Act.put, List.setIfInBounds_toArray, List.set_cons_zero, List.set_cons_succ])
  refine wpAnyH_done (by kernel_rfl) ?_ _
  go_wp2_with fail
  have y0 := C5.out.c0
  have y1 := C5.out.c1
  have y2 := C5.out.c2
  exact bodyPost_ret (v := .agg #[.int .i64 (2 + pp), .int .i64 (4 + ll), .int .i64 (2 + ff)]) (by simp [results, Tryz.results6, go_sem, y0, y1, y2]) rfl ⟨rfl, B5.out⟩

set_option maxHeartbeats 2000000 in
set_option maxRecDepth 100000 in
theorem rMay_any (p l f : Int) (w : World) : Calls Tryz.prog 49 #[.agg (shC p l f)] w fun e w' => e = .returned (.bool (decide (mayN p l f))) ∧ Below w.heap.size w w' := by
  have B := hide (alloc_below w (.cells #[.int .i64 p, .int .i64 l, .int .i64 f] 23))
  unfold shC
  obtain ⟨bb, hbb⟩ : ∃ bb, bb = decide (mayN p l f) := ⟨_, rfl⟩
  rw [← hbb]
  have HB := hide hbb
  clear hbb
  by_cases h0 : 2 ≤ p
  · by_cases h1 : p ≤ 64
    · by_cases h2 : 4 ≤ l
      · by_cases h3 : l ≤ 4096
        · by_cases h4 : 2 ≤ f
          · by_cases h5 : f ≤ 16
            · obtain rfl : true = bb := by rw [HB.out, decide_eq_true (show mayN p l f from ⟨h0, h1, h2, h3, h4, h5⟩)]
              clear HB
              go_enter Tryz.func49, Tryz.ntmps49
              go_wp2_with fail
              go_ret
              exact ⟨by simp, B.out⟩
            · obtain rfl : false = bb := by rw [HB.out, decide_eq_false (show ¬ mayN p l f from fun q => h5 q.2.2.2.2.2)]
              have g5 : decide (f ≤ 16) = false := decide_eq_false h5
              clear HB
              go_enter Tryz.func49, Tryz.ntmps49
              go_wp2_with fail
              go_ret
              exact ⟨by first | rfl | simp [g5], B.out⟩
          · obtain rfl : false = bb := by rw [HB.out, decide_eq_false (show ¬ mayN p l f from fun q => h4 q.2.2.2.2.1)]
            have g4 : decide (2 ≤ f) = false := decide_eq_false h4
            clear HB
            go_enter Tryz.func49, Tryz.ntmps49
            go_wp2_with fail
            go_ret
            exact ⟨by first | rfl | simp [g4], B.out⟩
        · obtain rfl : false = bb := by rw [HB.out, decide_eq_false (show ¬ mayN p l f from fun q => h3 q.2.2.2.1)]
          have g3 : decide (l ≤ 4096) = false := decide_eq_false h3
          clear HB
          go_enter Tryz.func49, Tryz.ntmps49
          go_wp2_with fail
          go_ret
          exact ⟨by first | rfl | simp [g3], B.out⟩
      · obtain rfl : false = bb := by rw [HB.out, decide_eq_false (show ¬ mayN p l f from fun q => h2 q.2.2.1)]
        have g2 : decide (4 ≤ l) = false := decide_eq_false h2
        clear HB
        go_enter Tryz.func49, Tryz.ntmps49
        go_wp2_with fail
        go_ret
        exact ⟨by first | rfl | simp [g2], B.out⟩
    · obtain rfl : false = bb := by rw [HB.out, decide_eq_false (show ¬ mayN p l f from fun q => h1 q.2.1)]
      have g1 : decide (p ≤ 64) = false := decide_eq_false h1
      clear HB
      go_enter Tryz.func49, Tryz.ntmps49
      go_wp2_with fail
      go_ret
      exact ⟨by first | rfl | simp [g1], B.out⟩
  · obtain rfl : false = bb := by rw [HB.out, decide_eq_false (show ¬ mayN p l f from fun q => h0 q.1)]
    have g0 : decide (2 ≤ p) = false := decide_eq_false h0
    clear HB
    go_enter Tryz.func49, Tryz.ntmps49
    go_wp2_with fail
    go_ret
    exact ⟨by first | rfl | simp [g0], B.out⟩

set_option maxHeartbeats 1000000 in
set_option maxRecDepth 100000 in
theorem rNeed_any (p l f : Int) (w : World) : Calls Tryz.prog 18 #[.agg (shC p l f)] w fun e w' => e = .returned (.tuple #[.int .i64 (needN p l f), .int .i64 ((mayE p l f : Nat) : Int)]) ∧ Below w.heap.size w w' := by
  have K := rMay_any p l f (w.alloc (.cells #[.int .i64 p, .int .i64 l, .int .i64 f] 23))
  have C0 := cell3.new w p l f
  have B0 := alloc_below w (.cells #[.int .i64 p, .int .i64 l, .int .i64 f] 23)
  (try unfold needN)
  unfold mayE
  unfold shC at K ⊢
  by_cases h : mayN p l f
  · rw [if_pos h, if_pos h]
    rw [decide_eq_true h] at K
    have K := hide K
    have hp : 2 ≤ p ∧ p ≤ 64 ∧ 4 ≤ l ∧ l ≤ 4096 := ⟨h.1, h.2.1, h.2.2.1, h.2.2.2.1⟩
    have e1 : wrap64 (2 * p) = 2 * p := by unfold wrap64; omega
    have e2 : wrap64 (5 + 2 * p) = 5 + 2 * p := by unfold wrap64; omega
    have e3 : wrap64 (5 + 2 * p + l) = 5 + 2 * p + l := by unfold wrap64; omega
    clear h
    go_enter Tryz.func18, Tryz.ntmps18
    go_wp2_with fail
    refine K.out.mono ?_
    rintro e w1 ⟨rfl, b1⟩
    have c0 := (C0.below b1).c0
    have c1 := (C0.below b1).c1
    have B1 := hide (bnext B0 b1 (Nat.le_refl _))
    clear K b1 C0 B0
    go_wp2_with fail
    exact bodyPost_ret (v := .tuple #[.int .i64 (5 + 2 * p + l), .int .i64 0]) (by simp [results, Tryz.results18, go_sem]) rfl ⟨rfl, B1.out⟩
  · rw [if_neg h, if_neg h]
    rw [decide_eq_false h] at K
    have K := hide K
    clear h
    go_enter Tryz.func18, Tryz.ntmps18
    go_wp2_with fail
    refine K.out.mono ?_
    rintro e w1 ⟨rfl, b1⟩
    have B1 := hide (bnext B0 b1 (Nat.le_refl _))
    clear K b1 C0 B0
    go_wp2_with fail
    exact bodyPost_ret (v := .tuple #[.int .i64 0, .int .i64 2]) (by simp [results, Tryz.results18, go_sem]) rfl ⟨rfl, B1.out⟩

set_option maxHeartbeats 1000000 in
set_option maxRecDepth 100000 in
theorem rLog_any (p l f : Int) (w : World) : Calls Tryz.prog 51 #[.agg (shC p l f)] w fun e w' => e = .returned (.tuple #[.int .i64 (if mayN p l f then 5 + 2 * p else 0), .int .i64 ((mayE p l f : Nat) : Int)]) ∧ Below w.heap.size w w' := by
  have K := rMay_any p l f (w.alloc (.cells #[.int .i64 p, .int .i64 l, .int .i64 f] 23))
  have C0 := cell3.new w p l f
  have B0 := alloc_below w (.cells #[.int .i64 p, .int .i64 l, .int .i64 f] 23)
  (try unfold needN)
  unfold mayE
  unfold shC at K ⊢
  by_cases h : mayN p l f
  · rw [if_pos h, if_pos h]
    rw [decide_eq_true h] at K
    have K := hide K
    have hp : 2 ≤ p ∧ p ≤ 64 ∧ 4 ≤ l ∧ l ≤ 4096 := ⟨h.1, h.2.1, h.2.2.1, h.2.2.2.1⟩
    have e1 : wrap64 (2 * p) = 2 * p := by unfold wrap64; omega
    have e2 : wrap64 (5 + 2 * p) = 5 + 2 * p := by unfold wrap64; omega
    have e3 : wrap64 (5 + 2 * p + l) = 5 + 2 * p + l := by unfold wrap64; omega
    clear h
    go_enter Tryz.func51, Tryz.ntmps51
    go_wp2_with fail
    refine K.out.mono ?_
    rintro e w1 ⟨rfl, b1⟩
    have c0 := (C0.below b1).c0
    have c1 := (C0.below b1).c1
    have B1 := hide (bnext B0 b1 (Nat.le_refl _))
    clear K b1 C0 B0
    go_wp2_with fail
    exact bodyPost_ret (v := .tuple #[.int .i64 (5 + 2 * p), .int .i64 0]) (by simp [results, Tryz.results51, go_sem]) rfl ⟨rfl, B1.out⟩
  · rw [if_neg h, if_neg h]
    rw [decide_eq_false h] at K
    have K := hide K
    clear h
    go_enter Tryz.func51, Tryz.ntmps51
    go_wp2_with fail
    refine K.out.mono ?_
    rintro e w1 ⟨rfl, b1⟩
    have B1 := hide (bnext B0 b1 (Nat.le_refl _))
    clear K b1 C0 B0
    go_wp2_with fail
    exact bodyPost_ret (v := .tuple #[.int .i64 0, .int .i64 2]) (by simp [results, Tryz.results51, go_sem]) rfl ⟨rfl, B1.out⟩

set_option maxHeartbeats 1000000 in
set_option maxRecDepth 100000 in
theorem rHome_any (p l f page : Int) (w : World) : Calls Tryz.prog 50 #[.agg (shC p l f), .int .i64 page] w fun e w' => e = .returned (.tuple #[.int .i64 (homeN p l f page), .int .i64 ((homeE p l f page : Nat) : Int)]) ∧ Below w.heap.size w w' := by
  have K := rMay_any p l f (w.alloc (.cells #[.int .i64 p, .int .i64 l, .int .i64 f] 23))
  have C0 := cell3.new w p l f
  have B0 := alloc_below w (.cells #[.int .i64 p, .int .i64 l, .int .i64 f] 23)
  unfold homeN homeE
  unfold shC at K ⊢
  by_cases h : mayN p l f
  · rw [if_neg (not_not_intro h)]
    rw [decide_eq_true h] at K
    have K := hide K
    have hp : 2 ≤ p ∧ p ≤ 64 := ⟨h.1, h.2.1⟩
    clear h
    by_cases q1 : page < 0
    · rw [if_pos (show page < 0 ∨ p ≤ page from .inl q1)]
      go_enter Tryz.func50, Tryz.ntmps50
      go_wp2_with fail
      refine K.out.mono ?_
      rintro e w1 ⟨rfl, b1⟩
      have c0 := (C0.below b1).c0
      have B1 := hide (bnext B0 b1 (Nat.le_refl _))
      clear K b1 C0 B0
      go_wp2_with fail
      exact bodyPost_ret (v := .tuple #[.int .i64 0, .int .i64 4]) (by simp [results, Tryz.results50, go_sem]) rfl ⟨rfl, B1.out⟩
    · by_cases q2 : p ≤ page
      · rw [if_pos (show page < 0 ∨ p ≤ page from .inr q2)]
        have q1' : ¬ page < 0 := q1
        go_enter Tryz.func50, Tryz.ntmps50
        go_wp2_with fail
        refine K.out.mono ?_
        rintro e w1 ⟨rfl, b1⟩
        have c0 := (C0.below b1).c0
        have B1 := hide (bnext B0 b1 (Nat.le_refl _))
        clear K b1 C0 B0
        go_wp2_with fail
        exact bodyPost_ret (v := .tuple #[.int .i64 0, .int .i64 4]) (by simp [results, Tryz.results50, go_sem]) rfl ⟨rfl, B1.out⟩
      · rw [if_neg (show ¬ (page < 0 ∨ p ≤ page) by omega)]
        have e1 : wrap64 (2 * page) = 2 * page := by unfold wrap64; omega
        have e2 : wrap64 (5 + 2 * page) = 5 + 2 * page := by unfold wrap64; omega
        go_enter Tryz.func50, Tryz.ntmps50
        go_wp2_with fail
        refine K.out.mono ?_
        rintro e w1 ⟨rfl, b1⟩
        have c0 := (C0.below b1).c0
        have B1 := hide (bnext B0 b1 (Nat.le_refl _))
        clear K b1 C0 B0
        go_wp2_with fail
        exact bodyPost_ret (v := .tuple #[.int .i64 (5 + 2 * page), .int .i64 0]) (by simp [results, Tryz.results50, go_sem]) rfl ⟨rfl, B1.out⟩
  · rw [if_pos h]
    rw [decide_eq_false h] at K
    have K := hide K
    clear h
    go_enter Tryz.func50, Tryz.ntmps50
    go_wp2_with fail
    refine K.out.mono ?_
    rintro e w1 ⟨rfl, b1⟩
    have B1 := hide (bnext B0 b1 (Nat.le_refl _))
    clear K b1 C0 B0
    go_wp2_with fail
    exact bodyPost_ret (v := .tuple #[.int .i64 0, .int .i64 2]) (by simp [results, Tryz.results50, go_sem]) rfl ⟨rfl, B1.out⟩

end Go.Proofs.YtapjbgkmcplpbaaGreat
