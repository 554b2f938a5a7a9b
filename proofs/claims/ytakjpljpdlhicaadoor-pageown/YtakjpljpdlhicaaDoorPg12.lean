import Derived.Test.YtakjpljpdlhicaaDoorPg8
import Derived.Test.YtakjpljpdlhicaaDoorPg6
namespace Go.Proofs.YtakjpljpdlhicaaDoor
open Go.RowKit Go.QK Go.Pg
set_option maxRecDepth 100000
set_option maxHeartbeats 16000000 in
theorem check_any (p : PageM) (t : At) (w : World) (h : PageIn w p t) :
    Calls Tryd.prog 31 #[pageV p t] w fun e w' => e = .returned (.int .i64 (checkE p)) ∧ Below w.heap.size w w' := by
  have IE := fun w => isEmpty_any p t w
  have CS := fun w' (b : Below w.heap.size w w') (h1 : p.cs.length ≤ 1000) (h2 : p.gs.length ≤ 1000) => checkSlots_any p t w' (h.below b) h1 h2
  obtain ⟨RES, hres⟩ : ∃ r, r = checkE p := ⟨_, rfl⟩
  rw [← hres]
  unfold checkE at hres
  obtain ⟨SE, hse⟩ : ∃ r, r = slotsE p.cs p.gs := ⟨_, rfl⟩
  rw [← hse] at hres
  simp only [← hse] at CS
  obtain ⟨num, lsn, cs, gs⟩ := p
  obtain ⟨ta, tc, tb, td⟩ := t
  simp only [pageV, isEmpty] at *
  clear h hse
  obtain ⟨n, hnn⟩ : ∃ n, cs.length = n := ⟨_, rfl⟩
  obtain ⟨m, hmm⟩ : ∃ m, gs.length = m := ⟨_, rfl⟩
  simp only [hnn, hmm] at hres IE CS ⊢
  clear hnn hmm
  obtain ⟨q0, hq0⟩ : ∃ q, q = (decide ((0 : Int) ≤ num) && decide (num ≤ 63)) := ⟨_, rfl⟩
  obtain ⟨q3, hq3⟩ : ∃ q, q = (decide ((0 : Int) ≤ lsn) && decide (lsn ≤ 2147483647)) := ⟨_, rfl⟩
  have F0 : ∀ w, Calls Tryd.prog 24 #[.int .i64 0, .int .i64 num, .int .i64 63] w fun e w' => e = .returned (.bool q0) ∧ w' = w := by rw [hq0]; exact fun w => from_any 0 num 63 w
  have F3 : ∀ w, Calls Tryd.prog 24 #[.int .i64 0, .int .i64 lsn, .int .i64 2147483647] w fun e w' => e = .returned (.bool q3) ∧ w' = w := by rw [hq3]; exact fun w => from_any 0 lsn 2147483647 w
  have HR := hide hres
  have HQ0 := hide hq0
  have HQ3 := hide hq3
  clear hres hq0 hq3
  obtain ⟨w2, hw2⟩ : ∃ w2, w2 = w.alloc (.cells #[.int .i64 num, .int .i64 lsn, .slice ta n tc, .slice tb m td] 27) := ⟨_, rfl⟩
  have c2 : Cells w2 w.heap.size [.int .i64 num, .int .i64 lsn, .slice ta n tc, .slice tb m td] := by rw [hw2]; exact Cells.new w _ _
  have b2 : Below w.heap.size w w2 := by rw [hw2]; exact alloc_below _ _
  have HW := hide hw2
  have C2 := hide c2
  have B2 := hide b2
  clear hw2 c2 b2
  cases q0 with
  | false =>
    have HV : Hid (RES = 4) := by
      have hq := HQ0.out
      unfold Hid
      rw [HR.out, if_pos (by simp at hq; omega)]
    go_enter Tryd.func31, Tryd.ntmps31
    go_upto_region 1 with fail
    rw [← HW.out]
    obtain ⟨g0, f0⟩ := C2.out.get 0 _ rfl
    obtain ⟨g1, f1⟩ := C2.out.get 1 _ rfl
    obtain ⟨g2, f2⟩ := C2.out.get 2 _ rfl
    obtain ⟨g3, f3⟩ := C2.out.get 3 _ rfl
    go_wp2_with fail
    refine (F0 _).mono ?_
    rintro e w4 ⟨rfl, hw4⟩
    obtain rfl : w2 = w4 := hw4.symm
    clear hw4
    go_wp2_with fail
    go_ret
    exact ⟨by rw [HV.out]; rfl, B2.out⟩
  | true =>
    have hnum : ¬ (num < 0 ∨ 63 < num) := by have hq := HQ0.out; simp at hq; omega
    have hr2 := HR.out
    rw [if_neg hnum] at hr2
    clear HR
    have HR := hide hr2
    clear hnum hr2
    by_cases hn : n = 0
    · subst hn
      by_cases hm : m = 0
      · subst hm
        cases q3 with
        | false =>
          have HV : Hid (RES = 23) := by
            have hq := HQ3.out
            unfold Hid
            rw [HR.out]
            simp at hq ⊢; omega
          go_enter Tryd.func31, Tryd.ntmps31
          go_upto_region 1 with fail
          rw [← HW.out]
          obtain ⟨g0, f0⟩ := C2.out.get 0 _ rfl
          obtain ⟨g1, f1⟩ := C2.out.get 1 _ rfl
          obtain ⟨g2, f2⟩ := C2.out.get 2 _ rfl
          obtain ⟨g3, f3⟩ := C2.out.get 3 _ rfl
          go_wp2_with fail
          refine (F0 _).mono ?_
          rintro e w4 ⟨rfl, hw4⟩
          obtain rfl : w2 = w4 := hw4.symm
          clear hw4
          go_upto_region 7 with fail
          refine wp_region_held_drew (S := fun wq => wq.cell? ⟨w.heap.size, 0, none⟩ = some (.int .i64 num) ∧ wq.cell? ⟨w.heap.size, 1, none⟩ = some (.int .i64 lsn) ∧ wq.cell? ⟨w.heap.size, 2, none⟩ = some (.slice ta 0 tc) ∧ wq.cell? ⟨w.heap.size, 3, none⟩ = some (.slice tb 0 td)) (by kernel_rfl) ⟨g0, g1, g2, g3⟩ (fun hS => ?_)
          have C3 := hide C2.out.drew
          have B3 := hide (show Below w.heap.size w w2.drew from B2.out.drew)
          clear g0 g1 g2 g3 f0 f1 f2 f3
          generalize w2.drew = w3 at *
          refine take_at 0 (some 31) (v := ?_) rfl rfl (by kernel_rfl) (by kernel_rfl) (by kernel_rfl) (fun _ _ _ h => h) ⟨by rfl, ?_⟩ hS ?_
          rotate_left
          · intro wq hSw; go_simp; try rfl
          simp only [Act.put, List.setIfInBounds_toArray, List.set_cons_zero, List.set_cons_succ]
          refine take_at 1 (some 32) (v := ?_) rfl rfl (by kernel_rfl) (by kernel_rfl) (by kernel_rfl) (fun _ _ _ h => h) ⟨by rfl, ?_⟩ hS ?_
          rotate_left
          · intro wq hSw; obtain ⟨y0, y1, y2, y3⟩ := hSw; go_simp; try rfl
          simp only [Act.put, List.setIfInBounds_toArray, List.set_cons_zero, List.set_cons_succ]
          refine wpAnyH_ready (rs := [2]) (by kernel_rfl) (by simp) ?_
          refine AllReadyH.cons rfl (fun K hK => ?_) AllReadyH.nil
          go_simp
          go_wp2_with fail
          refine (F3 _).mono ?_
          rintro e w4 ⟨rfl, hw4⟩
          obtain rfl : w3 = w4 := hw4.symm
          clear hw4
          go_wp2_with fail
          refine hK.out _ _ hS (fun hS => ?_)
          clear hK K
          (try simp only [Act.put, List.setIfInBounds_toArray, List.set_cons_zero, List.set_cons_succ])
          refine take_at 3 (some 34) (v := ?_) rfl rfl (by kernel_rfl) (by kernel_rfl) (by kernel_rfl) (fun _ _ _ h => h) ⟨by rfl, ?_⟩ hS ?_
          rotate_left
          · intro wq hSw; go_simp; try rfl
          simp only [Act.put, List.setIfInBounds_toArray, List.set_cons_zero, List.set_cons_succ]
          refine take_at 4 (some 35) (v := ?_) rfl rfl (by kernel_rfl) (by kernel_rfl) (by kernel_rfl) (fun _ _ _ h => h) ⟨by rfl, ?_⟩ hS ?_
          rotate_left
          · intro wq hSw; go_simp; try rfl
          simp only [Act.put, List.setIfInBounds_toArray, List.set_cons_zero, List.set_cons_succ]
          refine pass_at 5 (some 36) rfl rfl (by kernel_rfl) (by kernel_rfl) (by kernel_rfl) (fun _ _ _ h => h) (by rfl) hS ?_
          simp only [Act.put, List.setIfInBounds_toArray, List.set_cons_zero, List.set_cons_succ]
          refine pass_at 6 (some 37) rfl rfl (by kernel_rfl) (by kernel_rfl) (by kernel_rfl) (fun _ _ _ h => h) (by rfl) hS ?_
          simp only [Act.put, List.setIfInBounds_toArray, List.set_cons_zero, List.set_cons_succ]
          refine pass_at 7 (some 38) rfl rfl (by kernel_rfl) (by kernel_rfl) (by kernel_rfl) (fun _ _ _ h => h) (by rfl) hS ?_
          simp only [Act.put, List.setIfInBounds_toArray, List.set_cons_zero, List.set_cons_succ]
          refine pass_at 8 (some 39) rfl rfl (by kernel_rfl) (by kernel_rfl) (by kernel_rfl) (fun _ _ _ h => h) (by rfl) hS ?_
          simp only [Act.put, List.setIfInBounds_toArray, List.set_cons_zero, List.set_cons_succ]
          refine pass_at 9 (some 40) rfl rfl (by kernel_rfl) (by kernel_rfl) (by kernel_rfl) (fun _ _ _ h => h) (by rfl) hS ?_
          simp only [Act.put, List.setIfInBounds_toArray, List.set_cons_zero, List.set_cons_succ]
          refine pass_at 10 (some 41) rfl rfl (by kernel_rfl) (by kernel_rfl) (by kernel_rfl) (fun _ _ _ h => h) (by rfl) hS ?_
          simp only [Act.put, List.setIfInBounds_toArray, List.set_cons_zero, List.set_cons_succ]
          refine take_at 11 (some 42) (v := ?_) rfl rfl (by kernel_rfl) (by kernel_rfl) (by kernel_rfl) (fun _ _ _ h => h) ⟨by rfl, ?_⟩ hS ?_
          rotate_left
          · intro wq hSw; go_simp; try rfl
          simp only [Act.put, List.setIfInBounds_toArray, List.set_cons_zero, List.set_cons_succ]
          refine take_at 12 (some 30) (v := ?_) rfl rfl (by kernel_rfl) (by kernel_rfl) (by kernel_rfl) (fun _ _ _ h => h) ⟨by rfl, ?_⟩ hS ?_
          rotate_left
          · intro wq hSw; go_simp; try rfl
          simp only [Act.put, List.setIfInBounds_toArray, List.set_cons_zero, List.set_cons_succ]
          refine wpAnyH_done (by kernel_rfl) ?_ _
          go_wp2_with fail
          go_ret
          exact ⟨by rw [HV.out]; rfl, B3.out⟩
        | true =>
          by_cases hz : lsn = 0
          · subst hz
            have HV : Hid (RES = SE) := by
              have hq := HQ3.out
              unfold Hid
              rw [HR.out]
              simp
            go_enter Tryd.func31, Tryd.ntmps31
            go_upto_region 1 with fail
            rw [← HW.out]
            obtain ⟨g0, f0⟩ := C2.out.get 0 _ rfl
            obtain ⟨g1, f1⟩ := C2.out.get 1 _ rfl
            obtain ⟨g2, f2⟩ := C2.out.get 2 _ rfl
            obtain ⟨g3, f3⟩ := C2.out.get 3 _ rfl
            go_wp2_with fail
            refine (F0 _).mono ?_
            rintro e w4 ⟨rfl, hw4⟩
            obtain rfl : w2 = w4 := hw4.symm
            clear hw4
            go_upto_region 7 with fail
            refine wp_region_held_drew (S := fun wq => wq.cell? ⟨w.heap.size, 0, none⟩ = some (.int .i64 num) ∧ wq.cell? ⟨w.heap.size, 1, none⟩ = some (.int .i64 0) ∧ wq.cell? ⟨w.heap.size, 2, none⟩ = some (.slice ta 0 tc) ∧ wq.cell? ⟨w.heap.size, 3, none⟩ = some (.slice tb 0 td)) (by kernel_rfl) ⟨g0, g1, g2, g3⟩ (fun hS => ?_)
            have C3 := hide C2.out.drew
            have B3 := hide (show Below w.heap.size w w2.drew from B2.out.drew)
            clear g0 g1 g2 g3 f0 f1 f2 f3
            generalize w2.drew = w3 at *
            refine take_at 0 (some 31) (v := ?_) rfl rfl (by kernel_rfl) (by kernel_rfl) (by kernel_rfl) (fun _ _ _ h => h) ⟨by rfl, ?_⟩ hS ?_
            rotate_left
            · intro wq hSw; go_simp; try rfl
            simp only [Act.put, List.setIfInBounds_toArray, List.set_cons_zero, List.set_cons_succ]
            refine take_at 1 (some 32) (v := ?_) rfl rfl (by kernel_rfl) (by kernel_rfl) (by kernel_rfl) (fun _ _ _ h => h) ⟨by rfl, ?_⟩ hS ?_
            rotate_left
            · intro wq hSw; obtain ⟨y0, y1, y2, y3⟩ := hSw; go_simp; try rfl
            simp only [Act.put, List.setIfInBounds_toArray, List.set_cons_zero, List.set_cons_succ]
            refine wpAnyH_ready (rs := [2]) (by kernel_rfl) (by simp) ?_
            refine AllReadyH.cons rfl (fun K hK => ?_) AllReadyH.nil
            go_simp
            go_wp2_with fail
            refine (F3 _).mono ?_
            rintro e w4 ⟨rfl, hw4⟩
            obtain rfl : w3 = w4 := hw4.symm
            clear hw4
            go_wp2_with fail
            refine hK.out _ _ hS (fun hS => ?_)
            clear hK K
            (try simp only [Act.put, List.setIfInBounds_toArray, List.set_cons_zero, List.set_cons_succ])
            refine take_at 3 (some 34) (v := ?_) rfl rfl (by kernel_rfl) (by kernel_rfl) (by kernel_rfl) (fun _ _ _ h => h) ⟨by rfl, ?_⟩ hS ?_
            rotate_left
            · intro wq hSw; go_simp; try rfl
            simp only [Act.put, List.setIfInBounds_toArray, List.set_cons_zero, List.set_cons_succ]
            refine take_at 4 (some 35) (v := ?_) rfl rfl (by kernel_rfl) (by kernel_rfl) (by kernel_rfl) (fun _ _ _ h => h) ⟨by rfl, ?_⟩ hS ?_
            rotate_left
            · intro wq hSw; go_simp; try rfl
            simp only [Act.put, List.setIfInBounds_toArray, List.set_cons_zero, List.set_cons_succ]
            refine take_at 5 (some 36) (v := ?_) rfl rfl (by kernel_rfl) (by kernel_rfl) (by kernel_rfl) (fun _ _ _ h => h) ⟨by rfl, ?_⟩ hS ?_
            rotate_left
            · intro wq hSw; obtain ⟨y0, y1, y2, y3⟩ := hSw; go_simp; try rfl
            simp only [Act.put, List.setIfInBounds_toArray, List.set_cons_zero, List.set_cons_succ]
            refine take_at 7 (some 38) (v := ?_) rfl rfl (by kernel_rfl) (by kernel_rfl) (by kernel_rfl) (fun _ _ _ h => h) ⟨by rfl, ?_⟩ hS ?_
            rotate_left
            · intro wq hSw; go_simp; try rfl
            simp only [Act.put, List.setIfInBounds_toArray, List.set_cons_zero, List.set_cons_succ]
            refine take_at 8 (some 39) (v := ?_) rfl rfl (by kernel_rfl) (by kernel_rfl) (by kernel_rfl) (fun _ _ _ h => h) ⟨by rfl, ?_⟩ hS ?_
            rotate_left
            · intro wq hSw; obtain ⟨y0, y1, y2, y3⟩ := hSw; go_simp; try rfl
            simp only [Act.put, List.setIfInBounds_toArray, List.set_cons_zero, List.set_cons_succ]
            refine take_at 9 (some 40) (v := ?_) rfl rfl (by kernel_rfl) (by kernel_rfl) (by kernel_rfl) (fun _ _ _ h => h) ⟨by rfl, ?_⟩ hS ?_
            rotate_left
            · intro wq hSw; go_simp; try rfl
            simp only [Act.put, List.setIfInBounds_toArray, List.set_cons_zero, List.set_cons_succ]
            refine wpAnyH_ready (rs := [6]) (by kernel_rfl) (by simp) ?_
            refine AllReadyH.cons rfl (fun K hK => ?_) AllReadyH.nil
            go_simp
            go_wp2_with fail
            refine (IE _).mono ?_
            rintro e w4 ⟨rfl, b4⟩
            have C4 := hide (C3.out.below b4)
            have B4 := hide (bnext B3.out b4 (Nat.le_refl _))
            clear b4
            go_wp2_with fail
            refine hK.out _ _ ⟨(C4.out.get 0 _ rfl).1, (C4.out.get 1 _ rfl).1, (C4.out.get 2 _ rfl).1, (C4.out.get 3 _ rfl).1⟩ (fun hS => ?_)
            clear hK K
            (try simp only [Act.put, List.setIfInBounds_toArray, List.set_cons_zero, List.set_cons_succ])
            refine take_at 10 (some 41) (v := ?_) rfl rfl (by kernel_rfl) (by kernel_rfl) (by kernel_rfl) (fun _ _ _ h => h) ⟨by rfl, ?_⟩ hS ?_
            rotate_left
            · intro wq hSw; go_simp; try rfl
            simp only [Act.put, List.setIfInBounds_toArray, List.set_cons_zero, List.set_cons_succ]
            refine take_at 11 (some 42) (v := ?_) rfl rfl (by kernel_rfl) (by kernel_rfl) (by kernel_rfl) (fun _ _ _ h => h) ⟨by rfl, ?_⟩ hS ?_
            rotate_left
            · intro wq hSw; go_simp; try rfl
            simp only [Act.put, List.setIfInBounds_toArray, List.set_cons_zero, List.set_cons_succ]
            refine take_at 12 (some 30) (v := ?_) rfl rfl (by kernel_rfl) (by kernel_rfl) (by kernel_rfl) (fun _ _ _ h => h) ⟨by rfl, ?_⟩ hS ?_
            rotate_left
            · intro wq hSw; go_simp; try rfl
            simp only [Act.put, List.setIfInBounds_toArray, List.set_cons_zero, List.set_cons_succ]
            refine wpAnyH_done (by kernel_rfl) ?_ _
            obtain ⟨g0, f0⟩ := C4.out.get 0 _ rfl
            obtain ⟨g1, f1⟩ := C4.out.get 1 _ rfl
            obtain ⟨g2, f2⟩ := C4.out.get 2 _ rfl
            obtain ⟨g3, f3⟩ := C4.out.get 3 _ rfl
            go_wp2_with fail
            refine (CS w4 B4.out (by omega) (by omega)).mono ?_
            rintro e w5 ⟨rfl, b5⟩
            have B5 := hide (bnext B4.out b5 (Nat.le_refl _))
            clear b5
            go_wp2_with fail
            go_ret
            exact ⟨by rw [HV.out]; rfl, B5.out⟩
          · have hz1 : (lsn == 0) = false := by simp; exact hz
            have hz2 : decide (lsn = 0) = false := by simp; exact hz
            have HV : Hid (RES = 23) := by
              have hq := HQ3.out
              unfold Hid
              rw [HR.out]
              simp [hz] at hq ⊢; try omega
            go_enter Tryd.func31, Tryd.ntmps31
            go_upto_region 1 with fail
            rw [← HW.out]
            obtain ⟨g0, f0⟩ := C2.out.get 0 _ rfl
            obtain ⟨g1, f1⟩ := C2.out.get 1 _ rfl
            obtain ⟨g2, f2⟩ := C2.out.get 2 _ rfl
            obtain ⟨g3, f3⟩ := C2.out.get 3 _ rfl
            go_wp2_with fail
            refine (F0 _).mono ?_
            rintro e w4 ⟨rfl, hw4⟩
            obtain rfl : w2 = w4 := hw4.symm
            clear hw4
            go_upto_region 7 with fail
            refine wp_region_held_drew (S := fun wq => wq.cell? ⟨w.heap.size, 0, none⟩ = some (.int .i64 num) ∧ wq.cell? ⟨w.heap.size, 1, none⟩ = some (.int .i64 lsn) ∧ wq.cell? ⟨w.heap.size, 2, none⟩ = some (.slice ta 0 tc) ∧ wq.cell? ⟨w.heap.size, 3, none⟩ = some (.slice tb 0 td)) (by kernel_rfl) ⟨g0, g1, g2, g3⟩ (fun hS => ?_)
            have C3 := hide C2.out.drew
            have B3 := hide (show Below w.heap.size w w2.drew from B2.out.drew)
            clear g0 g1 g2 g3 f0 f1 f2 f3
            generalize w2.drew = w3 at *
            refine take_at 0 (some 31) (v := ?_) rfl rfl (by kernel_rfl) (by kernel_rfl) (by kernel_rfl) (fun _ _ _ h => h) ⟨by rfl, ?_⟩ hS ?_
            rotate_left
            · intro wq hSw; go_simp; try rfl
            simp only [Act.put, List.setIfInBounds_toArray, List.set_cons_zero, List.set_cons_succ]
            refine take_at 1 (some 32) (v := ?_) rfl rfl (by kernel_rfl) (by kernel_rfl) (by kernel_rfl) (fun _ _ _ h => h) ⟨by rfl, ?_⟩ hS ?_
            rotate_left
            · intro wq hSw; obtain ⟨y0, y1, y2, y3⟩ := hSw; go_simp; try rfl
            simp only [Act.put, List.setIfInBounds_toArray, List.set_cons_zero, List.set_cons_succ]
            refine wpAnyH_ready (rs := [2]) (by kernel_rfl) (by simp) ?_
            refine AllReadyH.cons rfl (fun K hK => ?_) AllReadyH.nil
            go_simp
            go_wp2_with fail
            refine (F3 _).mono ?_
            rintro e w4 ⟨rfl, hw4⟩
            obtain rfl : w3 = w4 := hw4.symm
            clear hw4
            go_wp2_with fail
            refine hK.out _ _ hS (fun hS => ?_)
            clear hK K
            (try simp only [Act.put, List.setIfInBounds_toArray, List.set_cons_zero, List.set_cons_succ])
            refine take_at 3 (some 34) (v := ?_) rfl rfl (by kernel_rfl) (by kernel_rfl) (by kernel_rfl) (fun _ _ _ h => h) ⟨by rfl, ?_⟩ hS ?_
            rotate_left
            · intro wq hSw; go_simp; try rfl
            simp only [Act.put, List.setIfInBounds_toArray, List.set_cons_zero, List.set_cons_succ]
            refine take_at 4 (some 35) (v := ?_) rfl rfl (by kernel_rfl) (by kernel_rfl) (by kernel_rfl) (fun _ _ _ h => h) ⟨by rfl, ?_⟩ hS ?_
            rotate_left
            · intro wq hSw; go_simp; try rfl
            simp only [Act.put, List.setIfInBounds_toArray, List.set_cons_zero, List.set_cons_succ]
            refine take_at 5 (some 36) (v := ?_) rfl rfl (by kernel_rfl) (by kernel_rfl) (by kernel_rfl) (fun _ _ _ h => h) ⟨by rfl, ?_⟩ hS ?_
            rotate_left
            · intro wq hSw; obtain ⟨y0, y1, y2, y3⟩ := hSw; go_simp; try rfl
            simp only [Act.put, List.setIfInBounds_toArray, List.set_cons_zero, List.set_cons_succ]
            refine take_at 7 (some 38) (v := ?_) rfl rfl (by kernel_rfl) (by kernel_rfl) (by kernel_rfl) (fun _ _ _ h => h) ⟨by rfl, ?_⟩ hS ?_
            rotate_left
            · intro wq hSw; go_simp; try rfl
            simp only [Act.put, List.setIfInBounds_toArray, List.set_cons_zero, List.set_cons_succ]
            refine take_at 8 (some 39) (v := ?_) rfl rfl (by kernel_rfl) (by kernel_rfl) (by kernel_rfl) (fun _ _ _ h => h) ⟨by rfl, ?_⟩ hS ?_
            rotate_left
            · intro wq hSw; obtain ⟨y0, y1, y2, y3⟩ := hSw; go_simp; try rfl
            simp only [Act.put, List.setIfInBounds_toArray, List.set_cons_zero, List.set_cons_succ]
            refine take_at 9 (some 40) (v := ?_) rfl rfl (by kernel_rfl) (by kernel_rfl) (by kernel_rfl) (fun _ _ _ h => h) ⟨by rfl, ?_⟩ hS ?_
            rotate_left
            · intro wq hSw; go_simp; try rfl
            simp only [Act.put, List.setIfInBounds_toArray, List.set_cons_zero, List.set_cons_succ]
            refine wpAnyH_ready (rs := [6]) (by kernel_rfl) (by simp) ?_
            refine AllReadyH.cons rfl (fun K hK => ?_) AllReadyH.nil
            go_simp
            go_wp2_with fail
            refine (IE _).mono ?_
            rintro e w4 ⟨rfl, b4⟩
            have C4 := hide (C3.out.below b4)
            have B4 := hide (bnext B3.out b4 (Nat.le_refl _))
            clear b4
            go_wp2_with fail
            refine hK.out _ _ ⟨(C4.out.get 0 _ rfl).1, (C4.out.get 1 _ rfl).1, (C4.out.get 2 _ rfl).1, (C4.out.get 3 _ rfl).1⟩ (fun hS => ?_)
            clear hK K
            (try simp only [Act.put, List.setIfInBounds_toArray, List.set_cons_zero, List.set_cons_succ])
            refine take_at 10 (some 41) (v := ?_) rfl rfl (by kernel_rfl) (by kernel_rfl) (by kernel_rfl) (fun _ _ _ h => h) ⟨by rfl, ?_⟩ hS ?_
            rotate_left
            · intro wq hSw; go_simp; try rfl
            simp only [Act.put, List.setIfInBounds_toArray, List.set_cons_zero, List.set_cons_succ]
            refine take_at 11 (some 42) (v := ?_) rfl rfl (by kernel_rfl) (by kernel_rfl) (by kernel_rfl) (fun _ _ _ h => h) ⟨by rfl, ?_⟩ hS ?_
            rotate_left
            · intro wq hSw; go_simp; try rfl
            simp only [Act.put, List.setIfInBounds_toArray, List.set_cons_zero, List.set_cons_succ]
            refine take_at 12 (some 30) (v := ?_) rfl rfl (by kernel_rfl) (by kernel_rfl) (by kernel_rfl) (fun _ _ _ h => h) ⟨by rfl, ?_⟩ hS ?_
            rotate_left
            · intro wq hSw; go_simp; try rfl
            simp only [Act.put, List.setIfInBounds_toArray, List.set_cons_zero, List.set_cons_succ]
            refine wpAnyH_done (by kernel_rfl) ?_ _
            go_wp2_with fail
            go_ret
            exact ⟨by rw [HV.out]; rfl, B4.out⟩
      · by_cases hm4 : 84 < m
        · have HV : Hid (RES = 6) := by
            unfold Hid
            rw [HR.out]
            simp; omega
          have d1 : decide ((84 : Int) < (m : Int)) = true := by simp; omega
          have d2 : (84 : Int) < (m : Int) := by omega
          go_enter Tryd.func31, Tryd.ntmps31
          go_upto_region 1 with fail
          rw [← HW.out]
          obtain ⟨g0, f0⟩ := C2.out.get 0 _ rfl
          obtain ⟨g1, f1⟩ := C2.out.get 1 _ rfl
          obtain ⟨g2, f2⟩ := C2.out.get 2 _ rfl
          obtain ⟨g3, f3⟩ := C2.out.get 3 _ rfl
          go_wp2_with fail
          refine (F0 _).mono ?_
          rintro e w4 ⟨rfl, hw4⟩
          obtain rfl : w2 = w4 := hw4.symm
          clear hw4
          go_wp2_with fail
          go_ret
          exact ⟨by rw [HV.out]; rfl, B2.out⟩
        · have d1 : decide ((84 : Int) < (m : Int)) = false := by simp; omega
          have d2 : ¬ (84 : Int) < (m : Int) := by omega
          have d3 : (decide (m = 0)) = false := by simp; exact hm
          cases q3 with
          | false =>
            have HV : Hid (RES = 23) := by
              have hq := HQ3.out
              unfold Hid
              rw [HR.out]
              simp at hq ⊢; omega
            go_enter Tryd.func31, Tryd.ntmps31
            go_upto_region 1 with fail
            rw [← HW.out]
            obtain ⟨g0, f0⟩ := C2.out.get 0 _ rfl
            obtain ⟨g1, f1⟩ := C2.out.get 1 _ rfl
            obtain ⟨g2, f2⟩ := C2.out.get 2 _ rfl
            obtain ⟨g3, f3⟩ := C2.out.get 3 _ rfl
            go_wp2_with fail
            refine (F0 _).mono ?_
            rintro e w4 ⟨rfl, hw4⟩
            obtain rfl : w2 = w4 := hw4.symm
            clear hw4
            go_upto_region 7 with fail
            refine wp_region_held_drew (S := fun wq => wq.cell? ⟨w.heap.size, 0, none⟩ = some (.int .i64 num) ∧ wq.cell? ⟨w.heap.size, 1, none⟩ = some (.int .i64 lsn) ∧ wq.cell? ⟨w.heap.size, 2, none⟩ = some (.slice ta 0 tc) ∧ wq.cell? ⟨w.heap.size, 3, none⟩ = some (.slice tb m td)) (by kernel_rfl) ⟨g0, g1, g2, g3⟩ (fun hS => ?_)
            have C3 := hide C2.out.drew
            have B3 := hide (show Below w.heap.size w w2.drew from B2.out.drew)
            clear g0 g1 g2 g3 f0 f1 f2 f3
            generalize w2.drew = w3 at *
            refine take_at 0 (some 31) (v := ?_) rfl rfl (by kernel_rfl) (by kernel_rfl) (by kernel_rfl) (fun _ _ _ h => h) ⟨by rfl, ?_⟩ hS ?_
            rotate_left
            · intro wq hSw; go_simp; try rfl
            simp only [Act.put, List.setIfInBounds_toArray, List.set_cons_zero, List.set_cons_succ]
            refine take_at 1 (some 32) (v := ?_) rfl rfl (by kernel_rfl) (by kernel_rfl) (by kernel_rfl) (fun _ _ _ h => h) ⟨by rfl, ?_⟩ hS ?_
            rotate_left
            · intro wq hSw; obtain ⟨y0, y1, y2, y3⟩ := hSw; go_simp; try rfl
            simp only [Act.put, List.setIfInBounds_toArray, List.set_cons_zero, List.set_cons_succ]
            refine wpAnyH_ready (rs := [2]) (by kernel_rfl) (by simp) ?_
            refine AllReadyH.cons rfl (fun K hK => ?_) AllReadyH.nil
            go_simp
            go_wp2_with fail
            refine (F3 _).mono ?_
            rintro e w4 ⟨rfl, hw4⟩
            obtain rfl : w3 = w4 := hw4.symm
            clear hw4
            go_wp2_with fail
            refine hK.out _ _ hS (fun hS => ?_)
            clear hK K
            (try simp only [Act.put, List.setIfInBounds_toArray, List.set_cons_zero, List.set_cons_succ])
            refine take_at 3 (some 34) (v := ?_) rfl rfl (by kernel_rfl) (by kernel_rfl) (by kernel_rfl) (fun _ _ _ h => h) ⟨by rfl, ?_⟩ hS ?_
            rotate_left
            · intro wq hSw; go_simp; try rfl
            simp only [Act.put, List.setIfInBounds_toArray, List.set_cons_zero, List.set_cons_succ]
            refine take_at 4 (some 35) (v := ?_) rfl rfl (by kernel_rfl) (by kernel_rfl) (by kernel_rfl) (fun _ _ _ h => h) ⟨by rfl, ?_⟩ hS ?_
            rotate_left
            · intro wq hSw; go_simp; try rfl
            simp only [Act.put, List.setIfInBounds_toArray, List.set_cons_zero, List.set_cons_succ]
            refine pass_at 5 (some 36) rfl rfl (by kernel_rfl) (by kernel_rfl) (by kernel_rfl) (fun _ _ _ h => h) (by rfl) hS ?_
            simp only [Act.put, List.setIfInBounds_toArray, List.set_cons_zero, List.set_cons_succ]
            refine pass_at 6 (some 37) rfl rfl (by kernel_rfl) (by kernel_rfl) (by kernel_rfl) (fun _ _ _ h => h) (by rfl) hS ?_
            simp only [Act.put, List.setIfInBounds_toArray, List.set_cons_zero, List.set_cons_succ]
            refine pass_at 7 (some 38) rfl rfl (by kernel_rfl) (by kernel_rfl) (by kernel_rfl) (fun _ _ _ h => h) (by rfl) hS ?_
            simp only [Act.put, List.setIfInBounds_toArray, List.set_cons_zero, List.set_cons_succ]
            refine pass_at 8 (some 39) rfl rfl (by kernel_rfl) (by kernel_rfl) (by kernel_rfl) (fun _ _ _ h => h) (by rfl) hS ?_
            simp only [Act.put, List.setIfInBounds_toArray, List.set_cons_zero, List.set_cons_succ]
            refine pass_at 9 (some 40) rfl rfl (by kernel_rfl) (by kernel_rfl) (by kernel_rfl) (fun _ _ _ h => h) (by rfl) hS ?_
            simp only [Act.put, List.setIfInBounds_toArray, List.set_cons_zero, List.set_cons_succ]
            refine pass_at 10 (some 41) rfl rfl (by kernel_rfl) (by kernel_rfl) (by kernel_rfl) (fun _ _ _ h => h) (by rfl) hS ?_
            simp only [Act.put, List.setIfInBounds_toArray, List.set_cons_zero, List.set_cons_succ]
            refine take_at 11 (some 42) (v := ?_) rfl rfl (by kernel_rfl) (by kernel_rfl) (by kernel_rfl) (fun _ _ _ h => h) ⟨by rfl, ?_⟩ hS ?_
            rotate_left
            · intro wq hSw; go_simp; try rfl
            simp only [Act.put, List.setIfInBounds_toArray, List.set_cons_zero, List.set_cons_succ]
            refine take_at 12 (some 30) (v := ?_) rfl rfl (by kernel_rfl) (by kernel_rfl) (by kernel_rfl) (fun _ _ _ h => h) ⟨by rfl, ?_⟩ hS ?_
            rotate_left
            · intro wq hSw; go_simp; try rfl
            simp only [Act.put, List.setIfInBounds_toArray, List.set_cons_zero, List.set_cons_succ]
            refine wpAnyH_done (by kernel_rfl) ?_ _
            go_wp2_with fail
            go_ret
            exact ⟨by rw [HV.out]; rfl, B3.out⟩
          | true =>
            by_cases hz : lsn = 0
            · subst hz
              have HV : Hid (RES = 23) := by
                have hq := HQ3.out
                unfold Hid
                rw [HR.out]
                simp at hq ⊢ <;> omega
              go_enter Tryd.func31, Tryd.ntmps31
              go_upto_region 1 with fail
              rw [← HW.out]
              obtain ⟨g0, f0⟩ := C2.out.get 0 _ rfl
              obtain ⟨g1, f1⟩ := C2.out.get 1 _ rfl
              obtain ⟨g2, f2⟩ := C2.out.get 2 _ rfl
              obtain ⟨g3, f3⟩ := C2.out.get 3 _ rfl
              go_wp2_with fail
              refine (F0 _).mono ?_
              rintro e w4 ⟨rfl, hw4⟩
              obtain rfl : w2 = w4 := hw4.symm
              clear hw4
              go_upto_region 7 with fail
              refine wp_region_held_drew (S := fun wq => wq.cell? ⟨w.heap.size, 0, none⟩ = some (.int .i64 num) ∧ wq.cell? ⟨w.heap.size, 1, none⟩ = some (.int .i64 0) ∧ wq.cell? ⟨w.heap.size, 2, none⟩ = some (.slice ta 0 tc) ∧ wq.cell? ⟨w.heap.size, 3, none⟩ = some (.slice tb m td)) (by kernel_rfl) ⟨g0, g1, g2, g3⟩ (fun hS => ?_)
              have C3 := hide C2.out.drew
              have B3 := hide (show Below w.heap.size w w2.drew from B2.out.drew)
              clear g0 g1 g2 g3 f0 f1 f2 f3
              generalize w2.drew = w3 at *
              refine take_at 0 (some 31) (v := ?_) rfl rfl (by kernel_rfl) (by kernel_rfl) (by kernel_rfl) (fun _ _ _ h => h) ⟨by rfl, ?_⟩ hS ?_
              rotate_left
              · intro wq hSw; go_simp; try rfl
              simp only [Act.put, List.setIfInBounds_toArray, List.set_cons_zero, List.set_cons_succ]
              refine take_at 1 (some 32) (v := ?_) rfl rfl (by kernel_rfl) (by kernel_rfl) (by kernel_rfl) (fun _ _ _ h => h) ⟨by rfl, ?_⟩ hS ?_
              rotate_left
              · intro wq hSw; obtain ⟨y0, y1, y2, y3⟩ := hSw; go_simp; try rfl
              simp only [Act.put, List.setIfInBounds_toArray, List.set_cons_zero, List.set_cons_succ]
              refine wpAnyH_ready (rs := [2]) (by kernel_rfl) (by simp) ?_
              refine AllReadyH.cons rfl (fun K hK => ?_) AllReadyH.nil
              go_simp
              go_wp2_with fail
              refine (F3 _).mono ?_
              rintro e w4 ⟨rfl, hw4⟩
              obtain rfl : w3 = w4 := hw4.symm
              clear hw4
              go_wp2_with fail
              refine hK.out _ _ hS (fun hS => ?_)
              clear hK K
              (try simp only [Act.put, List.setIfInBounds_toArray, List.set_cons_zero, List.set_cons_succ])
              refine take_at 3 (some 34) (v := ?_) rfl rfl (by kernel_rfl) (by kernel_rfl) (by kernel_rfl) (fun _ _ _ h => h) ⟨by rfl, ?_⟩ hS ?_
              rotate_left
              · intro wq hSw; go_simp; try rfl
              simp only [Act.put, List.setIfInBounds_toArray, List.set_cons_zero, List.set_cons_succ]
              refine take_at 4 (some 35) (v := ?_) rfl rfl (by kernel_rfl) (by kernel_rfl) (by kernel_rfl) (fun _ _ _ h => h) ⟨by rfl, ?_⟩ hS ?_
              rotate_left
              · intro wq hSw; go_simp; try rfl
              simp only [Act.put, List.setIfInBounds_toArray, List.set_cons_zero, List.set_cons_succ]
              refine take_at 5 (some 36) (v := ?_) rfl rfl (by kernel_rfl) (by kernel_rfl) (by kernel_rfl) (fun _ _ _ h => h) ⟨by rfl, ?_⟩ hS ?_
              rotate_left
              · intro wq hSw; obtain ⟨y0, y1, y2, y3⟩ := hSw; go_simp; try rfl
              simp only [Act.put, List.setIfInBounds_toArray, List.set_cons_zero, List.set_cons_succ]
              refine take_at 7 (some 38) (v := ?_) rfl rfl (by kernel_rfl) (by kernel_rfl) (by kernel_rfl) (fun _ _ _ h => h) ⟨by rfl, ?_⟩ hS ?_
              rotate_left
              · intro wq hSw; go_simp; try rfl
              simp only [Act.put, List.setIfInBounds_toArray, List.set_cons_zero, List.set_cons_succ]
              refine take_at 8 (some 39) (v := ?_) rfl rfl (by kernel_rfl) (by kernel_rfl) (by kernel_rfl) (fun _ _ _ h => h) ⟨by rfl, ?_⟩ hS ?_
              rotate_left
              · intro wq hSw; obtain ⟨y0, y1, y2, y3⟩ := hSw; go_simp; try rfl
              simp only [Act.put, List.setIfInBounds_toArray, List.set_cons_zero, List.set_cons_succ]
              refine take_at 9 (some 40) (v := ?_) rfl rfl (by kernel_rfl) (by kernel_rfl) (by kernel_rfl) (fun _ _ _ h => h) ⟨by rfl, ?_⟩ hS ?_
              rotate_left
              · intro wq hSw; go_simp; try rfl
              simp only [Act.put, List.setIfInBounds_toArray, List.set_cons_zero, List.set_cons_succ]
              refine wpAnyH_ready (rs := [6]) (by kernel_rfl) (by simp) ?_
              refine AllReadyH.cons rfl (fun K hK => ?_) AllReadyH.nil
              go_simp
              go_wp2_with fail
              refine (IE _).mono ?_
              rintro e w4 ⟨rfl, b4⟩
              have C4 := hide (C3.out.below b4)
              have B4 := hide (bnext B3.out b4 (Nat.le_refl _))
              clear b4
              go_wp2_with fail
              refine hK.out _ _ ⟨(C4.out.get 0 _ rfl).1, (C4.out.get 1 _ rfl).1, (C4.out.get 2 _ rfl).1, (C4.out.get 3 _ rfl).1⟩ (fun hS => ?_)
              clear hK K
              (try simp only [Act.put, List.setIfInBounds_toArray, List.set_cons_zero, List.set_cons_succ])
              refine take_at 10 (some 41) (v := ?_) rfl rfl (by kernel_rfl) (by kernel_rfl) (by kernel_rfl) (fun _ _ _ h => h) ⟨by rfl, ?_⟩ hS ?_
              rotate_left
              · intro wq hSw; go_simp; try rfl
              simp only [Act.put, List.setIfInBounds_toArray, List.set_cons_zero, List.set_cons_succ]
              refine take_at 11 (some 42) (v := ?_) rfl rfl (by kernel_rfl) (by kernel_rfl) (by kernel_rfl) (fun _ _ _ h => h) ⟨by rfl, ?_⟩ hS ?_
              rotate_left
              · intro wq hSw; go_simp; try rfl
              simp only [Act.put, List.setIfInBounds_toArray, List.set_cons_zero, List.set_cons_succ]
              refine take_at 12 (some 30) (v := ?_) rfl rfl (by kernel_rfl) (by kernel_rfl) (by kernel_rfl) (fun _ _ _ h => h) ⟨by rfl, ?_⟩ hS ?_
              rotate_left
              · intro wq hSw; go_simp; try rfl
              simp only [Act.put, List.setIfInBounds_toArray, List.set_cons_zero, List.set_cons_succ]
              refine wpAnyH_done (by kernel_rfl) ?_ _
              go_wp2_with fail
              go_ret
              exact ⟨by rw [HV.out]; rfl, B4.out⟩
            · have hz1 : (lsn == 0) = false := by simp; exact hz
              have hz2 : decide (lsn = 0) = false := by simp; exact hz
              have HV : Hid (RES = SE) := by
                have hq := HQ3.out
                unfold Hid
                rw [HR.out]
                simp [hz] at hq ⊢; try omega
              go_enter Tryd.func31, Tryd.ntmps31
              go_upto_region 1 with fail
              rw [← HW.out]
              obtain ⟨g0, f0⟩ := C2.out.get 0 _ rfl
              obtain ⟨g1, f1⟩ := C2.out.get 1 _ rfl
              obtain ⟨g2, f2⟩ := C2.out.get 2 _ rfl
              obtain ⟨g3, f3⟩ := C2.out.get 3 _ rfl
              go_wp2_with fail
              refine (F0 _).mono ?_
              rintro e w4 ⟨rfl, hw4⟩
              obtain rfl : w2 = w4 := hw4.symm
              clear hw4
              go_upto_region 7 with fail
              refine wp_region_held_drew (S := fun wq => wq.cell? ⟨w.heap.size, 0, none⟩ = some (.int .i64 num) ∧ wq.cell? ⟨w.heap.size, 1, none⟩ = some (.int .i64 lsn) ∧ wq.cell? ⟨w.heap.size, 2, none⟩ = some (.slice ta 0 tc) ∧ wq.cell? ⟨w.heap.size, 3, none⟩ = some (.slice tb m td)) (by kernel_rfl) ⟨g0, g1, g2, g3⟩ (fun hS => ?_)
              have C3 := hide C2.out.drew
              have B3 := hide (show Below w.heap.size w w2.drew from B2.out.drew)
              clear g0 g1 g2 g3 f0 f1 f2 f3
              generalize w2.drew = w3 at *
              refine take_at 0 (some 31) (v := ?_) rfl rfl (by kernel_rfl) (by kernel_rfl) (by kernel_rfl) (fun _ _ _ h => h) ⟨by rfl, ?_⟩ hS ?_
              rotate_left
              · intro wq hSw; go_simp; try rfl
              simp only [Act.put, List.setIfInBounds_toArray, List.set_cons_zero, List.set_cons_succ]
              refine take_at 1 (some 32) (v := ?_) rfl rfl (by kernel_rfl) (by kernel_rfl) (by kernel_rfl) (fun _ _ _ h => h) ⟨by rfl, ?_⟩ hS ?_
              rotate_left
              · intro wq hSw; obtain ⟨y0, y1, y2, y3⟩ := hSw; go_simp; try rfl
              simp only [Act.put, List.setIfInBounds_toArray, List.set_cons_zero, List.set_cons_succ]
              refine wpAnyH_ready (rs := [2]) (by kernel_rfl) (by simp) ?_
              refine AllReadyH.cons rfl (fun K hK => ?_) AllReadyH.nil
              go_simp
              go_wp2_with fail
              refine (F3 _).mono ?_
              rintro e w4 ⟨rfl, hw4⟩
              obtain rfl : w3 = w4 := hw4.symm
              clear hw4
              go_wp2_with fail
              refine hK.out _ _ hS (fun hS => ?_)
              clear hK K
              (try simp only [Act.put, List.setIfInBounds_toArray, List.set_cons_zero, List.set_cons_succ])
              refine take_at 3 (some 34) (v := ?_) rfl rfl (by kernel_rfl) (by kernel_rfl) (by kernel_rfl) (fun _ _ _ h => h) ⟨by rfl, ?_⟩ hS ?_
              rotate_left
              · intro wq hSw; go_simp; try rfl
              simp only [Act.put, List.setIfInBounds_toArray, List.set_cons_zero, List.set_cons_succ]
              refine take_at 4 (some 35) (v := ?_) rfl rfl (by kernel_rfl) (by kernel_rfl) (by kernel_rfl) (fun _ _ _ h => h) ⟨by rfl, ?_⟩ hS ?_
              rotate_left
              · intro wq hSw; go_simp; try rfl
              simp only [Act.put, List.setIfInBounds_toArray, List.set_cons_zero, List.set_cons_succ]
              refine take_at 5 (some 36) (v := ?_) rfl rfl (by kernel_rfl) (by kernel_rfl) (by kernel_rfl) (fun _ _ _ h => h) ⟨by rfl, ?_⟩ hS ?_
              rotate_left
              · intro wq hSw; obtain ⟨y0, y1, y2, y3⟩ := hSw; go_simp; try rfl
              simp only [Act.put, List.setIfInBounds_toArray, List.set_cons_zero, List.set_cons_succ]
              refine take_at 7 (some 38) (v := ?_) rfl rfl (by kernel_rfl) (by kernel_rfl) (by kernel_rfl) (fun _ _ _ h => h) ⟨by rfl, ?_⟩ hS ?_
              rotate_left
              · intro wq hSw; go_simp; try rfl
              simp only [Act.put, List.setIfInBounds_toArray, List.set_cons_zero, List.set_cons_succ]
              refine take_at 8 (some 39) (v := ?_) rfl rfl (by kernel_rfl) (by kernel_rfl) (by kernel_rfl) (fun _ _ _ h => h) ⟨by rfl, ?_⟩ hS ?_
              rotate_left
              · intro wq hSw; obtain ⟨y0, y1, y2, y3⟩ := hSw; go_simp; try rfl
              simp only [Act.put, List.setIfInBounds_toArray, List.set_cons_zero, List.set_cons_succ]
              refine take_at 9 (some 40) (v := ?_) rfl rfl (by kernel_rfl) (by kernel_rfl) (by kernel_rfl) (fun _ _ _ h => h) ⟨by rfl, ?_⟩ hS ?_
              rotate_left
              · intro wq hSw; go_simp; try rfl
              simp only [Act.put, List.setIfInBounds_toArray, List.set_cons_zero, List.set_cons_succ]
              refine wpAnyH_ready (rs := [6]) (by kernel_rfl) (by simp) ?_
              refine AllReadyH.cons rfl (fun K hK => ?_) AllReadyH.nil
              go_simp
              go_wp2_with fail
              refine (IE _).mono ?_
              rintro e w4 ⟨rfl, b4⟩
              have C4 := hide (C3.out.below b4)
              have B4 := hide (bnext B3.out b4 (Nat.le_refl _))
              clear b4
              go_wp2_with fail
              refine hK.out _ _ ⟨(C4.out.get 0 _ rfl).1, (C4.out.get 1 _ rfl).1, (C4.out.get 2 _ rfl).1, (C4.out.get 3 _ rfl).1⟩ (fun hS => ?_)
              clear hK K
              (try simp only [Act.put, List.setIfInBounds_toArray, List.set_cons_zero, List.set_cons_succ])
              refine take_at 10 (some 41) (v := ?_) rfl rfl (by kernel_rfl) (by kernel_rfl) (by kernel_rfl) (fun _ _ _ h => h) ⟨by rfl, ?_⟩ hS ?_
              rotate_left
              · intro wq hSw; go_simp; try rfl
              simp only [Act.put, List.setIfInBounds_toArray, List.set_cons_zero, List.set_cons_succ]
              refine take_at 11 (some 42) (v := ?_) rfl rfl (by kernel_rfl) (by kernel_rfl) (by kernel_rfl) (fun _ _ _ h => h) ⟨by rfl, ?_⟩ hS ?_
              rotate_left
              · intro wq hSw; go_simp; try rfl
              simp only [Act.put, List.setIfInBounds_toArray, List.set_cons_zero, List.set_cons_succ]
              refine take_at 12 (some 30) (v := ?_) rfl rfl (by kernel_rfl) (by kernel_rfl) (by kernel_rfl) (fun _ _ _ h => h) ⟨by rfl, ?_⟩ hS ?_
              rotate_left
              · intro wq hSw; go_simp; try rfl
              simp only [Act.put, List.setIfInBounds_toArray, List.set_cons_zero, List.set_cons_succ]
              refine wpAnyH_done (by kernel_rfl) ?_ _
              obtain ⟨g0, f0⟩ := C4.out.get 0 _ rfl
              obtain ⟨g1, f1⟩ := C4.out.get 1 _ rfl
              obtain ⟨g2, f2⟩ := C4.out.get 2 _ rfl
              obtain ⟨g3, f3⟩ := C4.out.get 3 _ rfl
              go_wp2_with fail
              refine (CS w4 B4.out (by omega) (by omega)).mono ?_
              rintro e w5 ⟨rfl, b5⟩
              have B5 := hide (bnext B4.out b5 (Nat.le_refl _))
              clear b5
              go_wp2_with fail
              go_ret
              exact ⟨by rw [HV.out]; rfl, B5.out⟩
    · by_cases hm : m = 0
      · subst hm
        by_cases hn3 : 31 < n
        · have HV : Hid (RES = 6) := by
            unfold Hid
            rw [HR.out]
            simp; omega
          have d1 : decide ((31 : Int) < (n : Int)) = true := by simp; omega
          have d2 : (31 : Int) < (n : Int) := by omega
          have d4 : decide ((0 : Int) < (n : Int)) = true := by simp; omega
          have d5 : (0 : Int) < (n : Int) := by omega
          go_enter Tryd.func31, Tryd.ntmps31
          go_upto_region 1 with fail
          rw [← HW.out]
          obtain ⟨g0, f0⟩ := C2.out.get 0 _ rfl
          obtain ⟨g1, f1⟩ := C2.out.get 1 _ rfl
          obtain ⟨g2, f2⟩ := C2.out.get 2 _ rfl
          obtain ⟨g3, f3⟩ := C2.out.get 3 _ rfl
          go_wp2_with fail
          refine (F0 _).mono ?_
          rintro e w4 ⟨rfl, hw4⟩
          obtain rfl : w2 = w4 := hw4.symm
          clear hw4
          go_wp2_with fail
          go_ret
          exact ⟨by rw [HV.out]; rfl, B2.out⟩
        · have d1 : decide ((31 : Int) < (n : Int)) = false := by simp; omega
          have d2 : ¬ (31 : Int) < (n : Int) := by omega
          have d3 : (decide (n = 0)) = false := by simp; exact hn
          have d4 : decide ((0 : Int) < (n : Int)) = true := by simp; omega
          have d5 : (0 : Int) < (n : Int) := by omega
          cases q3 with
          | false =>
            have HV : Hid (RES = 23) := by
              have hq := HQ3.out
              unfold Hid
              rw [HR.out]
              simp at hq ⊢; omega
            go_enter Tryd.func31, Tryd.ntmps31
            go_upto_region 1 with fail
            rw [← HW.out]
            obtain ⟨g0, f0⟩ := C2.out.get 0 _ rfl
            obtain ⟨g1, f1⟩ := C2.out.get 1 _ rfl
            obtain ⟨g2, f2⟩ := C2.out.get 2 _ rfl
            obtain ⟨g3, f3⟩ := C2.out.get 3 _ rfl
            go_wp2_with fail
            refine (F0 _).mono ?_
            rintro e w4 ⟨rfl, hw4⟩
            obtain rfl : w2 = w4 := hw4.symm
            clear hw4
            go_upto_region 7 with fail
            refine wp_region_held_drew (S := fun wq => wq.cell? ⟨w.heap.size, 0, none⟩ = some (.int .i64 num) ∧ wq.cell? ⟨w.heap.size, 1, none⟩ = some (.int .i64 lsn) ∧ wq.cell? ⟨w.heap.size, 2, none⟩ = some (.slice ta n tc) ∧ wq.cell? ⟨w.heap.size, 3, none⟩ = some (.slice tb 0 td)) (by kernel_rfl) ⟨g0, g1, g2, g3⟩ (fun hS => ?_)
            have C3 := hide C2.out.drew
            have B3 := hide (show Below w.heap.size w w2.drew from B2.out.drew)
            clear g0 g1 g2 g3 f0 f1 f2 f3
            generalize w2.drew = w3 at *
            refine take_at 0 (some 31) (v := ?_) rfl rfl (by kernel_rfl) (by kernel_rfl) (by kernel_rfl) (fun _ _ _ h => h) ⟨by rfl, ?_⟩ hS ?_
            rotate_left
            · intro wq hSw; go_simp; try rfl
            simp only [Act.put, List.setIfInBounds_toArray, List.set_cons_zero, List.set_cons_succ]
            refine take_at 1 (some 32) (v := ?_) rfl rfl (by kernel_rfl) (by kernel_rfl) (by kernel_rfl) (fun _ _ _ h => h) ⟨by rfl, ?_⟩ hS ?_
            rotate_left
            · intro wq hSw; obtain ⟨y0, y1, y2, y3⟩ := hSw; go_simp; try rfl
            simp only [Act.put, List.setIfInBounds_toArray, List.set_cons_zero, List.set_cons_succ]
            refine wpAnyH_ready (rs := [2]) (by kernel_rfl) (by simp) ?_
            refine AllReadyH.cons rfl (fun K hK => ?_) AllReadyH.nil
            go_simp
            go_wp2_with fail
            refine (F3 _).mono ?_
            rintro e w4 ⟨rfl, hw4⟩
            obtain rfl : w3 = w4 := hw4.symm
            clear hw4
            go_wp2_with fail
            refine hK.out _ _ hS (fun hS => ?_)
            clear hK K
            (try simp only [Act.put, List.setIfInBounds_toArray, List.set_cons_zero, List.set_cons_succ])
            refine take_at 3 (some 34) (v := ?_) rfl rfl (by kernel_rfl) (by kernel_rfl) (by kernel_rfl) (fun _ _ _ h => h) ⟨by rfl, ?_⟩ hS ?_
            rotate_left
            · intro wq hSw; go_simp; try rfl
            simp only [Act.put, List.setIfInBounds_toArray, List.set_cons_zero, List.set_cons_succ]
            refine take_at 4 (some 35) (v := ?_) rfl rfl (by kernel_rfl) (by kernel_rfl) (by kernel_rfl) (fun _ _ _ h => h) ⟨by rfl, ?_⟩ hS ?_
            rotate_left
            · intro wq hSw; go_simp; try rfl
            simp only [Act.put, List.setIfInBounds_toArray, List.set_cons_zero, List.set_cons_succ]
            refine pass_at 5 (some 36) rfl rfl (by kernel_rfl) (by kernel_rfl) (by kernel_rfl) (fun _ _ _ h => h) (by rfl) hS ?_
            simp only [Act.put, List.setIfInBounds_toArray, List.set_cons_zero, List.set_cons_succ]
            refine pass_at 6 (some 37) rfl rfl (by kernel_rfl) (by kernel_rfl) (by kernel_rfl) (fun _ _ _ h => h) (by rfl) hS ?_
            simp only [Act.put, List.setIfInBounds_toArray, List.set_cons_zero, List.set_cons_succ]
            refine pass_at 7 (some 38) rfl rfl (by kernel_rfl) (by kernel_rfl) (by kernel_rfl) (fun _ _ _ h => h) (by rfl) hS ?_
            simp only [Act.put, List.setIfInBounds_toArray, List.set_cons_zero, List.set_cons_succ]
            refine pass_at 8 (some 39) rfl rfl (by kernel_rfl) (by kernel_rfl) (by kernel_rfl) (fun _ _ _ h => h) (by rfl) hS ?_
            simp only [Act.put, List.setIfInBounds_toArray, List.set_cons_zero, List.set_cons_succ]
            refine pass_at 9 (some 40) rfl rfl (by kernel_rfl) (by kernel_rfl) (by kernel_rfl) (fun _ _ _ h => h) (by rfl) hS ?_
            simp only [Act.put, List.setIfInBounds_toArray, List.set_cons_zero, List.set_cons_succ]
            refine pass_at 10 (some 41) rfl rfl (by kernel_rfl) (by kernel_rfl) (by kernel_rfl) (fun _ _ _ h => h) (by rfl) hS ?_
            simp only [Act.put, List.setIfInBounds_toArray, List.set_cons_zero, List.set_cons_succ]
            refine take_at 11 (some 42) (v := ?_) rfl rfl (by kernel_rfl) (by kernel_rfl) (by kernel_rfl) (fun _ _ _ h => h) ⟨by rfl, ?_⟩ hS ?_
            rotate_left
            · intro wq hSw; go_simp; try rfl
            simp only [Act.put, List.setIfInBounds_toArray, List.set_cons_zero, List.set_cons_succ]
            refine take_at 12 (some 30) (v := ?_) rfl rfl (by kernel_rfl) (by kernel_rfl) (by kernel_rfl) (fun _ _ _ h => h) ⟨by rfl, ?_⟩ hS ?_
            rotate_left
            · intro wq hSw; go_simp; try rfl
            simp only [Act.put, List.setIfInBounds_toArray, List.set_cons_zero, List.set_cons_succ]
            refine wpAnyH_done (by kernel_rfl) ?_ _
            go_wp2_with fail
            go_ret
            exact ⟨by rw [HV.out]; rfl, B3.out⟩
          | true =>
            by_cases hz : lsn = 0
            · subst hz
              have HV : Hid (RES = 23) := by
                have hq := HQ3.out
                unfold Hid
                rw [HR.out]
                simp at hq ⊢ <;> omega
              go_enter Tryd.func31, Tryd.ntmps31
              go_upto_region 1 with fail
              rw [← HW.out]
              obtain ⟨g0, f0⟩ := C2.out.get 0 _ rfl
              obtain ⟨g1, f1⟩ := C2.out.get 1 _ rfl
              obtain ⟨g2, f2⟩ := C2.out.get 2 _ rfl
              obtain ⟨g3, f3⟩ := C2.out.get 3 _ rfl
              go_wp2_with fail
              refine (F0 _).mono ?_
              rintro e w4 ⟨rfl, hw4⟩
              obtain rfl : w2 = w4 := hw4.symm
              clear hw4
              go_upto_region 7 with fail
              refine wp_region_held_drew (S := fun wq => wq.cell? ⟨w.heap.size, 0, none⟩ = some (.int .i64 num) ∧ wq.cell? ⟨w.heap.size, 1, none⟩ = some (.int .i64 0) ∧ wq.cell? ⟨w.heap.size, 2, none⟩ = some (.slice ta n tc) ∧ wq.cell? ⟨w.heap.size, 3, none⟩ = some (.slice tb 0 td)) (by kernel_rfl) ⟨g0, g1, g2, g3⟩ (fun hS => ?_)
              have C3 := hide C2.out.drew
              have B3 := hide (show Below w.heap.size w w2.drew from B2.out.drew)
              clear g0 g1 g2 g3 f0 f1 f2 f3
              generalize w2.drew = w3 at *
              refine take_at 0 (some 31) (v := ?_) rfl rfl (by kernel_rfl) (by kernel_rfl) (by kernel_rfl) (fun _ _ _ h => h) ⟨by rfl, ?_⟩ hS ?_
              rotate_left
              · intro wq hSw; go_simp; try rfl
              simp only [Act.put, List.setIfInBounds_toArray, List.set_cons_zero, List.set_cons_succ]
              refine take_at 1 (some 32) (v := ?_) rfl rfl (by kernel_rfl) (by kernel_rfl) (by kernel_rfl) (fun _ _ _ h => h) ⟨by rfl, ?_⟩ hS ?_
              rotate_left
              · intro wq hSw; obtain ⟨y0, y1, y2, y3⟩ := hSw; go_simp; try rfl
              simp only [Act.put, List.setIfInBounds_toArray, List.set_cons_zero, List.set_cons_succ]
              refine wpAnyH_ready (rs := [2]) (by kernel_rfl) (by simp) ?_
              refine AllReadyH.cons rfl (fun K hK => ?_) AllReadyH.nil
              go_simp
              go_wp2_with fail
              refine (F3 _).mono ?_
              rintro e w4 ⟨rfl, hw4⟩
              obtain rfl : w3 = w4 := hw4.symm
              clear hw4
              go_wp2_with fail
              refine hK.out _ _ hS (fun hS => ?_)
              clear hK K
              (try simp only [Act.put, List.setIfInBounds_toArray, List.set_cons_zero, List.set_cons_succ])
              refine take_at 3 (some 34) (v := ?_) rfl rfl (by kernel_rfl) (by kernel_rfl) (by kernel_rfl) (fun _ _ _ h => h) ⟨by rfl, ?_⟩ hS ?_
              rotate_left
              · intro wq hSw; go_simp; try rfl
              simp only [Act.put, List.setIfInBounds_toArray, List.set_cons_zero, List.set_cons_succ]
              refine take_at 4 (some 35) (v := ?_) rfl rfl (by kernel_rfl) (by kernel_rfl) (by kernel_rfl) (fun _ _ _ h => h) ⟨by rfl, ?_⟩ hS ?_
              rotate_left
              · intro wq hSw; go_simp; try rfl
              simp only [Act.put, List.setIfInBounds_toArray, List.set_cons_zero, List.set_cons_succ]
              refine take_at 5 (some 36) (v := ?_) rfl rfl (by kernel_rfl) (by kernel_rfl) (by kernel_rfl) (fun _ _ _ h => h) ⟨by rfl, ?_⟩ hS ?_
              rotate_left
              · intro wq hSw; obtain ⟨y0, y1, y2, y3⟩ := hSw; go_simp; try rfl
              simp only [Act.put, List.setIfInBounds_toArray, List.set_cons_zero, List.set_cons_succ]
              refine take_at 7 (some 38) (v := ?_) rfl rfl (by kernel_rfl) (by kernel_rfl) (by kernel_rfl) (fun _ _ _ h => h) ⟨by rfl, ?_⟩ hS ?_
              rotate_left
              · intro wq hSw; go_simp; try rfl
              simp only [Act.put, List.setIfInBounds_toArray, List.set_cons_zero, List.set_cons_succ]
              refine take_at 8 (some 39) (v := ?_) rfl rfl (by kernel_rfl) (by kernel_rfl) (by kernel_rfl) (fun _ _ _ h => h) ⟨by rfl, ?_⟩ hS ?_
              rotate_left
              · intro wq hSw; obtain ⟨y0, y1, y2, y3⟩ := hSw; go_simp; try rfl
              simp only [Act.put, List.setIfInBounds_toArray, List.set_cons_zero, List.set_cons_succ]
              refine take_at 9 (some 40) (v := ?_) rfl rfl (by kernel_rfl) (by kernel_rfl) (by kernel_rfl) (fun _ _ _ h => h) ⟨by rfl, ?_⟩ hS ?_
              rotate_left
              · intro wq hSw; go_simp; try rfl
              simp only [Act.put, List.setIfInBounds_toArray, List.set_cons_zero, List.set_cons_succ]
              refine wpAnyH_ready (rs := [6]) (by kernel_rfl) (by simp) ?_
              refine AllReadyH.cons rfl (fun K hK => ?_) AllReadyH.nil
              go_simp
              go_wp2_with fail
              refine (IE _).mono ?_
              rintro e w4 ⟨rfl, b4⟩
              have C4 := hide (C3.out.below b4)
              have B4 := hide (bnext B3.out b4 (Nat.le_refl _))
              clear b4
              go_wp2_with fail
              refine hK.out _ _ ⟨(C4.out.get 0 _ rfl).1, (C4.out.get 1 _ rfl).1, (C4.out.get 2 _ rfl).1, (C4.out.get 3 _ rfl).1⟩ (fun hS => ?_)
              clear hK K
              (try simp only [Act.put, List.setIfInBounds_toArray, List.set_cons_zero, List.set_cons_succ])
              refine take_at 10 (some 41) (v := ?_) rfl rfl (by kernel_rfl) (by kernel_rfl) (by kernel_rfl) (fun _ _ _ h => h) ⟨by rfl, ?_⟩ hS ?_
              rotate_left
              · intro wq hSw; go_simp; try rfl
              simp only [Act.put, List.setIfInBounds_toArray, List.set_cons_zero, List.set_cons_succ]
              refine take_at 11 (some 42) (v := ?_) rfl rfl (by kernel_rfl) (by kernel_rfl) (by kernel_rfl) (fun _ _ _ h => h) ⟨by rfl, ?_⟩ hS ?_
              rotate_left
              · intro wq hSw; go_simp; try rfl
              simp only [Act.put, List.setIfInBounds_toArray, List.set_cons_zero, List.set_cons_succ]
              refine take_at 12 (some 30) (v := ?_) rfl rfl (by kernel_rfl) (by kernel_rfl) (by kernel_rfl) (fun _ _ _ h => h) ⟨by rfl, ?_⟩ hS ?_
              rotate_left
              · intro wq hSw; go_simp; try rfl
              simp only [Act.put, List.setIfInBounds_toArray, List.set_cons_zero, List.set_cons_succ]
              refine wpAnyH_done (by kernel_rfl) ?_ _
              go_wp2_with fail
              go_ret
              exact ⟨by rw [HV.out]; rfl, B4.out⟩
            · have hz1 : (lsn == 0) = false := by simp; exact hz
              have hz2 : decide (lsn = 0) = false := by simp; exact hz
              have HV : Hid (RES = SE) := by
                have hq := HQ3.out
                unfold Hid
                rw [HR.out]
                simp [hz] at hq ⊢; try omega
              go_enter Tryd.func31, Tryd.ntmps31
              go_upto_region 1 with fail
              rw [← HW.out]
              obtain ⟨g0, f0⟩ := C2.out.get 0 _ rfl
              obtain ⟨g1, f1⟩ := C2.out.get 1 _ rfl
              obtain ⟨g2, f2⟩ := C2.out.get 2 _ rfl
              obtain ⟨g3, f3⟩ := C2.out.get 3 _ rfl
              go_wp2_with fail
              refine (F0 _).mono ?_
              rintro e w4 ⟨rfl, hw4⟩
              obtain rfl : w2 = w4 := hw4.symm
              clear hw4
              go_upto_region 7 with fail
              refine wp_region_held_drew (S := fun wq => wq.cell? ⟨w.heap.size, 0, none⟩ = some (.int .i64 num) ∧ wq.cell? ⟨w.heap.size, 1, none⟩ = some (.int .i64 lsn) ∧ wq.cell? ⟨w.heap.size, 2, none⟩ = some (.slice ta n tc) ∧ wq.cell? ⟨w.heap.size, 3, none⟩ = some (.slice tb 0 td)) (by kernel_rfl) ⟨g0, g1, g2, g3⟩ (fun hS => ?_)
              have C3 := hide C2.out.drew
              have B3 := hide (show Below w.heap.size w w2.drew from B2.out.drew)
              clear g0 g1 g2 g3 f0 f1 f2 f3
              generalize w2.drew = w3 at *
              refine take_at 0 (some 31) (v := ?_) rfl rfl (by kernel_rfl) (by kernel_rfl) (by kernel_rfl) (fun _ _ _ h => h) ⟨by rfl, ?_⟩ hS ?_
              rotate_left
              · intro wq hSw; go_simp; try rfl
              simp only [Act.put, List.setIfInBounds_toArray, List.set_cons_zero, List.set_cons_succ]
              refine take_at 1 (some 32) (v := ?_) rfl rfl (by kernel_rfl) (by kernel_rfl) (by kernel_rfl) (fun _ _ _ h => h) ⟨by rfl, ?_⟩ hS ?_
              rotate_left
              · intro wq hSw; obtain ⟨y0, y1, y2, y3⟩ := hSw; go_simp; try rfl
              simp only [Act.put, List.setIfInBounds_toArray, List.set_cons_zero, List.set_cons_succ]
              refine wpAnyH_ready (rs := [2]) (by kernel_rfl) (by simp) ?_
              refine AllReadyH.cons rfl (fun K hK => ?_) AllReadyH.nil
              go_simp
              go_wp2_with fail
              refine (F3 _).mono ?_
              rintro e w4 ⟨rfl, hw4⟩
              obtain rfl : w3 = w4 := hw4.symm
              clear hw4
              go_wp2_with fail
              refine hK.out _ _ hS (fun hS => ?_)
              clear hK K
              (try simp only [Act.put, List.setIfInBounds_toArray, List.set_cons_zero, List.set_cons_succ])
              refine take_at 3 (some 34) (v := ?_) rfl rfl (by kernel_rfl) (by kernel_rfl) (by kernel_rfl) (fun _ _ _ h => h) ⟨by rfl, ?_⟩ hS ?_
              rotate_left
              · intro wq hSw; go_simp; try rfl
              simp only [Act.put, List.setIfInBounds_toArray, List.set_cons_zero, List.set_cons_succ]
              refine take_at 4 (some 35) (v := ?_) rfl rfl (by kernel_rfl) (by kernel_rfl) (by kernel_rfl) (fun _ _ _ h => h) ⟨by rfl, ?_⟩ hS ?_
              rotate_left
              · intro wq hSw; go_simp; try rfl
              simp only [Act.put, List.setIfInBounds_toArray, List.set_cons_zero, List.set_cons_succ]
              refine take_at 5 (some 36) (v := ?_) rfl rfl (by kernel_rfl) (by kernel_rfl) (by kernel_rfl) (fun _ _ _ h => h) ⟨by rfl, ?_⟩ hS ?_
              rotate_left
              · intro wq hSw; obtain ⟨y0, y1, y2, y3⟩ := hSw; go_simp; try rfl
              simp only [Act.put, List.setIfInBounds_toArray, List.set_cons_zero, List.set_cons_succ]
              refine take_at 7 (some 38) (v := ?_) rfl rfl (by kernel_rfl) (by kernel_rfl) (by kernel_rfl) (fun _ _ _ h => h) ⟨by rfl, ?_⟩ hS ?_
              rotate_left
              · intro wq hSw; go_simp; try rfl
              simp only [Act.put, List.setIfInBounds_toArray, List.set_cons_zero, List.set_cons_succ]
              refine take_at 8 (some 39) (v := ?_) rfl rfl (by kernel_rfl) (by kernel_rfl) (by kernel_rfl) (fun _ _ _ h => h) ⟨by rfl, ?_⟩ hS ?_
              rotate_left
              · intro wq hSw; obtain ⟨y0, y1, y2, y3⟩ := hSw; go_simp; try rfl
              simp only [Act.put, List.setIfInBounds_toArray, List.set_cons_zero, List.set_cons_succ]
              refine take_at 9 (some 40) (v := ?_) rfl rfl (by kernel_rfl) (by kernel_rfl) (by kernel_rfl) (fun _ _ _ h => h) ⟨by rfl, ?_⟩ hS ?_
              rotate_left
              · intro wq hSw; go_simp; try rfl
              simp only [Act.put, List.setIfInBounds_toArray, List.set_cons_zero, List.set_cons_succ]
              refine wpAnyH_ready (rs := [6]) (by kernel_rfl) (by simp) ?_
              refine AllReadyH.cons rfl (fun K hK => ?_) AllReadyH.nil
              go_simp
              go_wp2_with fail
              refine (IE _).mono ?_
              rintro e w4 ⟨rfl, b4⟩
              have C4 := hide (C3.out.below b4)
              have B4 := hide (bnext B3.out b4 (Nat.le_refl _))
              clear b4
              go_wp2_with fail
              refine hK.out _ _ ⟨(C4.out.get 0 _ rfl).1, (C4.out.get 1 _ rfl).1, (C4.out.get 2 _ rfl).1, (C4.out.get 3 _ rfl).1⟩ (fun hS => ?_)
              clear hK K
              (try simp only [Act.put, List.setIfInBounds_toArray, List.set_cons_zero, List.set_cons_succ])
              refine take_at 10 (some 41) (v := ?_) rfl rfl (by kernel_rfl) (by kernel_rfl) (by kernel_rfl) (fun _ _ _ h => h) ⟨by rfl, ?_⟩ hS ?_
              rotate_left
              · intro wq hSw; go_simp; try rfl
              simp only [Act.put, List.setIfInBounds_toArray, List.set_cons_zero, List.set_cons_succ]
              refine take_at 11 (some 42) (v := ?_) rfl rfl (by kernel_rfl) (by kernel_rfl) (by kernel_rfl) (fun _ _ _ h => h) ⟨by rfl, ?_⟩ hS ?_
              rotate_left
              · intro wq hSw; go_simp; try rfl
              simp only [Act.put, List.setIfInBounds_toArray, List.set_cons_zero, List.set_cons_succ]
              refine take_at 12 (some 30) (v := ?_) rfl rfl (by kernel_rfl) (by kernel_rfl) (by kernel_rfl) (fun _ _ _ h => h) ⟨by rfl, ?_⟩ hS ?_
              rotate_left
              · intro wq hSw; go_simp; try rfl
              simp only [Act.put, List.setIfInBounds_toArray, List.set_cons_zero, List.set_cons_succ]
              refine wpAnyH_done (by kernel_rfl) ?_ _
              obtain ⟨g0, f0⟩ := C4.out.get 0 _ rfl
              obtain ⟨g1, f1⟩ := C4.out.get 1 _ rfl
              obtain ⟨g2, f2⟩ := C4.out.get 2 _ rfl
              obtain ⟨g3, f3⟩ := C4.out.get 3 _ rfl
              go_wp2_with fail
              refine (CS w4 B4.out (by omega) (by omega)).mono ?_
              rintro e w5 ⟨rfl, b5⟩
              have B5 := hide (bnext B4.out b5 (Nat.le_refl _))
              clear b5
              go_wp2_with fail
              go_ret
              exact ⟨by rw [HV.out]; rfl, B5.out⟩
      · have HV : Hid (RES = 70) := by
          unfold Hid
          rw [HR.out]
          simp; omega
        have d1 : decide ((0 : Int) < (n : Int)) = true := by simp; omega
        have d2 : (0 : Int) < (n : Int) := by omega
        have d3 : decide ((0 : Int) < (m : Int)) = true := by simp; omega
        have d4 : (0 : Int) < (m : Int) := by omega
        go_enter Tryd.func31, Tryd.ntmps31
        go_upto_region 1 with fail
        rw [← HW.out]
        obtain ⟨g0, f0⟩ := C2.out.get 0 _ rfl
        obtain ⟨g1, f1⟩ := C2.out.get 1 _ rfl
        obtain ⟨g2, f2⟩ := C2.out.get 2 _ rfl
        obtain ⟨g3, f3⟩ := C2.out.get 3 _ rfl
        go_wp2_with fail
        refine (F0 _).mono ?_
        rintro e w4 ⟨rfl, hw4⟩
        obtain rfl : w2 = w4 := hw4.symm
        clear hw4
        go_wp2_with fail
        go_ret
        exact ⟨by rw [HV.out]; rfl, B2.out⟩
end Go.Proofs.YtakjpljpdlhicaaDoor
