import Derived.Test.YtapjbgkmcplpbaaShapes
namespace Go.Proofs.Ytapjbgkmcplpbaa
open Go.RowKit Go.QK

set_option maxHeartbeats 8000000 in
set_option maxRecDepth 100000 in
theorem layout_walk (p l f : Int) (w : World) : Calls Try.prog 3 #[.agg (shC p l f)] w fun e w' => e = .returned (.bool true) ∧ Below w.heap.size w w' := by
  obtain ⟨w1, hw1⟩ : ∃ w1, w1 = w.alloc (.cells #[.int .i64 p, .int .i64 l, .int .i64 f] 23) := ⟨_, rfl⟩
  have b1 : Below w.heap.size w w1 := by rw [hw1]; exact alloc_below _ _
  have C1 : cell3 w1 w.heap.size p l f := by rw [hw1]; exact cell3.new w p l f
  have KA := hide (fun w' => awake_any w')
  have KN := fun w' => need_any p l f w'
  have KL := fun w' => log_any p l f w'
  have KH := fun page w' => homeOf_any p l f page w'
  have NU := hide (fun e w' => num_any e w')
  unfold shC at KN KL KH ⊢
  have HW := hide hw1
  have C1 := hide C1
  have B1 := hide b1
  clear hw1 b1
  by_cases h0 : 2 ≤ p
  · by_cases h1 : p ≤ 64
    · by_cases h2 : 4 ≤ l
      · by_cases h3 : l ≤ 4096
        · by_cases h4 : 2 ≤ f
          · by_cases h5 : f ≤ 16
            · have hm : mayN p l f := ⟨h0, h1, h2, h3, h4, h5⟩
              rw [show needN p l f = 5 + 2 * p + l from if_pos hm, show mayE p l f = 0 from if_pos hm] at KN
              rw [if_pos hm, show mayE p l f = 0 from if_pos hm] at KL
              have HM := hide hm
              have KN := hide KN
              have KL := hide KL
              have KH := hide KH
              clear hm
              go_enter Try.func3, Try.ntmps3
              go_wp2_with fail
              rw [← HW.out]
              refine (KA.out w1).mono ?_
              rintro e w2 ⟨rfl, b2⟩
              have C2 := hide (C1.out.below b2)
              have B2 := hide (bnext B1.out b2 (Nat.le_refl _))
              have c0 := C2.out.c0
              have c1 := C2.out.c1
              have c2 := C2.out.c2
              clear b2 HW
              go_wp2_with fail
              refine (KN.out w2).mono ?_
              rintro e w3 ⟨rfl, b3⟩
              have C3 := hide (C2.out.below b3)
              have B3 := hide (bnext B2.out b3 (Nat.le_refl _))
              clear b3 c0 c1 c2 C2 B2
              have c0 := C3.out.c0
              have c1 := C3.out.c1
              have c2 := C3.out.c2
              go_wp2_with fail
              refine (NU.out 0 w3).mono ?_
              rintro e w' ⟨rfl, hw⟩
              obtain rfl : w3 = w' := hw.symm
              go_wp2_with fail
              refine (NU.out 0 w3).mono ?_
              rintro e w' ⟨rfl, hw⟩
              obtain rfl : w3 = w' := hw.symm
              go_wp2_with fail
              go_loopw [10, 11] (fun a k wr => ∃ j : Nat, (j : Int) ≤ p ∧ k = .int .i64 (j : Int) ∧ a = .int .i64 (5 + 2 * (j : Int)) ∧ cell3 wr w.heap.size p l f ∧ Below w.heap.size w wr) (fun _ k _ => p.toNat - (intOf k).toNat)
              case atStart => exact ⟨0, by omega, rfl, rfl, C3.out, B3.out⟩
              case round =>
                obtain ⟨j, hj, rfl, rfl, hC, hB⟩ := hrel
                clear c0 c1 c2
                have c0 := hC.c0
                have c1 := hC.c1
                have c2 := hC.c2
                have C3 := hide hC
                have B3 := hide hB
                clear hC hB
                by_cases hlt : (j : Int) < p
                · have KK := KH.out (j : Int) wr
                  have e0 : homeE p l f (j : Int) = 0 := by unfold homeE; rw [if_neg (not_not_intro HM.out), if_neg (by omega)]
                  have e1 : homeN p l f (j : Int) = 5 + 2 * (j : Int) := by unfold homeN; rw [if_pos e0]
                  rw [e0, e1] at KK
                  have KK := hide KK
                  have e2 : wrap64 (5 + 2 * (j : Int) + 2) = 5 + 2 * (j : Int) + 2 := by unfold wrap64; omega
                  have e3 : IntKind.i64.wrap (5 + 2 * (j : Int) + 2) = 5 + 2 * (j : Int) + 2 := by rw [IntKind.wrap_i64]; omega
                  clear e0 e1
                  obtain ⟨a, ha⟩ : ∃ a, a = 5 + 2 * (j : Int) := ⟨_, rfl⟩
                  rw [← ha] at KK e2 e3 ⊢
                  have HA := hide ha
                  clear ha
                  go_wp2_with fail
                  refine KK.out.mono ?_
                  rintro e w4 ⟨rfl, b4⟩
                  have C4 := hide (C3.out.below b4)
                  have B4 := hide (bnext B3.out b4 (Nat.le_refl _))
                  clear b4 c0 c1 c2 C3 B3 KK
                  go_wp2_with fail
                  refine (NU.out 0 w4).mono ?_
                  rintro e w' ⟨rfl, hw⟩
                  obtain rfl : w4 = w' := hw.symm
                  go_wp2_with fail
                  go_roundw
                  case rel => exact ⟨j + 1, by omega, by go_num, by have := HA.out; congr 1; omega, C4.out, B4.out⟩
                  case measure => simp [intOf]; omega
                · obtain rfl : (j : Int) = p := by omega
                  have KK := hide (KL.out wr)
                  have e2 : wrap64 (5 + 2 * (j : Int) + l) = 5 + 2 * (j : Int) + l := by unfold wrap64; omega
                  have e3 : IntKind.i64.wrap (5 + 2 * (j : Int) + l) = 5 + 2 * (j : Int) + l := by rw [IntKind.wrap_i64]; omega
                  go_wp2_with fail
                  refine KK.out.mono ?_
                  rintro e w4 ⟨rfl, b4⟩
                  have C4 := hide (C3.out.below b4)
                  have B4 := hide (bnext B3.out b4 (Nat.le_refl _))
                  clear b4 c0 c1 c2 C3 B3 KK
                  have c0 := C4.out.c0
                  have c1 := C4.out.c1
                  have c2 := C4.out.c2
                  go_wp2_with fail
                  refine (NU.out 0 w4).mono ?_
                  rintro e w' ⟨rfl, hw⟩
                  obtain rfl : w4 = w' := hw.symm
                  go_wp2_with fail
                  go_ret
                  exact ⟨rfl, B4.out⟩
            · have hm : ¬ mayN p l f := fun q => h5 q.2.2.2.2.2
              rw [show needN p l f = 0 from if_neg hm, show mayE p l f = 2 from if_neg hm] at KN
              rw [if_neg hm, show mayE p l f = 2 from if_neg hm] at KL
              have hh : ∀ x, homeE p l f x = 2 := fun x => if_pos hm
              have hh2 : ∀ x, homeN p l f x = 0 := fun x => by unfold homeN; rw [hh x]; rfl
              simp only [hh, hh2] at KH
              have g5 : decide (f ≤ 16) = false := decide_eq_false h5
              have KN := hide KN
              have KL := hide KL
              have KH := hide KH
              clear hm hh hh2
              go_enter Try.func3, Try.ntmps3
              go_wp2_with fail
              rw [← HW.out]
              refine (KA.out w1).mono ?_
              rintro e w2 ⟨rfl, b2⟩
              have C2 := hide (C1.out.below b2)
              have B2 := hide (bnext B1.out b2 (Nat.le_refl _))
              have c0 := C2.out.c0
              have c1 := C2.out.c1
              have c2 := C2.out.c2
              clear b2 HW
              go_wp2_with fail
              refine (KN.out w2).mono ?_
              rintro e w3 ⟨rfl, b3⟩
              have C3 := hide (C2.out.below b3)
              have B3 := hide (bnext B2.out b3 (Nat.le_refl _))
              clear b3 c0 c1 c2 C2 B2
              have c0 := C3.out.c0
              have c1 := C3.out.c1
              have c2 := C3.out.c2
              go_wp2_with fail
              refine (NU.out 2 w3).mono ?_
              rintro e w' ⟨rfl, hw⟩
              obtain rfl : w3 = w' := hw.symm
              go_wp2_with fail
              refine (NU.out 2 w3).mono ?_
              rintro e w' ⟨rfl, hw⟩
              obtain rfl : w3 = w' := hw.symm
              go_wp2_with fail
              refine (NU.out 2 w3).mono ?_
              rintro e w' ⟨rfl, hw⟩
              obtain rfl : w3 = w' := hw.symm
              go_wp2_with fail
              refine (KH.out 0 w3).mono ?_
              rintro e w4 ⟨rfl, b4⟩
              have C4 := hide (C3.out.below b4)
              have B4 := hide (bnext B3.out b4 (Nat.le_refl _))
              clear b4 c0 c1 c2 C3 B3
              have c0 := C4.out.c0
              have c1 := C4.out.c1
              have c2 := C4.out.c2
              go_wp2_with fail
              refine (KL.out w4).mono ?_
              rintro e w5 ⟨rfl, b5⟩
              have B5 := hide (bnext B4.out b5 (Nat.le_refl _))
              clear b5 c0 c1 c2 C4 B4
              go_wp2_with fail
              refine (NU.out 2 w5).mono ?_
              rintro e w' ⟨rfl, hw⟩
              obtain rfl : w5 = w' := hw.symm
              go_wp2_with fail
              refine (NU.out 2 w5).mono ?_
              rintro e w' ⟨rfl, hw⟩
              obtain rfl : w5 = w' := hw.symm
              go_wp2_with fail
              go_ret
              exact ⟨rfl, B5.out⟩
          · have hm : ¬ mayN p l f := fun q => h4 q.2.2.2.2.1
            rw [show needN p l f = 0 from if_neg hm, show mayE p l f = 2 from if_neg hm] at KN
            rw [if_neg hm, show mayE p l f = 2 from if_neg hm] at KL
            have hh : ∀ x, homeE p l f x = 2 := fun x => if_pos hm
            have hh2 : ∀ x, homeN p l f x = 0 := fun x => by unfold homeN; rw [hh x]; rfl
            simp only [hh, hh2] at KH
            have g4 : decide (2 ≤ f) = false := decide_eq_false h4
            have KN := hide KN
            have KL := hide KL
            have KH := hide KH
            clear hm hh hh2
            go_enter Try.func3, Try.ntmps3
            go_wp2_with fail
            rw [← HW.out]
            refine (KA.out w1).mono ?_
            rintro e w2 ⟨rfl, b2⟩
            have C2 := hide (C1.out.below b2)
            have B2 := hide (bnext B1.out b2 (Nat.le_refl _))
            have c0 := C2.out.c0
            have c1 := C2.out.c1
            have c2 := C2.out.c2
            clear b2 HW
            go_wp2_with fail
            refine (KN.out w2).mono ?_
            rintro e w3 ⟨rfl, b3⟩
            have C3 := hide (C2.out.below b3)
            have B3 := hide (bnext B2.out b3 (Nat.le_refl _))
            clear b3 c0 c1 c2 C2 B2
            have c0 := C3.out.c0
            have c1 := C3.out.c1
            have c2 := C3.out.c2
            go_wp2_with fail
            refine (NU.out 2 w3).mono ?_
            rintro e w' ⟨rfl, hw⟩
            obtain rfl : w3 = w' := hw.symm
            go_wp2_with fail
            refine (NU.out 2 w3).mono ?_
            rintro e w' ⟨rfl, hw⟩
            obtain rfl : w3 = w' := hw.symm
            go_wp2_with fail
            refine (NU.out 2 w3).mono ?_
            rintro e w' ⟨rfl, hw⟩
            obtain rfl : w3 = w' := hw.symm
            go_wp2_with fail
            refine (KH.out 0 w3).mono ?_
            rintro e w4 ⟨rfl, b4⟩
            have C4 := hide (C3.out.below b4)
            have B4 := hide (bnext B3.out b4 (Nat.le_refl _))
            clear b4 c0 c1 c2 C3 B3
            have c0 := C4.out.c0
            have c1 := C4.out.c1
            have c2 := C4.out.c2
            go_wp2_with fail
            refine (KL.out w4).mono ?_
            rintro e w5 ⟨rfl, b5⟩
            have B5 := hide (bnext B4.out b5 (Nat.le_refl _))
            clear b5 c0 c1 c2 C4 B4
            go_wp2_with fail
            refine (NU.out 2 w5).mono ?_
            rintro e w' ⟨rfl, hw⟩
            obtain rfl : w5 = w' := hw.symm
            go_wp2_with fail
            refine (NU.out 2 w5).mono ?_
            rintro e w' ⟨rfl, hw⟩
            obtain rfl : w5 = w' := hw.symm
            go_wp2_with fail
            go_ret
            exact ⟨rfl, B5.out⟩
        · have hm : ¬ mayN p l f := fun q => h3 q.2.2.2.1
          rw [show needN p l f = 0 from if_neg hm, show mayE p l f = 2 from if_neg hm] at KN
          rw [if_neg hm, show mayE p l f = 2 from if_neg hm] at KL
          have hh : ∀ x, homeE p l f x = 2 := fun x => if_pos hm
          have hh2 : ∀ x, homeN p l f x = 0 := fun x => by unfold homeN; rw [hh x]; rfl
          simp only [hh, hh2] at KH
          have g3 : decide (l ≤ 4096) = false := decide_eq_false h3
          have KN := hide KN
          have KL := hide KL
          have KH := hide KH
          clear hm hh hh2
          go_enter Try.func3, Try.ntmps3
          go_wp2_with fail
          rw [← HW.out]
          refine (KA.out w1).mono ?_
          rintro e w2 ⟨rfl, b2⟩
          have C2 := hide (C1.out.below b2)
          have B2 := hide (bnext B1.out b2 (Nat.le_refl _))
          have c0 := C2.out.c0
          have c1 := C2.out.c1
          have c2 := C2.out.c2
          clear b2 HW
          go_wp2_with fail
          refine (KN.out w2).mono ?_
          rintro e w3 ⟨rfl, b3⟩
          have C3 := hide (C2.out.below b3)
          have B3 := hide (bnext B2.out b3 (Nat.le_refl _))
          clear b3 c0 c1 c2 C2 B2
          have c0 := C3.out.c0
          have c1 := C3.out.c1
          have c2 := C3.out.c2
          go_wp2_with fail
          refine (NU.out 2 w3).mono ?_
          rintro e w' ⟨rfl, hw⟩
          obtain rfl : w3 = w' := hw.symm
          go_wp2_with fail
          refine (NU.out 2 w3).mono ?_
          rintro e w' ⟨rfl, hw⟩
          obtain rfl : w3 = w' := hw.symm
          go_wp2_with fail
          refine (NU.out 2 w3).mono ?_
          rintro e w' ⟨rfl, hw⟩
          obtain rfl : w3 = w' := hw.symm
          go_wp2_with fail
          refine (KH.out 0 w3).mono ?_
          rintro e w4 ⟨rfl, b4⟩
          have C4 := hide (C3.out.below b4)
          have B4 := hide (bnext B3.out b4 (Nat.le_refl _))
          clear b4 c0 c1 c2 C3 B3
          have c0 := C4.out.c0
          have c1 := C4.out.c1
          have c2 := C4.out.c2
          go_wp2_with fail
          refine (KL.out w4).mono ?_
          rintro e w5 ⟨rfl, b5⟩
          have B5 := hide (bnext B4.out b5 (Nat.le_refl _))
          clear b5 c0 c1 c2 C4 B4
          go_wp2_with fail
          refine (NU.out 2 w5).mono ?_
          rintro e w' ⟨rfl, hw⟩
          obtain rfl : w5 = w' := hw.symm
          go_wp2_with fail
          refine (NU.out 2 w5).mono ?_
          rintro e w' ⟨rfl, hw⟩
          obtain rfl : w5 = w' := hw.symm
          go_wp2_with fail
          go_ret
          exact ⟨rfl, B5.out⟩
      · have hm : ¬ mayN p l f := fun q => h2 q.2.2.1
        rw [show needN p l f = 0 from if_neg hm, show mayE p l f = 2 from if_neg hm] at KN
        rw [if_neg hm, show mayE p l f = 2 from if_neg hm] at KL
        have hh : ∀ x, homeE p l f x = 2 := fun x => if_pos hm
        have hh2 : ∀ x, homeN p l f x = 0 := fun x => by unfold homeN; rw [hh x]; rfl
        simp only [hh, hh2] at KH
        have g2 : decide (4 ≤ l) = false := decide_eq_false h2
        have KN := hide KN
        have KL := hide KL
        have KH := hide KH
        clear hm hh hh2
        go_enter Try.func3, Try.ntmps3
        go_wp2_with fail
        rw [← HW.out]
        refine (KA.out w1).mono ?_
        rintro e w2 ⟨rfl, b2⟩
        have C2 := hide (C1.out.below b2)
        have B2 := hide (bnext B1.out b2 (Nat.le_refl _))
        have c0 := C2.out.c0
        have c1 := C2.out.c1
        have c2 := C2.out.c2
        clear b2 HW
        go_wp2_with fail
        refine (KN.out w2).mono ?_
        rintro e w3 ⟨rfl, b3⟩
        have C3 := hide (C2.out.below b3)
        have B3 := hide (bnext B2.out b3 (Nat.le_refl _))
        clear b3 c0 c1 c2 C2 B2
        have c0 := C3.out.c0
        have c1 := C3.out.c1
        have c2 := C3.out.c2
        go_wp2_with fail
        refine (NU.out 2 w3).mono ?_
        rintro e w' ⟨rfl, hw⟩
        obtain rfl : w3 = w' := hw.symm
        go_wp2_with fail
        refine (NU.out 2 w3).mono ?_
        rintro e w' ⟨rfl, hw⟩
        obtain rfl : w3 = w' := hw.symm
        go_wp2_with fail
        refine (NU.out 2 w3).mono ?_
        rintro e w' ⟨rfl, hw⟩
        obtain rfl : w3 = w' := hw.symm
        go_wp2_with fail
        refine (KH.out 0 w3).mono ?_
        rintro e w4 ⟨rfl, b4⟩
        have C4 := hide (C3.out.below b4)
        have B4 := hide (bnext B3.out b4 (Nat.le_refl _))
        clear b4 c0 c1 c2 C3 B3
        have c0 := C4.out.c0
        have c1 := C4.out.c1
        have c2 := C4.out.c2
        go_wp2_with fail
        refine (KL.out w4).mono ?_
        rintro e w5 ⟨rfl, b5⟩
        have B5 := hide (bnext B4.out b5 (Nat.le_refl _))
        clear b5 c0 c1 c2 C4 B4
        go_wp2_with fail
        refine (NU.out 2 w5).mono ?_
        rintro e w' ⟨rfl, hw⟩
        obtain rfl : w5 = w' := hw.symm
        go_wp2_with fail
        refine (NU.out 2 w5).mono ?_
        rintro e w' ⟨rfl, hw⟩
        obtain rfl : w5 = w' := hw.symm
        go_wp2_with fail
        go_ret
        exact ⟨rfl, B5.out⟩
    · have hm : ¬ mayN p l f := fun q => h1 q.2.1
      rw [show needN p l f = 0 from if_neg hm, show mayE p l f = 2 from if_neg hm] at KN
      rw [if_neg hm, show mayE p l f = 2 from if_neg hm] at KL
      have hh : ∀ x, homeE p l f x = 2 := fun x => if_pos hm
      have hh2 : ∀ x, homeN p l f x = 0 := fun x => by unfold homeN; rw [hh x]; rfl
      simp only [hh, hh2] at KH
      have g1 : decide (p ≤ 64) = false := decide_eq_false h1
      have KN := hide KN
      have KL := hide KL
      have KH := hide KH
      clear hm hh hh2
      go_enter Try.func3, Try.ntmps3
      go_wp2_with fail
      rw [← HW.out]
      refine (KA.out w1).mono ?_
      rintro e w2 ⟨rfl, b2⟩
      have C2 := hide (C1.out.below b2)
      have B2 := hide (bnext B1.out b2 (Nat.le_refl _))
      have c0 := C2.out.c0
      have c1 := C2.out.c1
      have c2 := C2.out.c2
      clear b2 HW
      go_wp2_with fail
      refine (KN.out w2).mono ?_
      rintro e w3 ⟨rfl, b3⟩
      have C3 := hide (C2.out.below b3)
      have B3 := hide (bnext B2.out b3 (Nat.le_refl _))
      clear b3 c0 c1 c2 C2 B2
      have c0 := C3.out.c0
      have c1 := C3.out.c1
      have c2 := C3.out.c2
      go_wp2_with fail
      refine (NU.out 2 w3).mono ?_
      rintro e w' ⟨rfl, hw⟩
      obtain rfl : w3 = w' := hw.symm
      go_wp2_with fail
      refine (NU.out 2 w3).mono ?_
      rintro e w' ⟨rfl, hw⟩
      obtain rfl : w3 = w' := hw.symm
      go_wp2_with fail
      refine (NU.out 2 w3).mono ?_
      rintro e w' ⟨rfl, hw⟩
      obtain rfl : w3 = w' := hw.symm
      go_wp2_with fail
      refine (KH.out 0 w3).mono ?_
      rintro e w4 ⟨rfl, b4⟩
      have C4 := hide (C3.out.below b4)
      have B4 := hide (bnext B3.out b4 (Nat.le_refl _))
      clear b4 c0 c1 c2 C3 B3
      have c0 := C4.out.c0
      have c1 := C4.out.c1
      have c2 := C4.out.c2
      go_wp2_with fail
      refine (KL.out w4).mono ?_
      rintro e w5 ⟨rfl, b5⟩
      have B5 := hide (bnext B4.out b5 (Nat.le_refl _))
      clear b5 c0 c1 c2 C4 B4
      go_wp2_with fail
      refine (NU.out 2 w5).mono ?_
      rintro e w' ⟨rfl, hw⟩
      obtain rfl : w5 = w' := hw.symm
      go_wp2_with fail
      refine (NU.out 2 w5).mono ?_
      rintro e w' ⟨rfl, hw⟩
      obtain rfl : w5 = w' := hw.symm
      go_wp2_with fail
      go_ret
      exact ⟨rfl, B5.out⟩
  · have hm : ¬ mayN p l f := fun q => h0 q.1
    rw [show needN p l f = 0 from if_neg hm, show mayE p l f = 2 from if_neg hm] at KN
    rw [if_neg hm, show mayE p l f = 2 from if_neg hm] at KL
    have hh : ∀ x, homeE p l f x = 2 := fun x => if_pos hm
    have hh2 : ∀ x, homeN p l f x = 0 := fun x => by unfold homeN; rw [hh x]; rfl
    simp only [hh, hh2] at KH
    have g0 : decide (2 ≤ p) = false := decide_eq_false h0
    have KN := hide KN
    have KL := hide KL
    have KH := hide KH
    clear hm hh hh2
    go_enter Try.func3, Try.ntmps3
    go_wp2_with fail
    rw [← HW.out]
    refine (KA.out w1).mono ?_
    rintro e w2 ⟨rfl, b2⟩
    have C2 := hide (C1.out.below b2)
    have B2 := hide (bnext B1.out b2 (Nat.le_refl _))
    have c0 := C2.out.c0
    have c1 := C2.out.c1
    have c2 := C2.out.c2
    clear b2 HW
    go_wp2_with fail
    refine (KN.out w2).mono ?_
    rintro e w3 ⟨rfl, b3⟩
    have C3 := hide (C2.out.below b3)
    have B3 := hide (bnext B2.out b3 (Nat.le_refl _))
    clear b3 c0 c1 c2 C2 B2
    have c0 := C3.out.c0
    have c1 := C3.out.c1
    have c2 := C3.out.c2
    go_wp2_with fail
    refine (NU.out 2 w3).mono ?_
    rintro e w' ⟨rfl, hw⟩
    obtain rfl : w3 = w' := hw.symm
    go_wp2_with fail
    refine (NU.out 2 w3).mono ?_
    rintro e w' ⟨rfl, hw⟩
    obtain rfl : w3 = w' := hw.symm
    go_wp2_with fail
    refine (NU.out 2 w3).mono ?_
    rintro e w' ⟨rfl, hw⟩
    obtain rfl : w3 = w' := hw.symm
    go_wp2_with fail
    refine (KH.out 0 w3).mono ?_
    rintro e w4 ⟨rfl, b4⟩
    have C4 := hide (C3.out.below b4)
    have B4 := hide (bnext B3.out b4 (Nat.le_refl _))
    clear b4 c0 c1 c2 C3 B3
    have c0 := C4.out.c0
    have c1 := C4.out.c1
    have c2 := C4.out.c2
    go_wp2_with fail
    refine (KL.out w4).mono ?_
    rintro e w5 ⟨rfl, b5⟩
    have B5 := hide (bnext B4.out b5 (Nat.le_refl _))
    clear b5 c0 c1 c2 C4 B4
    go_wp2_with fail
    refine (NU.out 2 w5).mono ?_
    rintro e w' ⟨rfl, hw⟩
    obtain rfl : w5 = w' := hw.symm
    go_wp2_with fail
    refine (NU.out 2 w5).mono ?_
    rintro e w' ⟨rfl, hw⟩
    obtain rfl : w5 = w' := hw.symm
    go_wp2_with fail
    go_ret
    exact ⟨rfl, B5.out⟩
end Go.Proofs.Ytapjbgkmcplpbaa
