import Derived.Test.YtapjbgkmcplpbaaSect3
import Derived.Test.YtapjbgkmcplpbaaTake
import Derived.Deep.QuietTactic
import Derived.BigQuiet
namespace Go.Proofs.Ytapjbgkmcplpbaa
open Go.RowKit Go.QK

def homeE (p l f page : Int) : Nat := if ¬ mayN p l f then 2 else if page < 0 ∨ p ≤ page then 4 else 0
def homeN (p l f page : Int) : Int := if homeE p l f page = 0 then 5 + 2 * page else 0
set_option maxHeartbeats 1000000 in
set_option maxRecDepth 100000 in
theorem homeOf_any (p l f page : Int) (w : World) : Calls Try.prog 10 #[.agg (shC p l f), .int .i64 page] w fun e w' => e = .returned (.tuple #[.int .i64 (homeN p l f page), .int .i64 ((homeE p l f page : Nat) : Int)]) ∧ Below w.heap.size w w' := by
  have K := mayBe_any p l f (w.alloc (.cells #[.int .i64 p, .int .i64 l, .int .i64 f] 23))
  have C0 := cell3.new w p l f
  have B0 := alloc_below w (.cells #[.int .i64 p, .int .i64 l, .int .i64 f] 23)
  unfold homeN homeE
  unfold shC at K ⊢
  by_cases h : mayN p l f
  · rw [if_neg (not_not_intro h)]
    rw [decide_eq_true h] at K
    have K := hide K
    have hp : 2 ≤ p ∧ p ≤ 64 := ⟨h.1, h.2.1⟩
    clear h
    by_cases q1 : page < 0
    · rw [if_pos (show page < 0 ∨ p ≤ page from .inl q1)]
      go_enter Try.func10, Try.ntmps10
      go_wp2_with fail
      refine K.out.mono ?_
      rintro e w1 ⟨rfl, b1⟩
      have c0 := (C0.below b1).c0
      have B1 := hide (bnext B0 b1 (Nat.le_refl _))
      clear K b1 C0 B0
      go_wp2_with fail
      exact bodyPost_ret (v := .tuple #[.int .i64 0, .int .i64 4]) (by simp [results, Try.results10, go_sem]) rfl ⟨rfl, B1.out⟩
    · by_cases q2 : p ≤ page
      · rw [if_pos (show page < 0 ∨ p ≤ page from .inr q2)]
        have q1' : ¬ page < 0 := q1
        go_enter Try.func10, Try.ntmps10
        go_wp2_with fail
        refine K.out.mono ?_
        rintro e w1 ⟨rfl, b1⟩
        have c0 := (C0.below b1).c0
        have B1 := hide (bnext B0 b1 (Nat.le_refl _))
        clear K b1 C0 B0
        go_wp2_with fail
        exact bodyPost_ret (v := .tuple #[.int .i64 0, .int .i64 4]) (by simp [results, Try.results10, go_sem]) rfl ⟨rfl, B1.out⟩
      · rw [if_neg (show ¬ (page < 0 ∨ p ≤ page) by omega)]
        have e1 : wrap64 (2 * page) = 2 * page := by unfold wrap64; omega
        have e2 : wrap64 (5 + 2 * page) = 5 + 2 * page := by unfold wrap64; omega
        go_enter Try.func10, Try.ntmps10
        go_wp2_with fail
        refine K.out.mono ?_
        rintro e w1 ⟨rfl, b1⟩
        have c0 := (C0.below b1).c0
        have B1 := hide (bnext B0 b1 (Nat.le_refl _))
        clear K b1 C0 B0
        go_wp2_with fail
        exact bodyPost_ret (v := .tuple #[.int .i64 (5 + 2 * page), .int .i64 0]) (by simp [results, Try.results10, go_sem]) rfl ⟨rfl, B1.out⟩
  · rw [if_pos h]
    rw [decide_eq_false h] at K
    have K := hide K
    clear h
    go_enter Try.func10, Try.ntmps10
    go_wp2_with fail
    refine K.out.mono ?_
    rintro e w1 ⟨rfl, b1⟩
    have B1 := hide (bnext B0 b1 (Nat.le_refl _))
    clear K b1 C0 B0
    go_wp2_with fail
    exact bodyPost_ret (v := .tuple #[.int .i64 0, .int .i64 2]) (by simp [results, Try.results10, go_sem]) rfl ⟨rfl, B1.out⟩

set_option maxHeartbeats 1000000 in
set_option maxRecDepth 100000 in
theorem fits_any (p l f n : Int) (w : World) : Calls Try.prog 52 #[.agg (shC p l f), .int .i64 n] w fun e w' => e = .returned (.bool (decide (fitsN p l f n))) ∧ Below w.heap.size w w' := by
  have K := need_any p l f (w.alloc (.cells #[.int .i64 p, .int .i64 l, .int .i64 f] 23))
  have B0 := alloc_below w (.cells #[.int .i64 p, .int .i64 l, .int .i64 f] 23)
  unfold needN mayE at K
  unfold shC at K ⊢
  by_cases h : mayN p l f
  · rw [if_pos h, if_pos h] at K
    have K := hide K
    by_cases q : 5 + 2 * p + l = n
    · rw [decide_eq_true (show fitsN p l f n from ⟨h, q⟩), ← q]
      clear h q
      go_enter Try.func52, Try.ntmps52
      go_wp2_with fail
      refine K.out.mono ?_
      rintro e w1 ⟨rfl, b1⟩
      have B1 := hide (bnext B0 b1 (Nat.le_refl _))
      clear K b1 B0
      go_wp2_with fail
      go_ret
      exact ⟨rfl, B1.out⟩
    · rw [decide_eq_false (show ¬ fitsN p l f n from fun r => q r.2)]
      have q' : (5 + 2 * p + l == n) = false := by simpa using q
      clear h q
      generalize 5 + 2 * p + l = m at *
      go_enter Try.func52, Try.ntmps52
      go_wp2_with fail
      refine K.out.mono ?_
      rintro e w1 ⟨rfl, b1⟩
      have B1 := hide (bnext B0 b1 (Nat.le_refl _))
      clear K b1 B0
      go_wp2_with fail
      go_ret
      exact ⟨rfl, B1.out⟩
  · rw [if_neg h, if_neg h] at K
    rw [decide_eq_false (show ¬ fitsN p l f n from fun r => h r.1)]
    have K := hide K
    clear h
    go_enter Try.func52, Try.ntmps52
    go_wp2_with fail
    refine K.out.mono ?_
    rintro e w1 ⟨rfl, b1⟩
    have B1 := hide (bnext B0 b1 (Nat.le_refl _))
    clear K b1 B0
    go_wp2_with fail
    go_ret
    exact ⟨rfl, B1.out⟩

set_option maxHeartbeats 1000000 in
set_option maxRecDepth 100000 in
theorem mayStand_any (s : Slot) (i n : Nat) (w : World) (hf : s.Fit) : Calls Try.prog 56 #[.agg (slotC s), .int .i64 (i : Int), .int .i64 (n : Int)] w fun e w' => e = .returned (.bool (decide (s.stands i n))) ∧ Below w.heap.size w w' := by
  obtain ⟨w1, hw1⟩ : ∃ w1, w1 = w.alloc (.cells (slotC s) 63) := ⟨_, rfl⟩
  have S1 : SlotAt w1 w.heap.size s := by rw [hw1]; exact SlotAt.new w s
  have b1 : Below w.heap.size w w1 := by rw [hw1]; exact alloc_below _ _
  have K1 := hide (home_any s w1 hf.stamp)
  have K2 := fun w' => hide (fits_any (s.pages : Int) (s.log : Int) (s.frames : Int) (n : Int) w')
  have HW := hide hw1
  clear hw1
  obtain ⟨d0, d1, d2, d3, d4⟩ := (⟨S1.at0, S1.at1, S1.at2, S1.at3, S1.at4⟩ : _ ∧ _ ∧ _ ∧ _ ∧ _)
  obtain ⟨st, pg, lg, fr, pt⟩ := s
  simp only at *
  unfold slotC at K1
  unfold slotC at HW
  unfold shC at K2
  simp only at K1 HW K2
  have f1 := hf.stamp
  have f5 := hf.point
  simp only at f1 f5
  unfold slotC
  simp only
  have S1 := hide S1
  have b1H := hide b1
  by_cases h1 : 1 ≤ st
  · have g1 : (1 : Int) ≤ (st : Int) := by omega
    by_cases h2 : st ≤ 4611686018427387904
    · have g2 : (st : Int) ≤ 4611686018427387904 := by omega
      by_cases h3 : st % 2 = i
      · obtain ⟨m, hm⟩ : ∃ m, m = st % 2 := ⟨_, rfl⟩
        rw [← hm] at h3 K1
        subst h3
        have HM := hide hm
        clear hm
        by_cases h4 : fitsN (pg : Int) (lg : Int) (fr : Int) (n : Int)
        · have K2 := fun w' => (K2 w').out
          rw [decide_eq_true h4] at K2
          by_cases h5 : pt ≤ 2147483647
          · have g5 : (pt : Int) ≤ 2147483647 := by omega
            rw [decide_eq_true (show Slot.stands ⟨st, pg, lg, fr, pt⟩ m n from ⟨h1, h2, HM.out.symm, h4, h5⟩)]
            clear h1 h2 h4 h5
            go_enter Try.func56, Try.ntmps56
            go_wp2_with fail
            rw [← HW.out]
            refine K1.out.mono ?_
            rintro e w2 ⟨rfl, b2⟩
            have S2 := hide (S1.out.below b2)
            have B2 := hide (bnext b1 b2 (Nat.le_refl _))
            have d1' := S2.out.at1
            have d2' := S2.out.at2
            have d3' := S2.out.at3
            have d4' := S2.out.at4
            clear d0 d1 d2 d3 d4 K1
            go_wp2_with fail
            refine (K2 _).mono ?_
            rintro e w3 ⟨rfl, b3⟩
            have d4'' := (S2.out.below b3).at4
            have B3 := hide (bnext B2.out b3 (Nat.le_refl _))
            clear d1' d2' d3' d4' B2 S2 K2 b2 b3
            go_wp2_with fail
            go_ret
            exact ⟨rfl, B3.out⟩
          · have g5 : decide ((pt : Int) ≤ 2147483647) = false := decide_eq_false (by omega)
            rw [decide_eq_false (show ¬ Slot.stands ⟨st, pg, lg, fr, pt⟩ m n from fun q => h5 q.2.2.2.2)]
            clear h1 h2 h4 h5
            go_enter Try.func56, Try.ntmps56
            go_wp2_with fail
            rw [← HW.out]
            refine K1.out.mono ?_
            rintro e w2 ⟨rfl, b2⟩
            have S2 := hide (S1.out.below b2)
            have B2 := hide (bnext b1 b2 (Nat.le_refl _))
            have d1' := S2.out.at1
            have d2' := S2.out.at2
            have d3' := S2.out.at3
            have d4' := S2.out.at4
            clear d0 d1 d2 d3 d4 K1
            go_wp2_with fail
            refine (K2 _).mono ?_
            rintro e w3 ⟨rfl, b3⟩
            have d4'' := (S2.out.below b3).at4
            have B3 := hide (bnext B2.out b3 (Nat.le_refl _))
            clear d1' d2' d3' d4' B2 S2 K2 b2 b3
            go_wp2_with fail
            go_ret
            exact ⟨rfl, B3.out⟩
        · have K2 := fun w' => (K2 w').out
          rw [decide_eq_false h4] at K2
          rw [decide_eq_false (show ¬ Slot.stands ⟨st, pg, lg, fr, pt⟩ m n from fun q => h4 q.2.2.2.1)]
          clear h1 h2 h4
          go_enter Try.func56, Try.ntmps56
          go_wp2_with fail
          rw [← HW.out]
          refine K1.out.mono ?_
          rintro e w2 ⟨rfl, b2⟩
          have S2 := hide (S1.out.below b2)
          have B2 := hide (bnext b1 b2 (Nat.le_refl _))
          have d1' := S2.out.at1
          have d2' := S2.out.at2
          have d3' := S2.out.at3
          have d4' := S2.out.at4
          clear d0 d1 d2 d3 d4 K1
          go_wp2_with fail
          refine (K2 _).mono ?_
          rintro e w3 ⟨rfl, b3⟩
          have d4'' := (S2.out.below b3).at4
          have B3 := hide (bnext B2.out b3 (Nat.le_refl _))
          clear d1' d2' d3' d4' B2 S2 K2 b2 b3
          go_wp2_with fail
          go_ret
          exact ⟨rfl, B3.out⟩
      · have h3' : ((st % 2 : Nat) : Int) ≠ (i : Int) := by omega
        obtain ⟨m, hm⟩ : ∃ m, m = st % 2 := ⟨_, rfl⟩
        rw [← hm] at h3' K1
        have g3 : ((m : Int) == (i : Int)) = false := by simpa using h3'
        clear h3'
        rw [decide_eq_false (show ¬ Slot.stands ⟨st, pg, lg, fr, pt⟩ i n from fun q => h3 q.2.2.1)]
        clear h1 h2 h3 hm
        go_enter Try.func56, Try.ntmps56
        go_wp2_with fail
        rw [← HW.out]
        refine K1.out.mono ?_
        rintro e w2 ⟨rfl, b2⟩
        have S2 := hide (S1.out.below b2)
        have B2 := hide (bnext b1 b2 (Nat.le_refl _))
        have d1' := S2.out.at1
        have d2' := S2.out.at2
        have d3' := S2.out.at3
        have d4' := S2.out.at4
        clear d0 d1 d2 d3 d4 K1
        go_wp2_with fail
        go_ret
        exact ⟨rfl, B2.out⟩
    · have g2 : ¬ (st : Int) ≤ 4611686018427387904 := by omega
      rw [decide_eq_false (show ¬ Slot.stands ⟨st, pg, lg, fr, pt⟩ i n from fun q => h2 q.2.1)]
      clear h1 h2
      go_enter Try.func56, Try.ntmps56
      go_wp2_with fail
      go_ret
      exact ⟨rfl, by rw [← HW.out]; exact b1⟩
  · have g1 : ¬ (1 : Int) ≤ (st : Int) := by omega
    rw [decide_eq_false (show ¬ Slot.stands ⟨st, pg, lg, fr, pt⟩ i n from fun q => h1 q.1)]
    clear h1
    go_enter Try.func56, Try.ntmps56
    go_wp2_with fail
    go_ret
    exact ⟨rfl, by rw [← HW.out]; exact b1⟩
end Go.Proofs.Ytapjbgkmcplpbaa
