import Derived.Test.YtakjpljpdlhicaaDoorPg34
set_option linter.all false
namespace Go.Proofs.YtakjpljpdlhicaaDoor
open Go.RowKit Go.QK Go.Pg
set_option maxRecDepth 100000
set_option maxHeartbeats 8000000 in
theorem rfault_any (p : PageM) (t : At) (w : World) (hc : Lies w t.a (ctrsC p.cs)) (hg : Lies w t.b (grpsC p.gs)) (l1 : p.cs.length ≤ 10000000000000) (l2 : p.gs.length ≤ 10000000000000) :
    Calls Tryd.prog 37 #[pageV p t] w fun e w' => e = .returned (.int .i64 (checkE p)) ∧ Below w.heap.size w w' := by
  have KC := hide (fun w' (b : Below w.heap.size w w') (h1 : p.cs.length ≤ 1000) (h2 : p.gs.length ≤ 1000) => content_any p t w' (hc.below b) (hg.below b) h1 h2)
  have HC := hide (show checkE p = _ from rfl)
  obtain ⟨ce, hce⟩ : ∃ ce, ce = checkE p := ⟨_, rfl⟩
  have CE := hide (show ce = if p.num < 0 ∨ 63 < p.num then 4
  else if 0 < p.cs.length ∧ 0 < p.gs.length then 70
  else if 31 < p.cs.length ∨ 84 < p.gs.length then 6
  else if p.lsn < 0 ∨ 2147483647 < p.lsn ∨ (isEmpty p != decide (p.lsn = 0)) = true then 23
  else slotsE p.cs p.gs from hce)
  have IE := hide (show isEmpty p = (decide (p.cs.length = 0) && decide (p.gs.length = 0)) from rfl)
  rw [← hce]
  clear hce HC hc hg
  generalize isEmpty p = em at *
  obtain ⟨so, hso⟩ : ∃ z, z = slotsE p.cs p.gs := ⟨_, rfl⟩
  rw [← hso] at KC CE
  clear hso
  obtain ⟨num, lsn, cs, gs⟩ := p
  obtain ⟨ta, tc, tb, td⟩ := t
  simp only [pageV] at *
  obtain ⟨nc, hnc⟩ : ∃ n, n = cs.length := ⟨_, rfl⟩
  obtain ⟨ng, hng⟩ : ∃ n, n = gs.length := ⟨_, rfl⟩
  rw [← hnc] at KC CE IE l1 ⊢
  rw [← hng] at KC CE IE l2 ⊢
  clear hnc hng
  have wn : wrap64 ((nc : Int) + (ng : Int)) = (nc : Int) + (ng : Int) := by unfold wrap64; omega
  go_enter Tryd.func37, Tryd.ntmps37
  by_cases a1 : num < 0
  · have q0 : decide (num < 0) = true := decide_eq_true (by omega)
    have V := hide (show ce = 4 by have c := CE.out; rw [if_pos (by omega)] at c; exact c)
    (try clear MM)
    (try clear EM)
    (try clear z0)
    (try clear y0)
    clear CE IE
    go_wp2_with fail
    go_ret
    exact ⟨by rw [V.out]; rfl, (alloc_below _ _)⟩
  · by_cases a2 : 63 < num
    · have q0 : decide (num < 0) = false := decide_eq_false (by omega)
      have q1 : decide (64 ≤ num) = true := decide_eq_true (by omega)
      have V := hide (show ce = 4 by have c := CE.out; rw [if_pos (by omega)] at c; exact c)
      (try clear MM)
      (try clear EM)
      (try clear z0)
      (try clear y0)
      clear CE IE
      go_wp2_with fail
      go_ret
      exact ⟨by rw [V.out]; rfl, (alloc_below _ _)⟩
    · by_cases a3 : 0 < nc
      · by_cases a4 : 0 < ng
        · have q0 : decide (num < 0) = false := decide_eq_false (by omega)
          have q1 : decide (64 ≤ num) = false := decide_eq_false (by omega)
          have q2 : decide ((0 : Int) < (nc : Int)) = true := decide_eq_true (by omega)
          have q3 : decide ((0 : Int) < (ng : Int)) = true := decide_eq_true (by omega)
          have V := hide (show ce = 70 by have c := CE.out; rw [if_neg (by omega), if_pos (by omega)] at c; exact c)
          (try clear MM)
          (try clear EM)
          (try clear z0)
          (try clear y0)
          clear CE IE
          go_wp2_with fail
          go_ret
          exact ⟨by rw [V.out]; rfl, (alloc_below _ _)⟩
        · by_cases a5 : 31 < nc
          · have q0 : decide (num < 0) = false := decide_eq_false (by omega)
            have q1 : decide (64 ≤ num) = false := decide_eq_false (by omega)
            have q2 : decide ((0 : Int) < (nc : Int)) = true := decide_eq_true (by omega)
            have q3 : decide ((0 : Int) < (ng : Int)) = false := decide_eq_false (by omega)
            have q4 : decide ((31 : Int) < (nc : Int)) = true := decide_eq_true (by omega)
            have V := hide (show ce = 6 by have c := CE.out; rw [if_neg (by omega), if_neg (by omega), if_pos (by omega)] at c; exact c)
            (try clear MM)
            (try clear EM)
            (try clear z0)
            (try clear y0)
            clear CE IE
            go_wp2_with fail
            go_ret
            exact ⟨by rw [V.out]; rfl, (alloc_below _ _)⟩
          · by_cases a6 : lsn < 0
            · have q0 : decide (num < 0) = false := decide_eq_false (by omega)
              have q1 : decide (64 ≤ num) = false := decide_eq_false (by omega)
              have q2 : decide ((0 : Int) < (nc : Int)) = true := decide_eq_true (by omega)
              have q3 : decide ((0 : Int) < (ng : Int)) = false := decide_eq_false (by omega)
              have q4 : decide ((31 : Int) < (nc : Int)) = false := decide_eq_false (by omega)
              have q5 : decide ((84 : Int) < (ng : Int)) = false := decide_eq_false (by omega)
              have q6 : decide (lsn < 0) = true := decide_eq_true (by omega)
              have V := hide (show ce = 23 by have c := CE.out; rw [if_neg (by omega), if_neg (by omega), if_neg (by omega), if_pos (by first | omega | exact .inr (.inr MM))] at c; exact c)
              (try clear MM)
              (try clear EM)
              (try clear z0)
              (try clear y0)
              clear CE IE
              go_wp2_with fail
              go_ret
              exact ⟨by rw [V.out]; rfl, (alloc_below _ _)⟩
            · by_cases a7 : (2147483647 : Int) < lsn
              · have q0 : decide (num < 0) = false := decide_eq_false (by omega)
                have q1 : decide (64 ≤ num) = false := decide_eq_false (by omega)
                have q2 : decide ((0 : Int) < (nc : Int)) = true := decide_eq_true (by omega)
                have q3 : decide ((0 : Int) < (ng : Int)) = false := decide_eq_false (by omega)
                have q4 : decide ((31 : Int) < (nc : Int)) = false := decide_eq_false (by omega)
                have q5 : decide ((84 : Int) < (ng : Int)) = false := decide_eq_false (by omega)
                have q6 : decide (lsn < 0) = false := decide_eq_false (by omega)
                have q7 : decide ((2147483647 : Int) < lsn) = true := decide_eq_true (by omega)
                have V := hide (show ce = 23 by have c := CE.out; rw [if_neg (by omega), if_neg (by omega), if_neg (by omega), if_pos (by first | omega | exact .inr (.inr MM))] at c; exact c)
                (try clear MM)
                (try clear EM)
                (try clear z0)
                (try clear y0)
                clear CE IE
                go_wp2_with fail
                go_ret
                exact ⟨by rw [V.out]; rfl, (alloc_below _ _)⟩
              · by_cases z0 : lsn = 0
                · by_cases y0 : (nc : Int) + (ng : Int) = 0
                  · have E1 : (lsn == 0) = true := by simp [z0]
                    have E2 : ((nc : Int) + (ng : Int) == 0) = true := by simp; omega
                    have EM : em = true := by rw [IE.out]; simp; omega
                    have MM : (em != decide (lsn = 0)) = false := by rw [EM]; simp [z0]
                    have V := hide (show ce = so by have c := CE.out; rw [if_neg (by omega), if_neg (by omega), if_neg (by omega), if_neg (by rintro (q | q | q); omega; omega; rw [MM] at q; cases q)] at c; exact c)
                    have q0 : decide (num < 0) = false := decide_eq_false (by omega)
                    have q1 : decide (64 ≤ num) = false := decide_eq_false (by omega)
                    have q2 : decide ((0 : Int) < (nc : Int)) = true := decide_eq_true (by omega)
                    have q3 : decide ((0 : Int) < (ng : Int)) = false := decide_eq_false (by omega)
                    have q4 : decide ((31 : Int) < (nc : Int)) = false := decide_eq_false (by omega)
                    have q5 : decide ((84 : Int) < (ng : Int)) = false := decide_eq_false (by omega)
                    have q6 : decide (lsn < 0) = false := decide_eq_false (by omega)
                    have q7 : decide ((2147483647 : Int) < lsn) = false := decide_eq_false (by omega)
                    clear CE IE MM EM z0 y0
                    go_wp2_with fail
                    refine (KC.out _ (alloc_below _ _) (by omega) (by omega)).mono ?_
                    rintro e w1 ⟨rfl, b1⟩
                    have B1 := hide (bnext (alloc_below _ _) b1 (Nat.le_refl _))
                    clear b1
                    go_wp2_with fail
                    go_ret
                    exact ⟨by rw [V.out]; rfl, B1.out⟩
                  · have E1 : (lsn == 0) = true := by simp [z0]
                    have E2 : ((nc : Int) + (ng : Int) == 0) = false := by simp; omega
                    have EM : em = false := by rw [IE.out]; simp; omega
                    have MM : (em != decide (lsn = 0)) = true := by rw [EM]; simp [z0]
                    have q0 : decide (num < 0) = false := decide_eq_false (by omega)
                    have q1 : decide (64 ≤ num) = false := decide_eq_false (by omega)
                    have q2 : decide ((0 : Int) < (nc : Int)) = true := decide_eq_true (by omega)
                    have q3 : decide ((0 : Int) < (ng : Int)) = false := decide_eq_false (by omega)
                    have q4 : decide ((31 : Int) < (nc : Int)) = false := decide_eq_false (by omega)
                    have q5 : decide ((84 : Int) < (ng : Int)) = false := decide_eq_false (by omega)
                    have q6 : decide (lsn < 0) = false := decide_eq_false (by omega)
                    have q7 : decide ((2147483647 : Int) < lsn) = false := decide_eq_false (by omega)
                    have V := hide (show ce = 23 by have c := CE.out; rw [if_neg (by omega), if_neg (by omega), if_neg (by omega), if_pos (by first | omega | exact .inr (.inr MM))] at c; exact c)
                    (try clear MM)
                    (try clear EM)
                    (try clear z0)
                    (try clear y0)
                    clear CE IE
                    go_wp2_with fail
                    go_ret
                    exact ⟨by rw [V.out]; rfl, (alloc_below _ _)⟩
                · by_cases y0 : (nc : Int) + (ng : Int) = 0
                  · have E1 : (lsn == 0) = false := by simpa using z0
                    have E2 : ((nc : Int) + (ng : Int) == 0) = true := by simp; omega
                    have EM : em = true := by rw [IE.out]; simp; omega
                    have MM : (em != decide (lsn = 0)) = true := by rw [EM]; simp [z0]
                    have q0 : decide (num < 0) = false := decide_eq_false (by omega)
                    have q1 : decide (64 ≤ num) = false := decide_eq_false (by omega)
                    have q2 : decide ((0 : Int) < (nc : Int)) = true := decide_eq_true (by omega)
                    have q3 : decide ((0 : Int) < (ng : Int)) = false := decide_eq_false (by omega)
                    have q4 : decide ((31 : Int) < (nc : Int)) = false := decide_eq_false (by omega)
                    have q5 : decide ((84 : Int) < (ng : Int)) = false := decide_eq_false (by omega)
                    have q6 : decide (lsn < 0) = false := decide_eq_false (by omega)
                    have q7 : decide ((2147483647 : Int) < lsn) = false := decide_eq_false (by omega)
                    have V := hide (show ce = 23 by have c := CE.out; rw [if_neg (by omega), if_neg (by omega), if_neg (by omega), if_pos (by first | omega | exact .inr (.inr MM))] at c; exact c)
                    (try clear MM)
                    (try clear EM)
                    (try clear z0)
                    (try clear y0)
                    clear CE IE
                    go_wp2_with fail
                    go_ret
                    exact ⟨by rw [V.out]; rfl, (alloc_below _ _)⟩
                  · have E1 : (lsn == 0) = false := by simpa using z0
                    have E2 : ((nc : Int) + (ng : Int) == 0) = false := by simp; omega
                    have EM : em = false := by rw [IE.out]; simp; omega
                    have MM : (em != decide (lsn = 0)) = false := by rw [EM]; simp [z0]
                    have V := hide (show ce = so by have c := CE.out; rw [if_neg (by omega), if_neg (by omega), if_neg (by omega), if_neg (by rintro (q | q | q); omega; omega; rw [MM] at q; cases q)] at c; exact c)
                    have q0 : decide (num < 0) = false := decide_eq_false (by omega)
                    have q1 : decide (64 ≤ num) = false := decide_eq_false (by omega)
                    have q2 : decide ((0 : Int) < (nc : Int)) = true := decide_eq_true (by omega)
                    have q3 : decide ((0 : Int) < (ng : Int)) = false := decide_eq_false (by omega)
                    have q4 : decide ((31 : Int) < (nc : Int)) = false := decide_eq_false (by omega)
                    have q5 : decide ((84 : Int) < (ng : Int)) = false := decide_eq_false (by omega)
                    have q6 : decide (lsn < 0) = false := decide_eq_false (by omega)
                    have q7 : decide ((2147483647 : Int) < lsn) = false := decide_eq_false (by omega)
                    clear CE IE MM EM z0 y0
                    go_wp2_with fail
                    refine (KC.out _ (alloc_below _ _) (by omega) (by omega)).mono ?_
                    rintro e w1 ⟨rfl, b1⟩
                    have B1 := hide (bnext (alloc_below _ _) b1 (Nat.le_refl _))
                    clear b1
                    go_wp2_with fail
                    go_ret
                    exact ⟨by rw [V.out]; rfl, B1.out⟩
      · by_cases a5 : 84 < ng
        · have q0 : decide (num < 0) = false := decide_eq_false (by omega)
          have q1 : decide (64 ≤ num) = false := decide_eq_false (by omega)
          have q2 : decide ((0 : Int) < (nc : Int)) = false := decide_eq_false (by omega)
          have q3 : decide ((31 : Int) < (nc : Int)) = false := decide_eq_false (by omega)
          have q4 : decide ((84 : Int) < (ng : Int)) = true := decide_eq_true (by omega)
          have V := hide (show ce = 6 by have c := CE.out; rw [if_neg (by omega), if_neg (by omega), if_pos (by omega)] at c; exact c)
          (try clear MM)
          (try clear EM)
          (try clear z0)
          (try clear y0)
          clear CE IE
          go_wp2_with fail
          go_ret
          exact ⟨by rw [V.out]; rfl, (alloc_below _ _)⟩
        · by_cases a6 : lsn < 0
          · have q0 : decide (num < 0) = false := decide_eq_false (by omega)
            have q1 : decide (64 ≤ num) = false := decide_eq_false (by omega)
            have q2 : decide ((0 : Int) < (nc : Int)) = false := decide_eq_false (by omega)
            have q3 : decide ((31 : Int) < (nc : Int)) = false := decide_eq_false (by omega)
            have q4 : decide ((84 : Int) < (ng : Int)) = false := decide_eq_false (by omega)
            have q5 : decide (lsn < 0) = true := decide_eq_true (by omega)
            have V := hide (show ce = 23 by have c := CE.out; rw [if_neg (by omega), if_neg (by omega), if_neg (by omega), if_pos (by first | omega | exact .inr (.inr MM))] at c; exact c)
            (try clear MM)
            (try clear EM)
            (try clear z0)
            (try clear y0)
            clear CE IE
            go_wp2_with fail
            go_ret
            exact ⟨by rw [V.out]; rfl, (alloc_below _ _)⟩
          · by_cases a7 : (2147483647 : Int) < lsn
            · have q0 : decide (num < 0) = false := decide_eq_false (by omega)
              have q1 : decide (64 ≤ num) = false := decide_eq_false (by omega)
              have q2 : decide ((0 : Int) < (nc : Int)) = false := decide_eq_false (by omega)
              have q3 : decide ((31 : Int) < (nc : Int)) = false := decide_eq_false (by omega)
              have q4 : decide ((84 : Int) < (ng : Int)) = false := decide_eq_false (by omega)
              have q5 : decide (lsn < 0) = false := decide_eq_false (by omega)
              have q6 : decide ((2147483647 : Int) < lsn) = true := decide_eq_true (by omega)
              have V := hide (show ce = 23 by have c := CE.out; rw [if_neg (by omega), if_neg (by omega), if_neg (by omega), if_pos (by first | omega | exact .inr (.inr MM))] at c; exact c)
              (try clear MM)
              (try clear EM)
              (try clear z0)
              (try clear y0)
              clear CE IE
              go_wp2_with fail
              go_ret
              exact ⟨by rw [V.out]; rfl, (alloc_below _ _)⟩
            · by_cases z0 : lsn = 0
              · by_cases y0 : (nc : Int) + (ng : Int) = 0
                · have E1 : (lsn == 0) = true := by simp [z0]
                  have E2 : ((nc : Int) + (ng : Int) == 0) = true := by simp; omega
                  have EM : em = true := by rw [IE.out]; simp; omega
                  have MM : (em != decide (lsn = 0)) = false := by rw [EM]; simp [z0]
                  have V := hide (show ce = so by have c := CE.out; rw [if_neg (by omega), if_neg (by omega), if_neg (by omega), if_neg (by rintro (q | q | q); omega; omega; rw [MM] at q; cases q)] at c; exact c)
                  have q0 : decide (num < 0) = false := decide_eq_false (by omega)
                  have q1 : decide (64 ≤ num) = false := decide_eq_false (by omega)
                  have q2 : decide ((0 : Int) < (nc : Int)) = false := decide_eq_false (by omega)
                  have q3 : decide ((31 : Int) < (nc : Int)) = false := decide_eq_false (by omega)
                  have q4 : decide ((84 : Int) < (ng : Int)) = false := decide_eq_false (by omega)
                  have q5 : decide (lsn < 0) = false := decide_eq_false (by omega)
                  have q6 : decide ((2147483647 : Int) < lsn) = false := decide_eq_false (by omega)
                  clear CE IE MM EM z0 y0
                  go_wp2_with fail
                  refine (KC.out _ (alloc_below _ _) (by omega) (by omega)).mono ?_
                  rintro e w1 ⟨rfl, b1⟩
                  have B1 := hide (bnext (alloc_below _ _) b1 (Nat.le_refl _))
                  clear b1
                  go_wp2_with fail
                  go_ret
                  exact ⟨by rw [V.out]; rfl, B1.out⟩
                · have E1 : (lsn == 0) = true := by simp [z0]
                  have E2 : ((nc : Int) + (ng : Int) == 0) = false := by simp; omega
                  have EM : em = false := by rw [IE.out]; simp; omega
                  have MM : (em != decide (lsn = 0)) = true := by rw [EM]; simp [z0]
                  have q0 : decide (num < 0) = false := decide_eq_false (by omega)
                  have q1 : decide (64 ≤ num) = false := decide_eq_false (by omega)
                  have q2 : decide ((0 : Int) < (nc : Int)) = false := decide_eq_false (by omega)
                  have q3 : decide ((31 : Int) < (nc : Int)) = false := decide_eq_false (by omega)
                  have q4 : decide ((84 : Int) < (ng : Int)) = false := decide_eq_false (by omega)
                  have q5 : decide (lsn < 0) = false := decide_eq_false (by omega)
                  have q6 : decide ((2147483647 : Int) < lsn) = false := decide_eq_false (by omega)
                  have V := hide (show ce = 23 by have c := CE.out; rw [if_neg (by omega), if_neg (by omega), if_neg (by omega), if_pos (by first | omega | exact .inr (.inr MM))] at c; exact c)
                  (try clear MM)
                  (try clear EM)
                  (try clear z0)
                  (try clear y0)
                  clear CE IE
                  go_wp2_with fail
                  go_ret
                  exact ⟨by rw [V.out]; rfl, (alloc_below _ _)⟩
              · by_cases y0 : (nc : Int) + (ng : Int) = 0
                · have E1 : (lsn == 0) = false := by simpa using z0
                  have E2 : ((nc : Int) + (ng : Int) == 0) = true := by simp; omega
                  have EM : em = true := by rw [IE.out]; simp; omega
                  have MM : (em != decide (lsn = 0)) = true := by rw [EM]; simp [z0]
                  have q0 : decide (num < 0) = false := decide_eq_false (by omega)
                  have q1 : decide (64 ≤ num) = false := decide_eq_false (by omega)
                  have q2 : decide ((0 : Int) < (nc : Int)) = false := decide_eq_false (by omega)
                  have q3 : decide ((31 : Int) < (nc : Int)) = false := decide_eq_false (by omega)
                  have q4 : decide ((84 : Int) < (ng : Int)) = false := decide_eq_false (by omega)
                  have q5 : decide (lsn < 0) = false := decide_eq_false (by omega)
                  have q6 : decide ((2147483647 : Int) < lsn) = false := decide_eq_false (by omega)
                  have V := hide (show ce = 23 by have c := CE.out; rw [if_neg (by omega), if_neg (by omega), if_neg (by omega), if_pos (by first | omega | exact .inr (.inr MM))] at c; exact c)
                  (try clear MM)
                  (try clear EM)
                  (try clear z0)
                  (try clear y0)
                  clear CE IE
                  go_wp2_with fail
                  go_ret
                  exact ⟨by rw [V.out]; rfl, (alloc_below _ _)⟩
                · have E1 : (lsn == 0) = false := by simpa using z0
                  have E2 : ((nc : Int) + (ng : Int) == 0) = false := by simp; omega
                  have EM : em = false := by rw [IE.out]; simp; omega
                  have MM : (em != decide (lsn = 0)) = false := by rw [EM]; simp [z0]
                  have V := hide (show ce = so by have c := CE.out; rw [if_neg (by omega), if_neg (by omega), if_neg (by omega), if_neg (by rintro (q | q | q); omega; omega; rw [MM] at q; cases q)] at c; exact c)
                  have q0 : decide (num < 0) = false := decide_eq_false (by omega)
                  have q1 : decide (64 ≤ num) = false := decide_eq_false (by omega)
                  have q2 : decide ((0 : Int) < (nc : Int)) = false := decide_eq_false (by omega)
                  have q3 : decide ((31 : Int) < (nc : Int)) = false := decide_eq_false (by omega)
                  have q4 : decide ((84 : Int) < (ng : Int)) = false := decide_eq_false (by omega)
                  have q5 : decide (lsn < 0) = false := decide_eq_false (by omega)
                  have q6 : decide ((2147483647 : Int) < lsn) = false := decide_eq_false (by omega)
                  clear CE IE MM EM z0 y0
                  go_wp2_with fail
                  refine (KC.out _ (alloc_below _ _) (by omega) (by omega)).mono ?_
                  rintro e w1 ⟨rfl, b1⟩
                  have B1 := hide (bnext (alloc_below _ _) b1 (Nat.le_refl _))
                  clear b1
                  go_wp2_with fail
                  go_ret
                  exact ⟨by rw [V.out]; rfl, B1.out⟩
end Go.Proofs.YtakjpljpdlhicaaDoor
