import Derived.Test.YtokcocmenndlmaaTx39
namespace Go.Proofs.Ytokcocmenndlmaa
open Go.RowKit Go.QK Go.Maps Go.QM Go.QT
set_option maxRecDepth 100000
theorem init_tb {w w1 w2 w3 w4 : World} {t b0 m0 c0 b1 m1 c1 : Nat} (ht : Cells w t [.pointer none, .pointer none, .pointer none, .pointer none, .slice none 0 0, .slice none 0 0]) (htop : w.heap.size = t + 1)
    (h1 : Below w.heap.size w w1) (p1 : PT w1 b0 m0 ⟨[], 1⟩) (r1 : RT w1 c0 c0 (.slice none 0 0) ⟨[], 1⟩) (l1 : w.heap.size ≤ b0 ∧ w.heap.size ≤ m0) (d1 : c0 ≠ b0 ∧ c0 ≠ m0) (n1 : w.heap.size ≤ c0) (hw2 : w2 = (w1.setCell ⟨t, 0, none⟩ (ptr b0)).setCell ⟨t, 2, none⟩ (ptr c0))
    (h3 : Below w2.heap.size w2 w3) (p3 : PT w3 b1 m1 ⟨[], 1⟩) (r3 : RT w3 c1 c1 (.slice none 0 0) ⟨[], 1⟩) (l3 : w2.heap.size ≤ b1 ∧ w2.heap.size ≤ m1) (d3 : c1 ≠ b1 ∧ c1 ≠ m1) (n3 : w2.heap.size ≤ c1) (hw4 : w4 = (w3.setCell ⟨t, 1, none⟩ (ptr b1)).setCell ⟨t, 3, none⟩ (ptr c1)) :
    ∃ lab T, Tb lab w4 t T ∧ (∀ j, j < 2 → T.rp j = T.rq j) ∧ T.t = t ∧ T.ls = [] ∧ Below t w w4 := by
  have k2 : Keep (fun z => z = t) w1 w2 := by rw [hw2]; exact ((Keep.refl (fun z => z = t) w1).setCell (g := t) (fun _ => rfl) _).setCell (g := t) (fun _ => rfl) _
  have k4 : Keep (fun z => z = t) w3 w4 := by rw [hw4]; exact ((Keep.refl (fun z => z = t) w3).setCell (g := t) (fun _ => rfl) _).setCell (g := t) (fun _ => rfl) _
  have s1 := h1.size
  have s2 := k2.size
  have s3 := h3.size
  have s4 := k4.size
  have lt1 := p1.lt
  have lc1 := r1.box.1
  have e2 : w1.heap.size = w2.heap.size := by rw [hw2]; simp
  obtain ⟨lab, hl⟩ : ∃ lab : Nat → Nat, lab = fun x => if x = t then 1 else if x = c0 then 4 else if x = c1 then 5 else if x < w2.heap.size then 2 else 3 := ⟨_, rfl⟩
  obtain ⟨T, hT⟩ : ∃ T : Tab, T = { t := t, b := fun i => if i = 0 then b0 else b1, m := fun i => if i = 0 then m0 else m1, c := fun i => if i = 0 then c0 else c1, v := fun _ => .slice none 0 0, rp := fun _ => ⟨[], 1⟩, rq := fun _ => ⟨[], 1⟩, vL := .slice none 0 0, vM := .slice none 0 0, ls := [] } := ⟨_, rfl⟩
  have box : Cells w4 t [ptr b0, ptr b1, ptr c0, ptr c1, .slice none 0 0, .slice none 0 0] := by
    have a1 := ((ht.below h1).stored (j := 0) (by simp) (ptr b0)).stored (j := 2) (by simp) (ptr c0)
    rw [← hw2] at a1
    have a2 := ((a1.below h3).stored (j := 1) (by simp) (ptr b1)).stored (j := 3) (by simp) (ptr c1)
    rw [← hw4] at a2
    simpa using a2
  have P0 : PT w4 b0 m0 ⟨[], 1⟩ := ((p1.keep k2 (by omega) (by omega)).below h3).keep k4 (by omega) (by omega)
  have P1 : PT w4 b1 m1 ⟨[], 1⟩ := p3.keep k4 (by omega) (by omega)
  have R0 : RT w4 t c0 (.slice none 0 0) ⟨[], 1⟩ := (((r1.keep k2 (by omega) (fun x hx => by simp [Value.ownBlock] at hx)).below h3).keep k4 (by omega) (fun x hx => by simp [Value.ownBlock] at hx)).mono (by omega)
  have R1 : RT w4 t c1 (.slice none 0 0) ⟨[], 1⟩ := (r3.keep k4 (by omega) (fun x hx => by simp [Value.ownBlock] at hx)).mono (by omega)
  have lt3 := p3.lt
  refine ⟨lab, T, ?_, ?_, by rw [hT], by rw [hT], ?_⟩
  · rw [hT]
    refine ⟨by simpa using box, fun i hi => ?_, fun i hi => ?_, World.ownsRow_nil _ _ _ _, World.ownsRow_nil _ _ _ _, fun k e he => by simp at he, by simp, by rw [hl]; simp, fun i hi => ?_, fun i hi => ?_, fun x hx => by simp [Value.ownBlock] at hx, fun x hx => by simp [Value.ownBlock] at hx, ⟨Nat.le_refl _, fun i hi => ?_⟩⟩
    · rcases (show i = 0 ∨ i = 1 by omega) with rfl | rfl
      · simpa using P0
      · simpa using P1
    · rcases (show i = 0 ∨ i = 1 by omega) with rfl | rfl
      · simpa using R0
      · simpa using R1
    · have two : ∀ x, t < x → x ≠ c0 → x ≠ c1 → x < w2.heap.size → lab x = 2 := fun x h1 h2 h3 h4 => by rw [hl]; simp only; rw [if_neg (by omega), if_neg h2, if_neg h3, if_pos h4]
      have three : ∀ x, x ≠ c1 → x ≠ c0 → w2.heap.size ≤ x → lab x = 3 := fun x h1 h2 h3 => by rw [hl]; simp only; rw [if_neg (by omega), if_neg h2, if_neg h1, if_neg (by omega)]
      rcases (show i = 0 ∨ i = 1 by omega) with rfl | rfl
      · simp only [if_true]
        exact ⟨two b0 (by omega) (fun q => d1.1 q.symm) (by omega) (by omega), two m0 (by omega) (fun q => d1.2 q.symm) (by omega) (by omega)⟩
      · simp only [show ¬ ((1 : Nat) = 0) by omega, if_false]
        exact ⟨three b1 (fun q => d3.1 q.symm) (by omega) (by omega), three m1 (fun q => d3.2 q.symm) (by omega) (by omega)⟩
    · refine ⟨?_, fun x hx => by simp [Value.ownBlock] at hx⟩
      rcases (show i = 0 ∨ i = 1 by omega) with rfl | rfl
      · simp only [if_true]
        rw [hl]; simp only; rw [if_neg (by omega)]; simp
      · simp only [show ¬ ((1 : Nat) = 0) by omega, if_false]
        rw [hl]; simp only; rw [if_neg (by omega), if_neg (by omega)]; simp
    · rcases (show i = 0 ∨ i = 1 by omega) with rfl | rfl
      · simp only [if_true]; omega
      · simp only [show ¬ ((1 : Nat) = 0) by omega, if_false]; omega
  · rw [hT]
    intro j _
    rfl
  · exact ((h1.mono (by omega)).trans (k2.below (by omega) (fun z hz q => by omega))).trans ((h3.mono (by omega)).trans (k4.below (by omega) (fun z hz q => by omega)))
end Go.Proofs.Ytokcocmenndlmaa
