import Derived.Test.YtaohdmaenplbpaaGreatBD
set_option linter.all false
namespace Go.Proofs.YtaohdmaenplbpaaGreat
open Go.RowKit Go.QK Quota Go.Maps Go.QM
set_option maxRecDepth 100000
/-! A copy of a ledger, while it is made. -/
def reA (A : Int → Nat × Nat) (p : Int × Lm) : Int × Lm := (p.1, ⟨p.2.c, (A p.1).1, (A p.1).2⟩)
abbrev eK (p : Int × Lm) : Int × Value := (p.1, entV p.2)
structure Cp (w : World) (N F : Nat) (lab : Nat → Nat) (A : Int → Nat × Nat) (M : Prs Lm) : Prop where
  box : Cells w (N + 3) [.map (some N), .map (some (N + 1)), .map (some (N + 2))]
  cm : AnyAt Tryz.prog 3 w N (M.map (fun p => eK (reA A p)))
  esc : ∀ p ∈ M, PE w (A p.1).1 (A p.1).2 p.2.c.e
  f4 : N + 4 ≤ F
  lo : ∀ p ∈ M, F ≤ (A p.1).1 ∧ F ≤ (A p.1).2
  lb : ∀ p ∈ M, lab (A p.1).1 = 10 + 2 * p.1.toNat ∧ lab (A p.1).2 = 10 + 2 * p.1.toNat
  l0 : lab (N + 3) = 1 ∧ lab N = 2 ∧ lab (N + 1) = 3 ∧ lab (N + 2) = 4
theorem PE.lts {w : World} {b m : Nat} {e : Esc} (h : PE w b m e) : b < w.heap.size ∧ m < w.heap.size := h.lt
theorem map_reA {A A' : Int → Nat × Nat} {M : Prs Lm} (h : ∀ p ∈ M, A' p.1 = A p.1) : M.map (fun p => eK (reA A' p)) = M.map (fun p => eK (reA A p)) := by
  apply List.map_congr_left
  intro p hp
  simp only [eK, reA, h p hp]
theorem met_mem {L : Prs Lm} {left : Lit → Bool} {p : Int × Lm} (h : p ∈ metL L left) : p ∈ L ∧ left (.int .i64 p.1) = false := by
  unfold metL at h
  obtain ⟨h1, h2⟩ := List.mem_filter.1 h
  exact ⟨h1, by simpa using h2⟩
theorem metL_map {α β : Type} (f : Int × α → Int × β) (hf : ∀ p, (f p).1 = p.1) (L : Prs α) (left : Lit → Bool) : metL (L.map f) left = (metL L left).map f := by
  unfold metL
  rw [List.filter_map]
  congr 1
  apply List.filter_congr
  intro p _
  simp [hf]
theorem Cp.below {w w' : World} {N F : Nat} {lab : Nat → Nat} {A : Int → Nat × Nat} {M : Prs Lm} (h : Cp w N F lab A M) (hb : Below w.heap.size w w') : Cp w' N F lab A M :=
  ⟨h.box.below hb, anyAt_below h.cm hb, fun p hp => (h.esc p hp).below hb, h.f4, h.lo, h.lb, h.l0⟩
/-- One more counter is copied. -/
theorem Cp.more {w w1 w2 : World} {N F : Nat} {lab : Nat → Nat} {A : Int → Nat × Nat} {K : Prs Lm} {left : Lit → Bool} (h : Cp w N F lab A (metL K left)) (hu : Up K) {x : Int} {lm : Lm} (hg : getM K x = some lm) (hl : left (.int .i64 x) = true) {b m : Nat} (pe : PE w1 b m lm.c.e) (hb : w.heap.size ≤ b) (hm : w.heap.size ≤ m) (b1 : Below w.heap.size w w1) (hN : F ≤ w.heap.size)
    (cm : AnyAt Tryz.prog 3 w2 N (putM x (entV ⟨lm.c, b, m⟩) ((metL K left).map (fun p => eK (reA A p))))) (hk : Keep (fun z => z = N) w1 w2) :
    ∃ lab' A', Cp w2 N F lab' A' (metL K (fun z => left z && !z.sameKey (.int .i64 x))) := by
  have f4 := h.f4
  have hx : ∀ p ∈ metL K left, p.1 ≠ x := fun p hp q => by have := (met_mem hp).2; rw [q, hl] at this; cases this
  refine ⟨fun z => if z < w.heap.size then lab z else 10 + 2 * x.toNat, fun z => if z = x then (b, m) else A z, ?_⟩
  have hc1 := h.below b1
  have key : metL K (fun z => left z && !z.sameKey (.int .i64 x)) = putM x lm (metL K left) := (met_put hu left hg).symm
  have hmem : ∀ p ∈ metL K (fun z => left z && !z.sameKey (.int .i64 x)), p = (x, lm) ∨ p ∈ metL K left := fun p hp => by rw [key] at hp; exact mem_putM hp
  refine ⟨hc1.box.keep hk (by omega), ?_, fun p hp => ?_, h.f4, fun p hp => ?_, fun p hp => ?_, ?_⟩
  · have e : (metL K (fun z => left z && !z.sameKey (.int .i64 x))).map (fun p => eK (reA (fun z => if z = x then (b, m) else A z) p)) = putM x (entV ⟨lm.c, b, m⟩) ((metL K left).map (fun p => eK (reA A p))) := by
      rw [← map_reA (A' := fun z => if z = x then (b, m) else A z) (fun p hp => if_neg (hx p hp))]
      have hu2 : Up (K.map (fun p => eK (reA (fun z => if z = x then (b, m) else A z) p))) := by
        unfold Up
        rw [List.pairwise_map]
        exact hu
      have hg2 : getM (K.map (fun p => eK (reA (fun z => if z = x then (b, m) else A z) p))) x = some (entV ⟨lm.c, b, m⟩) := by
        have hm2 : (x, entV ⟨lm.c, b, m⟩) ∈ K.map (fun p => eK (reA (fun z => if z = x then (b, m) else A z) p)) := List.mem_map.2 ⟨(x, lm), getM_mem hg, by simp [eK, reA]⟩
        exact getM_of_mem hu2 hm2
      have := met_put hu2 left hg2
      rw [metL_map (fun p => eK (reA (fun z => if z = x then (b, m) else A z) p)) (fun _ => rfl) K left, metL_map (fun p => eK (reA (fun z => if z = x then (b, m) else A z) p)) (fun _ => rfl) K (fun z => left z && !z.sameKey (.int .i64 x))] at this
      exact this.symm
    rw [e]
    exact cm
  · rcases hmem p hp with rfl | q
    · simp only [if_true]
      exact pe.keep hk (by omega) (by omega)
    · have := hx p q
      simp only [if_neg this]
      have h1 := h.lo p q
      exact (hc1.esc p q).keep hk (by omega) (by omega)
  · rcases hmem p hp with rfl | q
    · simp only [if_true]; omega
    · have := hx p q
      simp only [if_neg this]
      exact h.lo p q
  · rcases hmem p hp with rfl | q
    · simp only [if_true]
      rw [if_neg (by omega), if_neg (by omega)]
      exact ⟨rfl, rfl⟩
    · have := hx p q
      have lt := (h.esc p q).lts
      simp only [if_neg this]
      rw [if_pos lt.1, if_pos lt.2]
      exact h.lb p q
  · have := h.l0
    rw [if_pos (by omega), if_pos (by omega), if_pos (by omega), if_pos (by omega)]
    exact this
end Go.Proofs.YtaohdmaenplbpaaGreat
