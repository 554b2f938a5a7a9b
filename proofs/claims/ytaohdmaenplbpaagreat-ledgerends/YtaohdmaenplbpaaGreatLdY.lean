import Derived.Test.YtaohdmaenplbpaaGreatLdX
set_option linter.all false
namespace Go.Proofs.YtaohdmaenplbpaaGreat
open Go.RowKit Go.QK Quota Go.Maps Go.QM
set_option maxRecDepth 100000
theorem Cp.relab {w : World} {N F : Nat} {lab lab' : Nat → Nat} {A : Int → Nat × Nat} {M : Prs Lm} (h : Cp w N F lab A M) (hN : F ≤ w.heap.size) (hl : ∀ z, z < w.heap.size → lab' z = lab z) : Cp w N F lab' A M :=
  ⟨h.box, h.cm, h.esc, h.f4, h.lo, fun p hp => by have q := (h.esc p hp).lts; rw [hl _ q.1, hl _ q.2]; exact h.lb p hp, by have f4 := h.f4; rw [hl _ (by omega), hl _ (by omega), hl _ (by omega), hl _ (by omega)]; exact h.l0⟩
theorem Cp.keep {w w' : World} {N F : Nat} {lab : Nat → Nat} {A : Int → Nat × Nat} {M : Prs Lm} {S : Nat → Prop} (h : Cp w N F lab A M) (hk : Keep S w w') (h0 : ¬ S N) (h3 : ¬ S (N + 3)) (hs : ∀ z, F ≤ z → ¬ S z) : Cp w' N F lab A M :=
  ⟨h.box.keep hk h3, anyAt_keep h.cm hk h0, fun p hp => (h.esc p hp).keep hk (hs _ (h.lo p hp).1) (hs _ (h.lo p hp).2), h.f4, h.lo, h.lb, h.l0⟩
/-- The lists that transactions hold, copied. -/
structure Cd (w : World) (N F : Nat) (lab : Nat → Nat) (V : Int → Value) (M : Prs (Value × List Int)) : Prop where
  hm : AnyAt Tryz.prog 3 w (N + 2) (M.map (fun p => (p.1, V p.1)))
  own : ∀ p ∈ M, Owns .i64 3 w N (V p.1) p.2.2 ∧ (V p.1).ownBlock ≠ none ∧ ∀ g, (V p.1).ownBlock = some g → F ≤ g ∧ lab g = 11 + 2 * p.1.toNat
theorem Cd.below {w w' : World} {N F : Nat} {lab : Nat → Nat} {V : Int → Value} {M : Prs (Value × List Int)} (h : Cd w N F lab V M) (hb : Below w.heap.size w w') : Cd w' N F lab V M := ⟨anyAt_below h.hm hb, fun p hp => ⟨(h.own p hp).1.below hb, (h.own p hp).2⟩⟩
theorem metD_mem {L : Prs (Value × List Int)} {left : Lit → Bool} {p : Int × Value × List Int} (h : p ∈ metL L left) : p ∈ L ∧ left (.int .i64 p.1) = false := by
  unfold metL at h
  obtain ⟨h1, h2⟩ := List.mem_filter.1 h
  exact ⟨h1, by simpa using h2⟩
theorem Cd.more {w w1 w2 : World} {N F : Nat} {lab : Nat → Nat} {V : Int → Value} {D : Prs (Value × List Int)} {left : Lit → Bool} (h : Cd w N F lab V (metL D left)) (hu : Up D) {x : Int} {d : Value × List Int} (hg : getM D x = some d) (hl : left (.int .i64 x) = true) {v : Value} (ow : Owns .i64 3 w1 w.heap.size v d.2) (hv : v.ownBlock ≠ none) (b1 : Below w.heap.size w w1) (f4 : N + 4 ≤ F) (hN : F ≤ w.heap.size)
    (hm : AnyAt Tryz.prog 3 w2 (N + 2) (putM x v ((metL D left).map (fun p => (p.1, V p.1))))) (hk : Keep (fun z => z = N + 2) w1 w2) :
    Cd w2 N F (fun z => if z < w.heap.size then lab z else 11 + 2 * x.toNat) (fun z => if z = x then v else V z) (metL D (fun z => left z && !z.sameKey (.int .i64 x))) := by
  have hx : ∀ p ∈ metL D left, p.1 ≠ x := fun p hp q => by have := (metD_mem hp).2; rw [q, hl] at this; cases this
  have key : metL D (fun z => left z && !z.sameKey (.int .i64 x)) = putM x d (metL D left) := (met_put hu left hg).symm
  have hmem : ∀ p ∈ metL D (fun z => left z && !z.sameKey (.int .i64 x)), p = (x, d) ∨ p ∈ metL D left := fun p hp => by rw [key] at hp; exact mem_putM hp
  have hc1 := h.below b1
  refine ⟨?_, fun p hp => ?_⟩
  · have e0 : (metL D left).map (fun p => (p.1, (fun z => if z = x then v else V z) p.1)) = (metL D left).map (fun p => (p.1, V p.1)) := by
      apply List.map_congr_left
      intro p hp
      simp only [if_neg (hx p hp)]
    have hu2 : Up (D.map (fun p => (p.1, (fun z => if z = x then v else V z) p.1))) := by
      unfold Up
      rw [List.pairwise_map]
      exact hu
    have hg2 : getM (D.map (fun p => (p.1, (fun z => if z = x then v else V z) p.1))) x = some v := by
      have hm2 : (x, v) ∈ D.map (fun p => (p.1, (fun z => if z = x then v else V z) p.1)) := List.mem_map.2 ⟨(x, d), getM_mem hg, by simp⟩
      exact getM_of_mem hu2 hm2
    have q := met_put hu2 left hg2
    rw [metL_map (fun p : Int × Value × List Int => (p.1, (fun z => if z = x then v else V z) p.1)) (fun _ => rfl) D left, metL_map (fun p : Int × Value × List Int => (p.1, (fun z => if z = x then v else V z) p.1)) (fun _ => rfl) D (fun z => left z && !z.sameKey (.int .i64 x)), e0] at q
    rw [← q]
    exact hm
  · rcases hmem p hp with rfl | q
    · simp only [if_true]
      refine ⟨?_, hv, fun g hg2 => ?_⟩
      · have := ow.keep hk (fun g hg2 z => by have := (World.ownsRow.lt ow g hg2).1; omega)
        exact ⟨this.1, (GRow.mono this (show N ≤ w.heap.size by omega)).2⟩
      · have := (World.ownsRow.lt ow g hg2).1
        rw [if_neg (by omega)]
        exact ⟨by omega, rfl⟩
    · have hne := hx p q
      have ho := hc1.own p q
      simp only [if_neg hne]
      refine ⟨ho.1.keep hk (fun g hg2 z => by have := (ho.2.2 g hg2).1; omega), ho.2.1, fun g hg2 => ?_⟩
      have lt := (World.ownsRow.lt (h.own p q).1 g hg2).2
      rw [if_pos lt]
      exact ho.2.2 g hg2
def Led.copied (l : Led) (N : Nat) (A : Int → Nat × Nat) (V : Int → Value) : Led := ⟨N + 3, N, N + 1, N + 2, l.K.map (reA A), l.G, l.D.map (fun p => (p.1, (V p.1, p.2.2)))⟩
theorem copied_ctrs (l : Led) (N : Nat) (A : Int → Nat × Nat) (V : Int → Value) : (l.copied N A V).ctrs = l.ctrs := by
  unfold Led.copied Led.ctrs
  simp only [List.map_map]
  rfl
theorem copied_helds (l : Led) (N : Nat) (A : Int → Nat × Nat) (V : Int → Value) : (l.copied N A V).helds = l.helds := by
  unfold Led.copied Led.helds
  simp only [List.map_map]
  rfl
theorem copied_PL {lab0 lab : Nat → Nat} {B N F F2 : Nat} {w0 w : World} {l : Led} {A : Int → Nat × Nat} {V : Int → Value} (h : PL lab0 B w0 l) (cp : Cp w N F lab A l.K) (gm : AnyAt Tryz.prog 3 w (N + 1) (l.G.map (fun p => (p.1, totV p.2)))) (cd : Cd w N F2 lab V l.D) : PL lab N w (l.copied N A V) := by
  have e1 := copied_ctrs l N A V
  have e2 := copied_helds l N A V
  refine ⟨cp.box, ?_, gm, ?_, ?_, ?_, by rw [e1]; exact h.ok, by rw [e1, e2]; exact h.hok, h.gup, by rw [e1]; exact h.grp, cp.l0.1, cp.l0.2.1, cp.l0.2.2.1, cp.l0.2.2.2, ?_, ?_, ?_⟩
  · have := cp.cm
    unfold Led.copied
    simp only [List.map_map]
    exact this
  · have := cd.hm
    unfold Led.copied
    simp only [List.map_map]
    exact this
  · intro p hp
    obtain ⟨q, hq, rfl⟩ := List.mem_map.1 hp
    exact cp.esc q hq
  · intro p hp
    obtain ⟨q, hq, rfl⟩ := List.mem_map.1 hp
    exact ⟨(cd.own q hq).1, (cd.own q hq).2.1⟩
  · intro p hp
    obtain ⟨q, hq, rfl⟩ := List.mem_map.1 hp
    exact cp.lb q hq
  · intro p hp g hg
    obtain ⟨q, hq, rfl⟩ := List.mem_map.1 hp
    exact ((cd.own q hq).2.2 g hg).2
  · refine ⟨by show N ≤ N + 3; omega, Nat.le_refl _, by show N ≤ N + 1; omega, by show N ≤ N + 2; omega, fun p hp => ?_⟩
    obtain ⟨q, hq, rfl⟩ := List.mem_map.1 hp
    have := cp.lo q hq
    have f4 := cp.f4
    show N ≤ (A q.1).1 ∧ N ≤ (A q.1).2
    omega
end Go.Proofs.YtaohdmaenplbpaaGreat
