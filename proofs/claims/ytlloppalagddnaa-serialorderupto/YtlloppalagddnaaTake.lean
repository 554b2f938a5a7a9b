import Derived.Deep.RegionHeld
namespace Go.QK
section
variable {P : Program} {ops : Array Oper} {Q : Exit → Act → World → Prop} {md : Region.Mode} {S : World → Prop}

/-- 'wpAnyH_take' at an operation that is carried out, with the slot that it writes named outright. -/
theorem take_at (i : Nat) (d : Option Nat) {oi : Oper} {v : Value} {fuel : Nat} {listed : Array Bool} {t : Array Value} {w : World} (hi : ops[i]? = some oi) (hd : oi.dst = d)
    (hs : Region.noSelect ops = true) (hf : Region.free md ops listed i = true) (hr : (Region.ready md ops listed).contains i = true)
    (hQ : ∀ c a w, Q (.panic c) (a.put d v) w → Q (.panic c) a w)
    (hy : Region.wanted oi (yielded ops t) = true ∧ ∀ w, S w → (execOp (Act.eval { tmps := t, defers := [] }) oi).run P w = .ok (.value v) w) (hS : S w)
    (h : wpAnyH P md ops Q S fuel (listed.setIfInBounds i true) (Act.put { tmps := t, defers := [] } d v) w) : wpAnyH P md ops Q S (fuel + 1) listed { tmps := t, defers := [] } w := by
  subst hd
  exact wpAnyH_take hi hs hf hr hQ (Or.inl hy) hS h

/-- The same at one whose guard says no. -/
theorem pass_at (i : Nat) (d : Option Nat) {oi : Oper} {fuel : Nat} {listed : Array Bool} {t : Array Value} {w : World} (hi : ops[i]? = some oi) (hd : oi.dst = d)
    (hs : Region.noSelect ops = true) (hf : Region.free md ops listed i = true) (hr : (Region.ready md ops listed).contains i = true)
    (hQ : ∀ c a w, Q (.panic c) (a.put d undef) w → Q (.panic c) a w)
    (hy : Region.wanted oi (yielded ops t) = false) (hS : S w)
    (h : wpAnyH P md ops Q S fuel (listed.setIfInBounds i true) (Act.put { tmps := t, defers := [] } d undef) w) : wpAnyH P md ops Q S (fuel + 1) listed { tmps := t, defers := [] } w := by
  subst hd
  exact wpAnyH_take hi hs hf hr hQ (Or.inr ⟨hy, rfl⟩) hS h
end
end Go.QK
