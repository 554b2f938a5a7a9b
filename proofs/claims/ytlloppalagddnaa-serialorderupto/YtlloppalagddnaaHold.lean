import Derived.Test.YtlloppalagddnaaTake
namespace Go.QK
variable {P : Program} {ops : Array Oper} {Q : Exit → Act → World → Prop} {md : Region.Mode} {S S' : World → Prop}
/-- In the midst of a region the condition may be made stronger. -/
theorem wpAnyH_stronger (h : ∀ w, S' w → S w) : (fuel : Nat) → (listed : Array Bool) → (a : Act) → (w : World) → wpAnyH P md ops Q S' fuel listed a w → wpAnyH P md ops Q S fuel listed a w
  | 0, _, _, _, k => k
  | fuel + 1, _, _, _, k => ⟨k.1, fun i hi => wpOp_mono (fun a' w' k' => ⟨h _ k'.1, wpAnyH_stronger h fuel _ a' w' k'.2⟩) (k.2 i hi)⟩
theorem hold_more (S' : World → Prop) {fuel : Nat} {listed : Array Bool} {a : Act} {w : World} (h : ∀ w, S' w → S w) (hS : S' w) (k : S' w → wpAnyH P md ops Q S' fuel listed a w) : wpAnyH P md ops Q S fuel listed a w := wpAnyH_stronger h _ _ _ _ (k hS)
end Go.QK
