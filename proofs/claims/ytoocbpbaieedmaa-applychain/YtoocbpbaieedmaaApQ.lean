import Derived.Test.YtoocbpbaieedmaaApO
import Derived.Test.YtoocbpbaieedmaaAp18
namespace Go.Proofs.Ytoocbpbaieedmaa
open Go.ChangeShapes Go.WideShapes Go.ChangeAt Go.RowKit Go.Deep Go.QK Go.Joins Quota
set_option maxRecDepth 100000
variable {H : Type} {enc : TypeId × Value → H} {W : World}
theorem open_recs {fuel : Nat} {v : Value} {x : DataW H × List MemPlace} (hf : DataW.trod enc Try.prog W 0 (fun _ => true) true fuel 53 [v] = some x) :
    ∃ (a : Option Addr) (ds : List Rc) (c : Nat), v = .slice a ds.length c ∧ Lies W a (rowsC recL ds) ∧ (∀ d ∈ ds, d.Fit ∧ Rc.One d) ∧ ds.length ≤ c := by
  obtain ⟨a, ds, c, h1, h2, h3, _, h5, _⟩ := open_rowsN recL (fun d => d.Fit ∧ Rc.One d) Try.underlying53 cells38 (by decide) (fun _ => rfl) (fun h => open_rec h) hf
  exact ⟨a, ds, c, h1, h2, h3, h5⟩
end Go.Proofs.Ytoocbpbaieedmaa
