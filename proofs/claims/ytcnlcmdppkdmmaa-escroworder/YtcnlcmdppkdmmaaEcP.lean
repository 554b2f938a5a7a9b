import Derived.Test.YtcnlcmdppkdmmaaEcO
namespace Go.Proofs.Ytcnlcmdppkdmmaa
open Go.ChangeShapes Go.WideShapes Go.ChangeAt Go.RowKit Go.Joins Go.QK Quota
set_option maxRecDepth 100000
variable {H : Type} {enc : TypeId × Value → H} {W : World}

theorem cells4 : Try.prog.cellsOf 4 = 1 := by kernel_rfl
theorem rowsC_bools (ws : List Bool) : rowsC (fun b => [Value.bool b]) ws = ws.map Value.bool := by
  unfold rowsC
  induction ws with
  | nil => rfl
  | cons b r ih => rw [List.flatMap_cons, ih]; rfl
theorem open_bools {fuel : Nat} {v : Value} {x : DataW H × List MemPlace} (hf : DataW.trod enc Try.prog W 0 (fun _ => true) true fuel 47 [v] = some x) :
    ∃ (a : Option Addr) (ws : List Bool) (c : Nat), v = .slice a ws.length c ∧ Lies W a (ws.map Value.bool) ∧ ws.length ≤ 9223372036854775807 := by
  obtain ⟨a, ws, c, h1, h2, _, h4⟩ := open_rows (fun b => [Value.bool b]) (fun _ => True) Try.underlying47 cells4 (by decide) (fun _ => rfl) (fun h => by
    obtain ⟨b, hb, _⟩ := DataW.trod_bool Try.underlying4 h
    exact ⟨b, hb, trivial⟩) hf
  rw [rowsC_bools] at h2
  exact ⟨a, ws, c, h1, h2, by unfold maxLen at h4; omega⟩
end Go.Proofs.Ytcnlcmdppkdmmaa
