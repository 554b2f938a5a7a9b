import Derived.Test.YtakjpljpdlhicabDoorPg22
namespace Go.Proofs.YtakjpljpdlhicabDoor
open Go.RowKit Go.QK Go.Pg
set_option maxRecDepth 100000
theorem pow8 (i : Nat) (h : i < 8) : IntKind.u8.wrap ((2 : Int) ^ i) = ((2 ^ i : Nat) : Int) ∧ 2 ^ i < 256 := by
  have hc : i = 0 ∨ i = 1 ∨ i = 2 ∨ i = 3 ∨ i = 4 ∨ i = 5 ∨ i = 6 ∨ i = 7 := by omega
  rcases hc with rfl | rfl | rfl | rfl | rfl | rfl | rfl | rfl <;> exact ⟨by rw [IntKind.wrap_u8]; rfl, by decide⟩
end Go.Proofs.YtakjpljpdlhicabDoor
