import Derived.Test.YtakjpljpdlhicabDoorPg20
namespace Go.Proofs.YtakjpljpdlhicabDoor
open Go.RowKit Go.QK Go.Pg
set_option maxRecDepth 100000
theorem ctrE_made {y1 y2 lo hi val : Int} (h1 : 1 ≤ y1 ∧ y1 ≤ 1048576) (h2 : 1 ≤ y2 ∧ y2 ≤ 1048576) (h3 : lo ≤ hi) : ctrE ⟨y1, y2, lo, hi, val⟩ = 0 := by
  unfold ctrE
  rw [if_pos (by simp [okN]; omega), if_neg (by simp; omega)]
theorem grpE_made {y1 sm : Int} (h1 : 1 ≤ y1 ∧ y1 ≤ 1048576) : grpE ⟨y1, sm⟩ = 0 := by
  unfold grpE
  rw [if_pos (by simp [okN]; omega)]
end Go.Proofs.YtakjpljpdlhicabDoor
