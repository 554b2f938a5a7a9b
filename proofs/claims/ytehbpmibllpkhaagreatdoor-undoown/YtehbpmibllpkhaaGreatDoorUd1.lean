import Derived.Test.YtehbpmibllpkhaaGreatDoorUdR
set_option linter.all false
namespace Go.Proofs.YtehbpmibllpkhaaGreatDoor
open Go.RowKit Go.QK Go.Maps Go.QM Go.QU
set_option maxRecDepth 100000
set_option maxHeartbeats 8000000 in
theorem plain_true (r : RZ) (w : World) : Calls Tryz.prog 23 #[.agg (rzA r), .agg (rzA r)] w fun e w' => e = .returned (.bool true) ∧ Below w.heap.size w w' := by
  obtain ⟨lsn, kind, tx, prev, wp, wi, sp, si, delta, id, grp, lo, hi, val, la, nl, lc, da, nd, dc, nx⟩ := r
  simp only [rzA]
  go_enter Tryz.func23, Tryz.ntmps23
  go_wp2_with fail
  go_ret
  exact ⟨by simp, (Below.refl _ _).alloc (Nat.le_refl _) _ |>.alloc (by simp) _⟩
end Go.Proofs.YtehbpmibllpkhaaGreatDoor
