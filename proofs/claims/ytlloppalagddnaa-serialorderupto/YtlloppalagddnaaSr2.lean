import Derived.Test.YtlloppalagddnaaSr1
set_option linter.all false
namespace Go.Proofs.Ytlloppalagddnaa
open Go.RowKit Go.QK Go.Maps Go.QM Go.QS Quota
set_option maxRecDepth 100000
def roOf (r : RZ) : Ro := ⟨r.kind, r.tx, r.delta, r.id⟩
theorem ret_chk {B : Nat} {w w' : World} {a b : Int} (h : a = b) (h2 : Below B w w') : (Ending.returned (.int .i64 a) = .returned (.int .i64 b)) ∧ Below B w w' := ⟨by rw [h], h2⟩
set_option maxHeartbeats 4000000 in
theorem chk_any (r : RZ) (w : World) : Calls Try.prog 51 #[.agg (rzA r)] w fun e w' => e = .returned (.int .i64 (chkR (roOf r))) ∧ Below w.heap.size w w' := by
  obtain ⟨lsn, kind, tx, prev, wp, wi, sp, si, delta, id, grp, lo, hi, val, la, nl, lc, da, nd, dc, nx⟩ := r
  unfold chkR roOf isTx isId
  simp only
  have ab := fun o => alloc_below w o
  by_cases k3 : kind = 3
  · subst k3
    by_cases t1 : tx < 1
    · go_enter Try.func51, Try.ntmps51
      go_wp2_with fail
      go_ret
      exact ret_chk (by simp <;> omega) (ab _)
    by_cases t2 : 2147483647 < tx
    · have e1 : ¬ tx < 1 := t1
      go_enter Try.func51, Try.ntmps51
      go_wp2_with fail
      go_ret
      exact ret_chk (by simp <;> omega) (ab _)
    by_cases c1 : id < 1
    · go_enter Try.func51, Try.ntmps51
      go_wp2_with fail
      go_ret
      exact ret_chk (by simp <;> omega) (ab _)
    by_cases c2 : 1048576 < id
    · go_enter Try.func51, Try.ntmps51
      go_wp2_with fail
      go_ret
      exact ret_chk (by simp <;> omega) (ab _)
    · go_enter Try.func51, Try.ntmps51
      go_wp2_with fail
      go_ret
      exact ret_chk (by simp <;> omega) (ab _)
  by_cases k4 : kind = 4
  · subst k4
    clear k3
    by_cases t1 : tx < 1
    · go_enter Try.func51, Try.ntmps51
      go_wp2_with fail
      go_ret
      exact ret_chk (by simp <;> omega) (ab _)
    by_cases t2 : 2147483647 < tx
    · go_enter Try.func51, Try.ntmps51
      go_wp2_with fail
      go_ret
      exact ret_chk (by simp <;> omega) (ab _)
    by_cases c1 : id < 1
    · go_enter Try.func51, Try.ntmps51
      go_wp2_with fail
      go_ret
      exact ret_chk (by simp <;> omega) (ab _)
    by_cases c2 : 1048576 < id
    · go_enter Try.func51, Try.ntmps51
      go_wp2_with fail
      go_ret
      exact ret_chk (by simp <;> omega) (ab _)
    · go_enter Try.func51, Try.ntmps51
      go_wp2_with fail
      go_ret
      exact ret_chk (by simp <;> omega) (ab _)
  by_cases k5 : kind = 5
  · subst k5
    clear k3 k4
    by_cases t1 : tx < 1
    · go_enter Try.func51, Try.ntmps51
      go_wp2_with fail
      go_ret
      exact ret_chk (by simp <;> omega) (ab _)
    by_cases t2 : 2147483647 < tx
    · go_enter Try.func51, Try.ntmps51
      go_wp2_with fail
      go_ret
      exact ret_chk (by simp <;> omega) (ab _)
    · go_enter Try.func51, Try.ntmps51
      go_wp2_with fail
      go_ret
      exact ret_chk (by simp <;> omega) (ab _)
  · have e3 : (kind == 3) = false := by simpa using k3
    have e4 : (kind == 4) = false := by simpa using k4
    have e5 : (kind != 5) = true := by simpa using k5
    rw [if_neg (by omega)]
    go_enter Try.func51, Try.ntmps51
    go_wp2_with fail
    go_ret
    exact ret_chk rfl (ab _)
end Go.Proofs.Ytlloppalagddnaa
