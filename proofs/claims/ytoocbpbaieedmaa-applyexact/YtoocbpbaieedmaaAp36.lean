import Derived.Test.YtoocbpbaieedmaaAp35
import Derived.Test.YtoocbpbaieedmaaApT
import Derived.Test.YtoocbpbaieedmaaAp27
import Derived.Test.YtoocbpbaieedmaaAp29
namespace Go.Proofs.Ytoocbpbaieedmaa
open Go.RowKit Go.QK Quota
set_option maxRecDepth 100000
theorem grown_len (l : List Grp) (r : Rc) : (grown l r).length ≤ l.length + 1 := by
  unfold grown
  split <;> simp
theorem chg_len (p : Pg) (r : Rc) : (chgP p r).cs.length ≤ p.cs.length + 1 ∧ (chgP p r).gs.length ≤ p.gs.length + 1 := by
  unfold chgP
  split
  · unfold ctrP
    split
    · simp
    · simp [putV_len]
  · refine ⟨by simp [sumP], ?_⟩
    show (putS (grown p.gs r) r.si _).length ≤ _
    rw [putS_len]
    exact grown_len _ _
theorem do_len (p : Pg) (r : Rc) : (doP p r).cs.length ≤ p.cs.length + 1 ∧ (doP p r).gs.length ≤ p.gs.length + 1 := by
  unfold doP
  split
  · simp [none_]
  · split
    · exact ⟨by omega, by omega⟩
    · exact chg_len p r
theorem pages_len (r : Rc) : (pagesL r).length ≤ 2 := by
  unfold pagesL
  repeat' split
  all_goals simp
theorem cut_len (p : Pg) : (cutP p).cs.length ≤ 200 ∧ (cutP p).gs.length ≤ 200 := by
  unfold cutP
  refine ⟨?_, ?_⟩ <;> simp <;> omega
end Go.Proofs.Ytoocbpbaieedmaa
