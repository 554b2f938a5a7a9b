import Derived.Test.YtakjpljpdlhicaaDoorPg8
namespace Go.Proofs.YtakjpljpdlhicaaDoor
open Go.RowKit Go.QK Go.Pg
set_option maxRecDepth 100000
set_option maxHeartbeats 4000000 in
theorem headOf_any (p : PageM) (t : At) (w : World) (h1 : p.cs.length ≤ 1000) (h2 : p.gs.length ≤ 1000) :
    Calls Tryd.prog 53 #[pageV p t] w fun e w' => e = .returned (head7 113 (kindOf p) (un p.num) (countOf p) 0 (un p.lsn) 0) ∧ Below w.heap.size w w' := by
  obtain ⟨num, lsn, cs, gs⟩ := p
  obtain ⟨ta, tc, tb, td⟩ := t
  simp only [pageV, kindOf, countOf] at *
  have e1 := wrap_un num
  have e2 := wrap_un lsn
  generalize un num = un1 at *
  generalize un lsn = un2 at *
  generalize cs.length = n at *
  generalize gs.length = m at *
  have e3 : IntKind.u64.wrap (n : Int) = (n : Int) := by rw [IntKind.wrap_u64]; omega
  have e4 : IntKind.u64.wrap (m : Int) = (m : Int) := by rw [IntKind.wrap_u64]; omega
  by_cases h : 0 < m
  · have hd : decide ((0 : Int) < (m : Int)) = true := by simp; omega
    rw [if_pos h, if_pos h]
    go_enter Tryd.func53, Tryd.ntmps53
    go_upto_region 3 with fail
    go_region
    all_goals go_wp2_with fail
    all_goals refine bodyPost_ret (v := head7 113 2 un1 m 0 un2 0) (by simp [results, Tryd.results53, go_sem]) rfl ⟨rfl, ?_⟩
    all_goals exact ((((Below.refl _ _).alloc (Nat.le_refl _) _).alloc (by simp) _).alloc (by simp; omega) _).drew
  · obtain rfl : m = 0 := by omega
    go_enter Tryd.func53, Tryd.ntmps53
    go_wp2_with fail
    refine bodyPost_ret (v := head7 113 1 un1 n 0 un2 0) (by simp [results, Tryd.results53, go_sem]) rfl ⟨rfl, ?_⟩
    exact (((Below.refl _ _).alloc (Nat.le_refl _) _).alloc (by simp) _).alloc (by simp; omega) _
end Go.Proofs.YtakjpljpdlhicaaDoor
