import Derived.Test.YtakjpljpdlhicaaDoorPg19
import Derived.Test.YtakjpljpdlhicaaDoorPgB
namespace Go.Proofs.YtakjpljpdlhicaaDoor
open Go.RowKit Go.QK Go.Pg
set_option maxRecDepth 100000
theorem pick_any (n lo hi : Int) (w : World) (h0 : 0 ≤ lo) (h1 : lo ≤ hi) (h2 : hi ≤ 2147483647) :
    Calls Tryd.prog 56 #[.int .i64 n, .int .i64 lo, .int .i64 hi] w fun e w' => ∃ y, e = .returned (.int .i64 y) ∧ (lo ≤ y ∧ y ≤ hi) ∧ w' = w := by
  obtain ⟨M, hM⟩ : ∃ M, M = hi - lo + 1 := ⟨_, rfl⟩
  have hM0 : ¬ M = 0 := by omega
  have d1 : IntKind.i64.wrap (hi - lo) = hi - lo := by rw [IntKind.wrap_i64]; omega
  have d2 : IntKind.i64.wrap (hi - lo + 1) = M := by rw [IntKind.wrap_i64, hM]; omega
  have r0 := Int.emod_nonneg n hM0
  have r1 := Int.emod_lt_of_pos n (show 0 < M by omega)
  obtain ⟨r, hr⟩ : ∃ r, r = n.tmod M := ⟨_, rfl⟩
  have hrb : -M < r ∧ r < M := by
    rw [hr, Int.tmod_eq_emod]
    split
    · omega
    · have : (M.natAbs : Int) = M := by omega
      omega
  have ht : n.tmod M = r := hr.symm
  have hov : ¬ (M = -1) := by omega
  by_cases hlt : r < 0
  · have dd : decide (r < 0) = true := by simp [hlt]
    have f1 : IntKind.i64.wrap (r + hi) = r + hi := by rw [IntKind.wrap_i64]; omega
    have f2 : IntKind.i64.wrap (r + hi - lo) = r + hi - lo := by rw [IntKind.wrap_i64]; omega
    obtain ⟨A, hA⟩ : ∃ A, A = r + hi - lo + 1 := ⟨_, rfl⟩
    have f3 : IntKind.i64.wrap (r + hi - lo + 1) = A := by rw [IntKind.wrap_i64, hA]; omega
    obtain ⟨Y, hY⟩ : ∃ Y, Y = lo + A := ⟨_, rfl⟩
    have f4 : IntKind.i64.wrap (lo + A) = Y := by rw [IntKind.wrap_i64, hY]; omega
    have HY := hide (show lo ≤ Y ∧ Y ≤ hi by omega)
    clear hA hY hr hrb r0 r1 hM h0 h1 h2
    go_enter Tryd.func56, Tryd.ntmps56
    go_wp2_with fail
    go_ret
    exact ⟨Y, rfl, HY.out, rfl⟩
  · have dd : decide (r < 0) = false := by simp [hlt]
    obtain ⟨Y, hY⟩ : ∃ Y, Y = lo + r := ⟨_, rfl⟩
    have f4 : IntKind.i64.wrap (lo + r) = Y := by rw [IntKind.wrap_i64, hY]; omega
    have HY := hide (show lo ≤ Y ∧ Y ≤ hi by omega)
    clear hY hr hrb r0 r1 hM h0 h1 h2
    go_enter Tryd.func56, Tryd.ntmps56
    go_wp2_with fail
    go_ret
    exact ⟨Y, rfl, HY.out, rfl⟩
end Go.Proofs.YtakjpljpdlhicaaDoor
