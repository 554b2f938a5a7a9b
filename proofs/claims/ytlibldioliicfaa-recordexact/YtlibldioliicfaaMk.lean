import Derived.Test.YtlibldioliicfaaChk2
import Derived.Test.YtlibldioliicfaaLit
namespace Go.Proofs.Ytlibldioliicfaa
open Go.RowKit Go.QK
set_option maxRecDepth 100000
theorem tmod_range (n m : Int) (hm : 0 < m) : -m < n.tmod m ∧ n.tmod m < m := by
  have h1 := Int.lt_tmod_of_pos n hm
  have h2 := Int.tmod_lt_of_pos n hm
  exact ⟨h1, h2⟩
theorem tmod_pos (n m : Int) (hn : 0 ≤ n) (hm : 0 < m) : 0 ≤ n.tmod m ∧ n.tmod m < m := ⟨Int.tmod_nonneg m hn, Int.tmod_lt_of_pos n hm⟩
theorem rest_any (n lo hi : Int) (w : World) (h1 : -1 ≤ lo) (h2 : lo ≤ hi) (h3 : hi ≤ 2147483648) :
    Calls Try.prog 16 #[.int .i64 n, .int .i64 lo, .int .i64 hi] w fun e w' => ∃ x, e = .returned (.int .i64 x) ∧ (lo ≤ x ∧ x ≤ hi) ∧ w' = w := by
  obtain ⟨m, hm⟩ : ∃ m, m = hi - lo + 1 := ⟨_, rfl⟩
  have e1 : IntKind.i64.wrap (hi - lo) = hi - lo := by rw [IntKind.wrap_i64]; omega
  have e2 : IntKind.i64.wrap (hi - lo + 1) = m := by rw [IntKind.wrap_i64]; omega
  have m0 : ¬ m = 0 := by omega
  obtain ⟨x, hx⟩ : ∃ x, x = n.tmod m := ⟨_, rfl⟩
  have hxr := tmod_range n m (by omega)
  rw [← hx] at hxr
  have e3 : IntKind.i64.wrap x = x := by rw [IntKind.wrap_i64]; omega
  have e4 : IntKind.i64.wrap (x + m) = x + m := by rw [IntKind.wrap_i64]; omega
  obtain ⟨y, hy⟩ : ∃ y, y = (x + m).tmod m := ⟨_, rfl⟩
  have hyr := tmod_pos (x + m) m (by omega) (by omega)
  rw [← hy] at hyr
  have e5 : IntKind.i64.wrap y = y := by rw [IntKind.wrap_i64]; omega
  have e6 : IntKind.i64.wrap (lo + y) = lo + y := by rw [IntKind.wrap_i64]; omega
  have HR := hide (show lo ≤ lo + y ∧ lo + y ≤ hi by omega)
  have hx' := hx.symm
  have hy' := hy.symm
  clear hx hy hm h1 h2 h3 hxr hyr
  go_enter Try.func16, Try.ntmps16
  go_wp2_with fail
  go_ret
  exact ⟨lo + y, rfl, HR.out, rfl⟩
end Go.Proofs.Ytlibldioliicfaa
