import Derived.Test.YtaohdmaenplbpaaGreatLdAD
import Derived.Test.YtaohdmaenplbpaaGreatEc12
set_option linter.all false
namespace Go.Proofs.YtaohdmaenplbpaaGreat
open Go.RowKit Go.QK Quota Go.Maps
set_option maxRecDepth 100000

set_option maxHeartbeats 1000000 in
theorem sum_w (y z : Int) (w : World) (hy : Bd y) (hz : Bd z) : Calls Tryz.prog 92 #[wd y, wd z] w fun r w' => r = .returned (wd (y + z)) ∧ Below w.heap.size w w' := by
  have a2 := and32 (wl y + wl z)
  have w1 : wrap64 (wl y + wl z) = wl y + wl z := wrapI (by unfold wl I64; omega)
  have w2 : wrap64 (wh y + wh z) = wh y + wh z := wrapI (by unfold Bd at hy hz; unfold wh I64; omega)
  have w3 : wrap64 (wh y + wh z + (wl y + wl z) / 4294967296) = wh (y + z) := by
    rw [wrapI (by unfold Bd at hy hz; unfold wh wl I64; omega)]
    unfold wh wl; omega
  have e4 : wl (y + z) = (wl y + wl z) % 4294967296 := by unfold wl; omega
  rw [← e4] at a2
  clear e4 hy hz
  go_enter Tryz.func92, Tryz.ntmps92
  go_wp2_with fail
  refine bodyPost_ret (v := wd (y + z)) (by simp [results, Tryz.results92, go_sem, w1, w2, w3]) rfl ⟨rfl, ?_⟩
  exact ((alloc_below _ _).alloc (by simp) _).alloc (by simp; omega) _

theorem or32 {z : Int} (h : I64 z) : bits .or .i64 (wrap64 (wh z * 4294967296)) (wl z) = z := by
  have h1 : wrap64 (wh z * 4294967296) = wh z * 4294967296 := wrapI (by unfold I64 at *; unfold wh; omega)
  rw [h1]
  have e1 : (BitVec.ofInt 64 (wh z * 4294967296)).toNat = ((z / 4294967296) % 4294967296).toNat * 2 ^ 32 := by
    rw [BitVec.toNat_ofInt]
    unfold wh
    omega
  have e2 : (BitVec.ofInt 64 (wl z)).toNat = (z % 4294967296).toNat := by
    rw [BitVec.toNat_ofInt]
    unfold wl
    omega
  show IntKind.i64.wrap ((BitVec.ofInt 64 (wh z * 4294967296) ||| BitVec.ofInt 64 (wl z)).toNat : Int) = _
  rw [BitVec.toNat_or, e1, e2, Nat.mul_comm, ← Nat.two_pow_add_eq_or_of_lt (by omega), IntKind.wrap_i64]
  unfold I64 at h
  omega

set_option maxHeartbeats 1000000 in
theorem int_w (z : Int) (w : World) (h : I64 z) : Calls Tryz.prog 109 #[wd z] w fun r w' => r = .returned (.int .i64 z) ∧ Below w.heap.size w w' := by
  have o := or32 h
  clear h
  go_enter Tryz.func109, Tryz.ntmps109
  go_wp2_with fail
  go_ret
  exact ⟨rfl, alloc_below _ _⟩
end Go.Proofs.YtaohdmaenplbpaaGreat
