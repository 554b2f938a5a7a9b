import Derived.Test.YtlloppalagddnaaSr3
import Derived.Test.YtlloppalagddnaaSrH
set_option linter.all false
namespace Go.Proofs.Ytlloppalagddnaa
open Go.RowKit Go.QK Quota Go.Maps Go.QM Go.QS
set_option maxRecDepth 100000

set_option maxHeartbeats 1000000 in
theorem ins_nil (w : World) : Calls Try.prog 84 #[.slice none 0 0, .int .i64 0, .int .i64 0, .func (.func 62) #[] #[]] w fun r w' => r = .returned (.tuple #[]) ∧ w' = w := by
  go_enter Try.func84, Try.ntmps84
  go_wp2_with fail
  go_loopw [8] (fun v wr => v = .int .i64 1 ∧ wr = w) (fun _ _ => 0)
  case atStart => exact ⟨rfl, rfl⟩
  case round =>
    obtain ⟨rfl, rfl⟩ := hrel
    go_wp2_with fail
    go_end0
    exact ⟨rfl, rfl⟩
set_option maxHeartbeats 1000000 in
theorem len64_nil (w : World) : Calls Try.prog 83 #[.int .u64 0] w fun r w' => r = .returned (.int .i64 0) ∧ w' = w := by
  go_enter Try.func83, Try.ntmps83
  go_wp2_with fail
  go_ret
  refine ⟨?_, rfl⟩
  show Ending.returned (Value.int .i64 (wrap64 (wrap64 (Go.Lib.len8 0)))) = _
  rw [show wrap64 (wrap64 (Go.Lib.len8 0)) = 0 by kernel_rfl]
set_option maxHeartbeats 1000000 in
theorem bitslen_nil (w : World) : Calls Try.prog 70 #[.int .u64 0] w fun r w' => r = .returned (.int .i64 0) ∧ w' = w := by
  have K := len64_nil w
  go_enter Try.func70, Try.ntmps70
  go_wp2_with fail
  refine K.mono ?_
  rintro r w1 ⟨rfl, rfl⟩
  clear K
  go_wp2_with fail
  go_ret
  exact ⟨rfl, rfl⟩
set_option maxHeartbeats 2000000 in
theorem pdq_nil (w : World) : Calls Try.prog 71 #[.slice none 0 0, .int .i64 0, .int .i64 0, .int .i64 0, .func (.func 62) #[] #[]] w fun r w' => r = .returned (.tuple #[]) ∧ w' = w := by
  have K := ins_nil w
  go_enter Try.func71, Try.ntmps71
  go_wp2_with fail
  go_loopw [1, 2, 3, 10, 11] (fun a b c d e wr => a = .int .i64 0 ∧ b = .int .i64 0 ∧ c = .int .i64 0 ∧ wr = w) (fun _ _ _ _ _ _ => 0)
  case atStart => exact ⟨rfl, rfl, rfl, rfl⟩
  case round =>
    obtain ⟨rfl, rfl, rfl, rfl⟩ := hrel
    go_wp2_with fail
    refine K.mono ?_
    rintro r w1 ⟨rfl, rfl⟩
    clear K
    go_wp2_with fail
    refine bodyPost_ret (v := .tuple #[]) (by simp [results, Try.results71, go_sem]) rfl ⟨rfl, rfl⟩
set_option maxHeartbeats 1000000 in
theorem sort_nil (w : World) : Calls Try.prog 61 #[.slice none 0 0, .func (.func 62) #[] #[]] w fun r w' => r = .returned (.tuple #[]) ∧ w' = w := by
  have K1 := bitslen_nil w
  have K2 := pdq_nil w
  go_enter Try.func61, Try.ntmps61
  go_wp2_with fail
  refine K1.mono ?_
  rintro r w1 ⟨rfl, rfl⟩
  clear K1
  go_wp2_with fail
  refine K2.mono ?_
  rintro r w1 ⟨rfl, rfl⟩
  clear K2
  go_wp2_with fail
  go_end0
  exact ⟨rfl, rfl⟩
end Go.Proofs.Ytlloppalagddnaa
