import Derived.Test.YtokcocmenndlmaaTx27
namespace Go.Proofs.Ytokcocmenndlmaa
open Go.RowKit Go.QK Go.Maps Go.QM Go.QT
set_option maxRecDepth 100000
set_option maxHeartbeats 2000000 in
/-- No table: nothing changes. -/
theorem begins_no (t i : Nat) (e : Int) (w : World) : Calls Try.prog 20 #[ptr t, .int .i64 (i : Int), .pointer none, .int .i64 e, .pointer none, .int .i64 e] w fun r w' => r = .returned (.bool true) ∧ w = w' := by
  have K := fun w' => num_eq e w'
  go_enter Try.func20, Try.ntmps20
  go_wp2
  go_ret
  exact ⟨rfl, rfl⟩
set_option maxHeartbeats 4000000 in
theorem begins_yes (t i b c : Nat) (xs : List Value) (w : World) (h : Cells w t xs) (hl : 6 = xs.length) (hi : i < 2) : Calls Try.prog 20 #[ptr t, .int .i64 (i : Int), ptr b, .int .i64 0, ptr c, .int .i64 0] w fun r w' => r = .returned (.bool true) ∧ w' = (w.setCell ⟨t, i, none⟩ (ptr b)).setCell ⟨t, 2 + i, none⟩ (ptr c) := by
  have K := fun w' => num_eq 0 w'
  obtain ⟨x0, x1, x2, x3, x4, x5, rfl⟩ : ∃ x0 x1 x2 x3 x4 x5, xs = [x0, x1, x2, x3, x4, x5] := by
    match xs, hl with
    | [x0, x1, x2, x3, x4, x5], _ => exact ⟨_, _, _, _, _, _, rfl⟩
  obtain ⟨k0, f0⟩ := h.get 0 _ rfl
  obtain ⟨k1, f1⟩ := h.get 1 _ rfl
  obtain ⟨k2, f2⟩ := h.get 2 _ rfl
  obtain ⟨k3, f3⟩ := h.get 3 _ rfl
  have P1 := fun (w' : World) => (ptr_nil b 27 (.inl rfl) w').1
  have P2 := fun (w' : World) => (ptr_nil c 65 (.inr rfl) w').1
  have P3 := fun (w' : World) => (ptr_nil c 65 (.inr rfl) w').2
  clear h
  rcases (show i = 0 ∨ i = 1 by omega) with rfl | rfl
  · go_enter Try.func20, Try.ntmps20
    go_wp2
    go_ret
    exact ⟨rfl, rfl⟩
  · go_enter Try.func20, Try.ntmps20
    go_wp2
    go_ret
    exact ⟨rfl, rfl⟩
end Go.Proofs.Ytokcocmenndlmaa
