import Derived.Test.YtoocbpbaieedmaaAp33
namespace Go.Proofs.Ytoocbpbaieedmaa
open Go.RowKit Go.QK Quota
set_option maxRecDepth 100000
set_option maxHeartbeats 4000000 in
theorem holds_any (S : Nat → Prop) (b K : Nat) (vs : List Value) (Rs : List (List Value)) (w : World) (h : BK w S b vs Rs K) (hK : ∀ (j : Nat) (R : List Value), Rs[j]? = some R → R.length = K) (hK2 : K ≤ 200) :
    Calls Try.prog 19 #[ptr b] w fun e w' => e = .returned (.bool true) ∧ w = w' := by
  have BA := hide (fun (k : Nat) (hk : k < K) => bears_any S b K k vs Rs w h hK hK2 hk)
  obtain ⟨v0, v1, v2, v3, v4, v5, rfl⟩ := six h.l1
  obtain ⟨R0, R1, R2, R3, R4, R5, rfl⟩ := six h.l2
  have r0 := hK 0 R0 rfl
  obtain ⟨p0, q0, e0, -⟩ := GRow.lies (h.row 0 v0 R0 rfl rfl)
  rw [r0] at e0
  subst e0
  obtain ⟨k0, -⟩ := h.box.get 0 _ rfl
  clear h hK r0
  go_enter Try.func19, Try.ntmps19
  go_wp2_with fail
  go_loop [3] (fun v => ∃ i : Nat, v = .int .i64 (i : Int) ∧ i ≤ K) (fun v => K - (intOf v).toNat)
  case atStart => exact ⟨0, rfl, Nat.zero_le _⟩
  case round =>
    obtain ⟨k, rfl, hk⟩ := hrel
    by_cases hlt : k < K
    · have C := BA.out k hlt
      go_wp2_with (go_at_call 29; refine C.mono ?_; rintro e w3 ⟨rfl, rfl⟩)
      go_round
      case rel => first | exact ⟨k + 1, by go_num, by omega⟩ | ((repeat apply Exists.intro); exact ⟨⟨k + 1, by go_num, by omega⟩, rfl⟩)
      case measure => simp [intOf]; omega
    · go_wp2_with fail
      go_ret
      exact ⟨rfl, rfl⟩
end Go.Proofs.Ytoocbpbaieedmaa
