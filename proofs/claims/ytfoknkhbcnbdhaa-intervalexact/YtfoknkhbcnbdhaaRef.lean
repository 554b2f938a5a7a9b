import Derived.Test.YtfoknkhbcnbdhaaTurns
namespace Go.Proofs.Ytfoknkhbcnbdhaa
open Go.RowKit Quota

set_option maxHeartbeats 400000 in
theorem radd_any (a b : Int) (w : World) (ha : I64 a) (hb : I64 b) :
    Calls Try.prog 28 #[.int .i64 a, .int .i64 b] w fun e w' => e = .returned (.tuple #[.int .i64 (fitV (a + b)), .int .i64 (fitE (a + b))]) ∧ w = w' := by
  unfold I64 at ha hb
  by_cases h : I64 (a + b)
  · rw [(fit_yes h).1, (fit_yes h).2]
    unfold I64 at h
    by_cases p : 0 < b
    · go_enter Try.func28, Try.ntmps28
      go_wp2
      go_ret2
      exact ⟨rfl, rfl⟩
    · by_cases n : b < 0
      · go_enter Try.func28, Try.ntmps28
        go_wp2
        go_ret2
        exact ⟨rfl, rfl⟩
      · obtain rfl : b = 0 := by omega
        go_enter Try.func28, Try.ntmps28
        go_wp2
        go_ret2
        simp
  · rw [(fit_no h).1, (fit_no h).2]
    unfold I64 at h
    by_cases p : 0 < b
    · go_enter Try.func28, Try.ntmps28
      go_wp2
      go_ret2
      exact ⟨rfl, rfl⟩
    · have n : b < 0 := by omega
      go_enter Try.func28, Try.ntmps28
      go_wp2
      go_ret2
      exact ⟨rfl, rfl⟩

theorem least_neg {b : Int} (hb : I64 b) (h : ¬ b = -9223372036854775808) : I64 (-b) := by unfold I64 at *; omega

set_option maxHeartbeats 400000 in
theorem rsub_any (a b : Int) (w : World) (ha : I64 a) (hb : I64 b) :
    Calls Try.prog 29 #[.int .i64 a, .int .i64 b] w fun e w' => e = .returned (.tuple #[.int .i64 (fitV (a - b)), .int .i64 (fitE (a - b))]) ∧ w = w' := by
  by_cases q : b = -9223372036854775808
  · subst q
    unfold I64 at ha
    by_cases p : 0 ≤ a
    · have n : ¬ I64 (a - -9223372036854775808) := by unfold I64; omega
      rw [(fit_no n).1, (fit_no n).2]
      go_enter Try.func29, Try.ntmps29
      go_wp2
      go_ret2
      exact ⟨rfl, rfl⟩
    · have y : I64 (a - -9223372036854775808) := by unfold I64; omega
      rw [(fit_yes y).1, (fit_yes y).2]
      have e : a + 1 + 9223372036854775807 = a - -9223372036854775808 := by omega
      have E : Hid (a + 1 + 9223372036854775807 = a - -9223372036854775808) := e
      clear e
      go_enter Try.func29, Try.ntmps29
      go_wp2
      go_ret2
      rw [E.out]
      exact ⟨rfl, rfl⟩
  · have hb' := least_neg hb q
    have qb : (b != -9223372036854775808) = true := by simpa using q
    have K := radd_any a (-b) w ha hb'
    rw [show a + -b = a - b by omega] at K
    have wb : wrap64 (-b) = -b := by unfold I64 at hb'; unfold wrap64; omega
    clear q
    go_enter Try.func29, Try.ntmps29
    go_wp2_with fail
    refine K.mono ?_
    rintro e w' ⟨rfl, rfl⟩
    clear K
    go_wp2_with fail
    go_ret2
    exact ⟨rfl, rfl⟩

set_option maxHeartbeats 400000 in
theorem rneg_any (a : Int) (w : World) (ha : I64 a) :
    Calls Try.prog 30 #[.int .i64 a] w fun e w' => e = .returned (.tuple #[.int .i64 (fitV (-a)), .int .i64 (fitE (-a))]) ∧ w = w' := by
  have z0 : I64 0 := by unfold I64; omega
  have K := rsub_any 0 a w z0 ha
  rw [Int.zero_sub] at K
  go_enter Try.func30, Try.ntmps30
  go_wp2_with fail
  refine K.mono ?_
  rintro e w' ⟨rfl, rfl⟩
  clear K
  go_wp2_with fail
  go_ret2
  exact ⟨rfl, rfl⟩

set_option maxHeartbeats 400000 in
theorem rcheck_any (lo hi : Int) (w : World) : Calls Try.prog 33 #[rng lo hi] w fun r w' => r = .returned (.int .i64 (chkE lo hi)) ∧ Below w.heap.size w w' := by
  unfold chkE
  by_cases h : hi < lo
  · rw [if_pos h]
    go_enter Try.func33, Try.ntmps33
    go_wp2
    go_ret
    exact ⟨rfl, (Below.refl _ _).alloc (Nat.le_refl _) _⟩
  · rw [if_neg h]
    go_enter Try.func33, Try.ntmps33
    go_wp2
    go_ret
    exact ⟨rfl, (Below.refl _ _).alloc (Nat.le_refl _) _⟩

set_option maxHeartbeats 400000 in
theorem rhas_any (lo hi v : Int) (w : World) : Calls Try.prog 34 #[rng lo hi, .int .i64 v] w fun r w' => r = .returned (.bool (hasB lo hi v)) ∧ Below w.heap.size w w' := by
  unfold hasB
  by_cases h : lo ≤ v
  · have hd : decide (lo ≤ v) = true := by simpa using h
    rw [hd]
    go_enter Try.func34, Try.ntmps34
    go_wp2
    go_ret
    exact ⟨rfl, (Below.refl _ _).alloc (Nat.le_refl _) _⟩
  · have hd : decide (lo ≤ v) = false := by simpa using h
    rw [hd]
    go_enter Try.func34, Try.ntmps34
    go_wp2
    go_ret
    exact ⟨rfl, (Below.refl _ _).alloc (Nat.le_refl _) _⟩

set_option maxHeartbeats 400000 in
theorem rwithin_any (lo hi a b : Int) (w : World) : Calls Try.prog 35 #[rng lo hi, rng a b] w fun r w' => r = .returned (.bool (inB lo hi a b)) ∧ Below w.heap.size w w' := by
  by_cases h : hi < lo
  · rw [show inB lo hi a b = true by simp [inB, h]]
    go_enter Try.func35, Try.ntmps35
    go_wp2
    go_ret
    exact ⟨rfl, ((Below.refl _ _).alloc (Nat.le_refl _) _).alloc (by simp) _⟩
  · by_cases p : a ≤ lo
    · by_cases q : hi ≤ b
      · rw [show inB lo hi a b = true by simp [inB, hasB]; omega]
        go_enter Try.func35, Try.ntmps35
        go_wp2
        go_ret
        exact ⟨rfl, ((Below.refl _ _).alloc (Nat.le_refl _) _).alloc (by simp) _⟩
      · rw [show inB lo hi a b = false by simp [inB, hasB]; omega]
        have qd : decide (hi ≤ b) = false := by simpa using q
        go_enter Try.func35, Try.ntmps35
        go_wp2
        go_ret
        exact ⟨rfl, ((Below.refl _ _).alloc (Nat.le_refl _) _).alloc (by simp) _⟩
    · rw [show inB lo hi a b = false by simp [inB, hasB]; omega]
      have pd : decide (a ≤ lo) = false := by simpa using p
      go_enter Try.func35, Try.ntmps35
      go_wp2
      go_ret
      exact ⟨rfl, ((Below.refl _ _).alloc (Nat.le_refl _) _).alloc (by simp) _⟩
end Go.Proofs.Ytfoknkhbcnbdhaa
