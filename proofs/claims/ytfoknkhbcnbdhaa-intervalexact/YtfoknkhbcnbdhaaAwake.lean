import Derived.Test.YtfoknkhbcnbdhaaWorst
namespace Go.Proofs.Ytfoknkhbcnbdhaa
open Go.RowKit Quota

theorem aw1 (w : World) : Calls Try.prog 14 #[.int .i64 2, .int .i64 3] w fun e w' => e = .returned (.tuple #[.int .i64 5, .int .i64 0]) ∧ Below w.heap.size w w' := by
  have h := add_any 2 3 w (by unfold I64; omega) (by unfold I64; omega)
  rw [show fitV (2 + 3) = 5 by simp [fitV, fitB], show fitE (2 + 3) = 0 by simp [fitE, fitB]] at h
  exact h
theorem aw2 (w : World) : Calls Try.prog 14 #[.int .i64 9223372036854775807, .int .i64 1] w fun e w' => e = .returned (.tuple #[.int .i64 0, .int .i64 10]) ∧ Below w.heap.size w w' := by
  have h := add_any 9223372036854775807 1 w (by unfold I64; omega) (by unfold I64; omega)
  rw [show fitV (9223372036854775807 + 1) = 0 by simp [fitV, fitB], show fitE (9223372036854775807 + 1) = 10 by simp [fitE, fitB]] at h
  exact h
theorem aw3 (w : World) (b : Nat) (cap : Nat) (hb : b < w.heap.size) (c0 : w.cell? ⟨b, 0, none⟩ = some (.int .i64 9223372036854775807)) (c1 : w.cell? ⟨b, 1, none⟩ = some (.int .i64 1)) (c2 : w.cell? ⟨b, 2, none⟩ = some (.int .i64 (-1))) :
    Calls Try.prog 20 #[.slice (some ⟨b, 0, none⟩) 3 cap] w fun e w' => e = .returned (.tuple #[.int .i64 9223372036854775807, .int .i64 0]) ∧ Below w.heap.size w w' := by
  have h := sum_any [9223372036854775807, 1, -1] (some ⟨b, 0, none⟩) cap w (.inr ⟨b, 0, rfl, hb, fun i hi => by
    match i, hi with
    | 0, _ => simpa using c0
    | 1, _ => simpa using c1
    | 2, _ => simpa using c2⟩) (by intro x hx; simp at hx; unfold I64; omega) (by simp)
  rw [show isum [9223372036854775807, 1, -1] = 9223372036854775807 by simp [isum], show fitV 9223372036854775807 = 9223372036854775807 by simp [fitV, fitB], show fitE 9223372036854775807 = 0 by simp [fitE, fitB]] at h
  exact h
theorem aw4 (w : World) (b : Nat) (cap : Nat) (hb : b < w.heap.size) (c0 : w.cell? ⟨b, 0, none⟩ = some (.int .i64 3)) (c1 : w.cell? ⟨b, 1, none⟩ = some (.int .i64 (-2))) :
    Calls Try.prog 18 #[.int .i64 5, .slice (some ⟨b, 0, none⟩) 2 cap] w fun e w' => e = .returned (.tuple #[rng 3 8, .int .i64 0]) ∧ Below w.heap.size w w' := by
  have h := worst_any 5 [3, -2] (some ⟨b, 0, none⟩) cap w (by unfold I64; omega) (.inr ⟨b, 0, rfl, hb, fun i hi => by
    match i, hi with
    | 0, _ => simpa using c0
    | 1, _ => simpa using c1⟩) (by intro x hx; simp at hx; unfold I64; omega) (by simp)
  rw [show loW 5 [3, -2] = 3 by simp [loW, okW, lows, highs, fitB], show hiW 5 [3, -2] = 8 by simp [hiW, okW, lows, highs, fitB], show erW 5 [3, -2] = 0 by simp [erW, okW, lows, highs, fitB]] at h
  exact h
theorem aw5 (w : World) : Calls Try.prog 15 #[.int .i64 (-1), .int .i64 (-9223372036854775808)] w fun e w' => e = .returned (.tuple #[.int .i64 9223372036854775807, .int .i64 0]) ∧ Below w.heap.size w w' := by
  have h := sub_any (-1) (-9223372036854775808) w (by unfold I64; omega) (by unfold I64; omega)
  rw [show (-1 - -9223372036854775808 : Int) = 9223372036854775807 by omega, show fitV 9223372036854775807 = 9223372036854775807 by simp [fitV, fitB], show fitE 9223372036854775807 = 0 by simp [fitE, fitB]] at h
  exact h
theorem aw6 (w : World) : Calls Try.prog 16 #[.int .i64 (-9223372036854775808)] w fun e w' => e = .returned (.tuple #[.int .i64 0, .int .i64 10]) ∧ Below w.heap.size w w' := by
  have h := neg_any (-9223372036854775808) w (by unfold I64; omega)
  rw [show fitV (- -9223372036854775808) = 0 by simp [fitV, fitB], show fitE (- -9223372036854775808) = 10 by simp [fitE, fitB]] at h
  exact h
theorem aw7 (w : World) : Calls Try.prog 11 #[rng 1 0] w fun e w' => e = .returned (.int .i64 11) ∧ Below w.heap.size w w' := check_any 1 0 w
theorem aw8 (w : World) : Calls Try.prog 12 #[rng 3 8, .int .i64 3] w fun e w' => e = .returned (.bool true) ∧ Below w.heap.size w w' := has_any 3 8 3 w
theorem aw9 (w : World) : Calls Try.prog 13 #[rng 3 8, rng 3 7] w fun e w' => e = .returned (.bool false) ∧ Below w.heap.size w w' := within_any 3 8 3 7 w

set_option maxHeartbeats 400000 in
theorem awake_any (w : World) : Calls Try.prog 9 #[] w fun e w' => e = .returned (.bool true) ∧ Below w.heap.size w w' := by
  go_enter Try.func9, Try.ntmps9
  go_wp2_with fail
  refine (aw1 _).mono ?_
  rintro e w1 ⟨rfl, h1⟩
  go_wp2_with fail
  refine (aw2 _).mono ?_
  rintro e w2 ⟨rfl, h2⟩
  have g2 := h1.trans (h2.mono h1.size)
  clear h1 h2
  go_wp2_with fail
  refine (aw3 _ w2.heap.size _ (by simp) (by simp [go_sem]) (by simp [go_sem]) (by simp [go_sem])).mono ?_
  rintro e w3 ⟨rfl, h3⟩
  have g3 := g2.trans ((below1 h3).mono g2.size)
  clear g2 h3
  go_wp2_with fail
  refine (aw4 _ w3.heap.size _ (by simp) (by simp [go_sem]) (by simp [go_sem])).mono ?_
  rintro e w4 ⟨rfl, h4⟩
  have g4 := g3.trans ((below1 h4).mono g3.size)
  clear g3 h4
  go_wp2_with fail
  refine (aw5 _).mono ?_
  rintro e w5 ⟨rfl, h5⟩
  have g5 := g4.trans ((below1 h5).mono g4.size)
  have B5 := Box.below (Box.new w4 (.int .i64 3) (.int .i64 8) 24) h5
  clear g4 h5
  go_wp2_with fail
  refine (aw6 _).mono ?_
  rintro e w6 ⟨rfl, h6⟩
  have g6 := g5.trans (h6.mono g5.size)
  have B6 := Box.below B5 h6
  clear B5 g5 h6
  go_wp2_with (go_at_call 10; refine (num_any _ _).mono ?_; rintro e w' ⟨rfl, rfl⟩)
  refine (aw7 _).mono ?_
  rintro e w7 ⟨rfl, h7⟩
  have g7 := g6.trans (h7.mono g6.size)
  have B7 := Box.below B6 h7
  clear B6 g6 h7
  have HB7 : Hid _ := B7
  obtain ⟨hz, c0, c1, _, _⟩ := B7
  go_wp2_with (go_at_call 10; refine (num_any _ _).mono ?_; rintro e w' ⟨rfl, rfl⟩)
  refine (aw8 _).mono ?_
  rintro e w8 ⟨rfl, h8⟩
  have g8 := g7.trans (h8.mono g7.size)
  have B8 := Box.below HB7.out h8
  clear HB7 g7 h8 hz c0 c1
  have HB8 : Hid _ := B8
  obtain ⟨hz, c0, c1, _, _⟩ := B8
  go_wp2_with fail
  refine (aw9 _).mono ?_
  rintro e w9 ⟨rfl, h9⟩
  have g9 := g8.trans (h9.mono g8.size)
  have B9 := Box.below HB8.out h9
  clear HB8 g8 h9 hz c0 c1
  obtain ⟨hz, c0, c1, _, _⟩ := B9
  go_wp2_with fail
  go_ret
  exact ⟨rfl, g9⟩

set_option maxHeartbeats 400000 in
theorem names_walk (w : World) : Calls Try.prog 3 #[] w fun e w' => e = .returned (.bool true) ∧ Below w.heap.size w w' := by
  go_enter Try.func3, Try.ntmps3
  go_wp2_with fail
  refine (awake_any _).mono ?_
  rintro e w1 ⟨rfl, h1⟩
  go_wp2_with fail
  go_ret
  exact ⟨rfl, h1⟩
end Go.Proofs.Ytfoknkhbcnbdhaa
