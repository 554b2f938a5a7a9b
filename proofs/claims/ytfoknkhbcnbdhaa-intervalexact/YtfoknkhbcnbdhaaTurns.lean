import Derived.Test.YtfoknkhbcnbdhaaAwake
namespace Go.Proofs.Ytfoknkhbcnbdhaa
open Go.RowKit Quota

theorem fit_yes {z : Int} (h : I64 z) : fitV z = z ∧ fitE z = 0 := by
  have e := fitB_true.2 h
  exact ⟨by simp [fitV, e], by simp [fitE, e]⟩
theorem fit_no {z : Int} (h : ¬ I64 z) : fitV z = 0 ∧ fitE z = 10 := by
  have e := fitB_false.2 h
  exact ⟨by simp [fitV, e], by simp [fitE, e]⟩

/-- Add, Sub, Neg where the whole result z fits, and where it does not. -/
theorem add_yes {a b z : Int} (w : World) (ha : I64 a) (hb : I64 b) (e : a + b = z) (h : I64 z) :
    Calls Try.prog 14 #[.int .i64 a, .int .i64 b] w fun e w' => e = .returned (.tuple #[.int .i64 z, .int .i64 0]) ∧ Below w.heap.size w w' := by
  have k := add_any a b w ha hb
  rw [e, (fit_yes h).1, (fit_yes h).2] at k
  exact k
theorem add_no {a b : Int} (w : World) (ha : I64 a) (hb : I64 b) (h : ¬ I64 (a + b)) :
    Calls Try.prog 14 #[.int .i64 a, .int .i64 b] w fun e w' => e = .returned (.tuple #[.int .i64 0, .int .i64 10]) ∧ Below w.heap.size w w' := by
  have k := add_any a b w ha hb
  rw [(fit_no h).1, (fit_no h).2] at k
  exact k
theorem sub_yes {a b z : Int} (w : World) (ha : I64 a) (hb : I64 b) (e : a - b = z) (h : I64 z) :
    Calls Try.prog 15 #[.int .i64 a, .int .i64 b] w fun e w' => e = .returned (.tuple #[.int .i64 z, .int .i64 0]) ∧ Below w.heap.size w w' := by
  have k := sub_any a b w ha hb
  rw [e, (fit_yes h).1, (fit_yes h).2] at k
  exact k
theorem sub_no {a b : Int} (w : World) (ha : I64 a) (hb : I64 b) (h : ¬ I64 (a - b)) :
    Calls Try.prog 15 #[.int .i64 a, .int .i64 b] w fun e w' => e = .returned (.tuple #[.int .i64 0, .int .i64 10]) ∧ Below w.heap.size w w' := by
  have k := sub_any a b w ha hb
  rw [(fit_no h).1, (fit_no h).2] at k
  exact k
theorem neg_yes {a z : Int} (w : World) (ha : I64 a) (e : -a = z) (h : I64 z) :
    Calls Try.prog 16 #[.int .i64 a] w fun e w' => e = .returned (.tuple #[.int .i64 z, .int .i64 0]) ∧ Below w.heap.size w w' := by
  have k := neg_any a w ha
  rw [e, (fit_yes h).1, (fit_yes h).2] at k
  exact k
theorem neg_no {a : Int} (w : World) (ha : I64 a) (h : ¬ I64 (-a)) :
    Calls Try.prog 16 #[.int .i64 a] w fun e w' => e = .returned (.tuple #[.int .i64 0, .int .i64 10]) ∧ Below w.heap.size w w' := by
  have k := neg_any a w ha
  rw [(fit_no h).1, (fit_no h).2] at k
  exact k

set_option maxHeartbeats 1000000 in
theorem turns_110 (a b : Int) (w : World) (ha : I64 a) (hb : I64 b) (hp : I64 (a + b)) (hm : I64 (a - b)) (hn : I64 (-a)) :
    Calls Try.prog 5 #[.int .i64 a, .int .i64 b] w fun e w' => e = .returned (.bool true) ∧ Below w.heap.size w w' := by
  have ea : (a != -9223372036854775808) = true := by unfold I64 at ha hn; simp; omega
  go_enter Try.func5, Try.ntmps5
  go_wp2_with fail
  refine (awake_any _).mono ?_
  rintro e w1 ⟨rfl, h1⟩
  have g1 := h1
  clear h1
  go_wp2_with fail
  refine (add_yes _ ha hb rfl hp).mono ?_
  rintro e w2 ⟨rfl, h2⟩
  have g2 := g1.trans (h2.mono g1.size)
  clear g1 h2
  go_wp2_with fail
  refine (add_yes (z := a + b) _ hb ha (Int.add_comm b a) hp).mono ?_
  rintro e w3 ⟨rfl, h3⟩
  have g3 := g2.trans (h3.mono g2.size)
  clear g2 h3
  go_wp2_with (go_at_call 10; refine (num_any _ _).mono ?_; rintro e w' ⟨rfl, rfl⟩)
  refine (sub_yes (z := a) _ hp hb (by omega) ha).mono ?_
  rintro e w4 ⟨rfl, h4⟩
  have g4 := g3.trans (h4.mono g3.size)
  clear g3 h4
  go_wp2_with (go_at_call 10; refine (num_any _ _).mono ?_; rintro e w' ⟨rfl, rfl⟩)
  refine (sub_yes (z := b) _ hp ha (by omega) hb).mono ?_
  rintro e w5 ⟨rfl, h5⟩
  have g5 := g4.trans (h5.mono g4.size)
  clear g4 h5
  go_wp2_with (go_at_call 10; refine (num_any _ _).mono ?_; rintro e w' ⟨rfl, rfl⟩)
  refine (sub_yes _ ha hb rfl hm).mono ?_
  rintro e w6 ⟨rfl, h6⟩
  have g6 := g5.trans (h6.mono g5.size)
  clear g5 h6
  go_wp2_with (go_at_call 10; refine (num_any _ _).mono ?_; rintro e w' ⟨rfl, rfl⟩)
  refine (add_yes (z := a) _ hm hb (by omega) ha).mono ?_
  rintro e w7 ⟨rfl, h7⟩
  have g7 := g6.trans (h7.mono g6.size)
  clear g6 h7
  go_wp2_with (go_at_call 10; refine (num_any _ _).mono ?_; rintro e w' ⟨rfl, rfl⟩)
  refine (neg_yes _ ha rfl hn).mono ?_
  rintro e w8 ⟨rfl, h8⟩
  have g8 := g7.trans (h8.mono g7.size)
  clear g7 h8
  go_wp2_with (go_at_call 10; refine (num_any _ _).mono ?_; rintro e w' ⟨rfl, rfl⟩)
  refine (neg_yes (z := a) _ hn (by omega) ha).mono ?_
  rintro e w9 ⟨rfl, h9⟩
  have g9 := g8.trans (h9.mono g8.size)
  clear g8 h9
  go_wp2_with (go_at_call 10; refine (num_any _ _).mono ?_; rintro e w' ⟨rfl, rfl⟩)
  go_ret
  exact ⟨rfl, g9⟩

set_option maxHeartbeats 1000000 in
theorem turns_111 (a b : Int) (w : World) (ha : I64 a) (hb : I64 b) (hp : I64 (a + b)) (hm : I64 (a - b)) (hn : ¬ I64 (-a)) :
    Calls Try.prog 5 #[.int .i64 a, .int .i64 b] w fun e w' => e = .returned (.bool true) ∧ Below w.heap.size w w' := by
  have ea : (a == -9223372036854775808) = true := by unfold I64 at ha hn; simp; omega
  go_enter Try.func5, Try.ntmps5
  go_wp2_with fail
  refine (awake_any _).mono ?_
  rintro e w1 ⟨rfl, h1⟩
  have g1 := h1
  clear h1
  go_wp2_with fail
  refine (add_yes _ ha hb rfl hp).mono ?_
  rintro e w2 ⟨rfl, h2⟩
  have g2 := g1.trans (h2.mono g1.size)
  clear g1 h2
  go_wp2_with fail
  refine (add_yes (z := a + b) _ hb ha (Int.add_comm b a) hp).mono ?_
  rintro e w3 ⟨rfl, h3⟩
  have g3 := g2.trans (h3.mono g2.size)
  clear g2 h3
  go_wp2_with (go_at_call 10; refine (num_any _ _).mono ?_; rintro e w' ⟨rfl, rfl⟩)
  refine (sub_yes (z := a) _ hp hb (by omega) ha).mono ?_
  rintro e w4 ⟨rfl, h4⟩
  have g4 := g3.trans (h4.mono g3.size)
  clear g3 h4
  go_wp2_with (go_at_call 10; refine (num_any _ _).mono ?_; rintro e w' ⟨rfl, rfl⟩)
  refine (sub_yes (z := b) _ hp ha (by omega) hb).mono ?_
  rintro e w5 ⟨rfl, h5⟩
  have g5 := g4.trans (h5.mono g4.size)
  clear g4 h5
  go_wp2_with (go_at_call 10; refine (num_any _ _).mono ?_; rintro e w' ⟨rfl, rfl⟩)
  refine (sub_yes _ ha hb rfl hm).mono ?_
  rintro e w6 ⟨rfl, h6⟩
  have g6 := g5.trans (h6.mono g5.size)
  clear g5 h6
  go_wp2_with (go_at_call 10; refine (num_any _ _).mono ?_; rintro e w' ⟨rfl, rfl⟩)
  refine (add_yes (z := a) _ hm hb (by omega) ha).mono ?_
  rintro e w7 ⟨rfl, h7⟩
  have g7 := g6.trans (h7.mono g6.size)
  clear g6 h7
  go_wp2_with (go_at_call 10; refine (num_any _ _).mono ?_; rintro e w' ⟨rfl, rfl⟩)
  refine (neg_no _ ha hn).mono ?_
  rintro e w8 ⟨rfl, h8⟩
  have g8 := g7.trans (h8.mono g7.size)
  clear g7 h8
  go_wp2_with (go_at_call 10; refine (num_any _ _).mono ?_; rintro e w' ⟨rfl, rfl⟩)
  go_ret
  exact ⟨rfl, g8⟩

set_option maxHeartbeats 1000000 in
theorem turns_100 (a b : Int) (sg : Bool) (w : World) (ha : I64 a) (hb : I64 b) (hp : I64 (a + b)) (hm : ¬ I64 (a - b)) (hn : I64 (-a)) (sa : decide (a < 0) = sg) (sb : decide (b < 0) = !sg) :
    Calls Try.prog 5 #[.int .i64 a, .int .i64 b] w fun e w' => e = .returned (.bool true) ∧ Below w.heap.size w w' := by
  have ea : (a != -9223372036854775808) = true := by unfold I64 at ha hn; simp; omega
  cases sg
  all_goals
   go_enter Try.func5, Try.ntmps5
   go_wp2_with fail
   refine (awake_any _).mono ?_
   rintro e w1 ⟨rfl, h1⟩
   have g1 := h1
   clear h1
   go_wp2_with fail
   refine (add_yes _ ha hb rfl hp).mono ?_
   rintro e w2 ⟨rfl, h2⟩
   have g2 := g1.trans (h2.mono g1.size)
   clear g1 h2
   go_wp2_with fail
   refine (add_yes (z := a + b) _ hb ha (Int.add_comm b a) hp).mono ?_
   rintro e w3 ⟨rfl, h3⟩
   have g3 := g2.trans (h3.mono g2.size)
   clear g2 h3
   go_wp2_with (go_at_call 10; refine (num_any _ _).mono ?_; rintro e w' ⟨rfl, rfl⟩)
   refine (sub_yes (z := a) _ hp hb (by omega) ha).mono ?_
   rintro e w4 ⟨rfl, h4⟩
   have g4 := g3.trans (h4.mono g3.size)
   clear g3 h4
   go_wp2_with (go_at_call 10; refine (num_any _ _).mono ?_; rintro e w' ⟨rfl, rfl⟩)
   refine (sub_yes (z := b) _ hp ha (by omega) hb).mono ?_
   rintro e w5 ⟨rfl, h5⟩
   have g5 := g4.trans (h5.mono g4.size)
   clear g4 h5
   go_wp2_with (go_at_call 10; refine (num_any _ _).mono ?_; rintro e w' ⟨rfl, rfl⟩)
   refine (sub_no _ ha hb hm).mono ?_
   rintro e w6 ⟨rfl, h6⟩
   have g6 := g5.trans (h6.mono g5.size)
   clear g5 h6
   go_wp2_with (go_at_call 10; refine (num_any _ _).mono ?_; rintro e w' ⟨rfl, rfl⟩)
   refine (neg_yes _ ha rfl hn).mono ?_
   rintro e w7 ⟨rfl, h7⟩
   have g7 := g6.trans (h7.mono g6.size)
   clear g6 h7
   go_wp2_with (go_at_call 10; refine (num_any _ _).mono ?_; rintro e w' ⟨rfl, rfl⟩)
   refine (neg_yes (z := a) _ hn (by omega) ha).mono ?_
   rintro e w8 ⟨rfl, h8⟩
   have g8 := g7.trans (h8.mono g7.size)
   clear g7 h8
   go_wp2_with (go_at_call 10; refine (num_any _ _).mono ?_; rintro e w' ⟨rfl, rfl⟩)
   go_ret
   exact ⟨rfl, g8⟩

set_option maxHeartbeats 1000000 in
theorem turns_101 (a b : Int) (sg : Bool) (w : World) (ha : I64 a) (hb : I64 b) (hp : I64 (a + b)) (hm : ¬ I64 (a - b)) (hn : ¬ I64 (-a)) (sa : decide (a < 0) = sg) (sb : decide (b < 0) = !sg) :
    Calls Try.prog 5 #[.int .i64 a, .int .i64 b] w fun e w' => e = .returned (.bool true) ∧ Below w.heap.size w w' := by
  have ea : (a == -9223372036854775808) = true := by unfold I64 at ha hn; simp; omega
  cases sg
  all_goals
   go_enter Try.func5, Try.ntmps5
   go_wp2_with fail
   refine (awake_any _).mono ?_
   rintro e w1 ⟨rfl, h1⟩
   have g1 := h1
   clear h1
   go_wp2_with fail
   refine (add_yes _ ha hb rfl hp).mono ?_
   rintro e w2 ⟨rfl, h2⟩
   have g2 := g1.trans (h2.mono g1.size)
   clear g1 h2
   go_wp2_with fail
   refine (add_yes (z := a + b) _ hb ha (Int.add_comm b a) hp).mono ?_
   rintro e w3 ⟨rfl, h3⟩
   have g3 := g2.trans (h3.mono g2.size)
   clear g2 h3
   go_wp2_with (go_at_call 10; refine (num_any _ _).mono ?_; rintro e w' ⟨rfl, rfl⟩)
   refine (sub_yes (z := a) _ hp hb (by omega) ha).mono ?_
   rintro e w4 ⟨rfl, h4⟩
   have g4 := g3.trans (h4.mono g3.size)
   clear g3 h4
   go_wp2_with (go_at_call 10; refine (num_any _ _).mono ?_; rintro e w' ⟨rfl, rfl⟩)
   refine (sub_yes (z := b) _ hp ha (by omega) hb).mono ?_
   rintro e w5 ⟨rfl, h5⟩
   have g5 := g4.trans (h5.mono g4.size)
   clear g4 h5
   go_wp2_with (go_at_call 10; refine (num_any _ _).mono ?_; rintro e w' ⟨rfl, rfl⟩)
   refine (sub_no _ ha hb hm).mono ?_
   rintro e w6 ⟨rfl, h6⟩
   have g6 := g5.trans (h6.mono g5.size)
   clear g5 h6
   go_wp2_with (go_at_call 10; refine (num_any _ _).mono ?_; rintro e w' ⟨rfl, rfl⟩)
   refine (neg_no _ ha hn).mono ?_
   rintro e w7 ⟨rfl, h7⟩
   have g7 := g6.trans (h7.mono g6.size)
   clear g6 h7
   go_wp2_with (go_at_call 10; refine (num_any _ _).mono ?_; rintro e w' ⟨rfl, rfl⟩)
   go_ret
   exact ⟨rfl, g7⟩

set_option maxHeartbeats 1000000 in
theorem turns_010 (a b : Int) (sg : Bool) (w : World) (ha : I64 a) (hb : I64 b) (hp : ¬ I64 (a + b)) (hm : I64 (a - b)) (hn : I64 (-a)) (sa : decide (a < 0) = sg) (sb : decide (b < 0) = sg) :
    Calls Try.prog 5 #[.int .i64 a, .int .i64 b] w fun e w' => e = .returned (.bool true) ∧ Below w.heap.size w w' := by
  have ea : (a != -9223372036854775808) = true := by unfold I64 at ha hn; simp; omega
  cases sg
  all_goals
   go_enter Try.func5, Try.ntmps5
   go_wp2_with fail
   refine (awake_any _).mono ?_
   rintro e w1 ⟨rfl, h1⟩
   have g1 := h1
   clear h1
   go_wp2_with fail
   refine (add_no _ ha hb hp).mono ?_
   rintro e w2 ⟨rfl, h2⟩
   have g2 := g1.trans (h2.mono g1.size)
   clear g1 h2
   go_wp2_with fail
   refine (add_no _ hb ha (by rw [Int.add_comm]; exact hp)).mono ?_
   rintro e w3 ⟨rfl, h3⟩
   have g3 := g2.trans (h3.mono g2.size)
   clear g2 h3
   go_wp2_with (go_at_call 10; refine (num_any _ _).mono ?_; rintro e w' ⟨rfl, rfl⟩)
   refine (sub_yes _ ha hb rfl hm).mono ?_
   rintro e w4 ⟨rfl, h4⟩
   have g4 := g3.trans (h4.mono g3.size)
   clear g3 h4
   go_wp2_with (go_at_call 10; refine (num_any _ _).mono ?_; rintro e w' ⟨rfl, rfl⟩)
   refine (add_yes (z := a) _ hm hb (by omega) ha).mono ?_
   rintro e w5 ⟨rfl, h5⟩
   have g5 := g4.trans (h5.mono g4.size)
   clear g4 h5
   go_wp2_with (go_at_call 10; refine (num_any _ _).mono ?_; rintro e w' ⟨rfl, rfl⟩)
   refine (neg_yes _ ha rfl hn).mono ?_
   rintro e w6 ⟨rfl, h6⟩
   have g6 := g5.trans (h6.mono g5.size)
   clear g5 h6
   go_wp2_with (go_at_call 10; refine (num_any _ _).mono ?_; rintro e w' ⟨rfl, rfl⟩)
   refine (neg_yes (z := a) _ hn (by omega) ha).mono ?_
   rintro e w7 ⟨rfl, h7⟩
   have g7 := g6.trans (h7.mono g6.size)
   clear g6 h7
   go_wp2_with (go_at_call 10; refine (num_any _ _).mono ?_; rintro e w' ⟨rfl, rfl⟩)
   go_ret
   exact ⟨rfl, g7⟩

set_option maxHeartbeats 1000000 in
theorem turns_011 (a b : Int) (sg : Bool) (w : World) (ha : I64 a) (hb : I64 b) (hp : ¬ I64 (a + b)) (hm : I64 (a - b)) (hn : ¬ I64 (-a)) (sa : decide (a < 0) = sg) (sb : decide (b < 0) = sg) :
    Calls Try.prog 5 #[.int .i64 a, .int .i64 b] w fun e w' => e = .returned (.bool true) ∧ Below w.heap.size w w' := by
  have ea : (a == -9223372036854775808) = true := by unfold I64 at ha hn; simp; omega
  cases sg
  all_goals
   go_enter Try.func5, Try.ntmps5
   go_wp2_with fail
   refine (awake_any _).mono ?_
   rintro e w1 ⟨rfl, h1⟩
   have g1 := h1
   clear h1
   go_wp2_with fail
   refine (add_no _ ha hb hp).mono ?_
   rintro e w2 ⟨rfl, h2⟩
   have g2 := g1.trans (h2.mono g1.size)
   clear g1 h2
   go_wp2_with fail
   refine (add_no _ hb ha (by rw [Int.add_comm]; exact hp)).mono ?_
   rintro e w3 ⟨rfl, h3⟩
   have g3 := g2.trans (h3.mono g2.size)
   clear g2 h3
   go_wp2_with (go_at_call 10; refine (num_any _ _).mono ?_; rintro e w' ⟨rfl, rfl⟩)
   refine (sub_yes _ ha hb rfl hm).mono ?_
   rintro e w4 ⟨rfl, h4⟩
   have g4 := g3.trans (h4.mono g3.size)
   clear g3 h4
   go_wp2_with (go_at_call 10; refine (num_any _ _).mono ?_; rintro e w' ⟨rfl, rfl⟩)
   refine (add_yes (z := a) _ hm hb (by omega) ha).mono ?_
   rintro e w5 ⟨rfl, h5⟩
   have g5 := g4.trans (h5.mono g4.size)
   clear g4 h5
   go_wp2_with (go_at_call 10; refine (num_any _ _).mono ?_; rintro e w' ⟨rfl, rfl⟩)
   refine (neg_no _ ha hn).mono ?_
   rintro e w6 ⟨rfl, h6⟩
   have g6 := g5.trans (h6.mono g5.size)
   clear g5 h6
   go_wp2_with (go_at_call 10; refine (num_any _ _).mono ?_; rintro e w' ⟨rfl, rfl⟩)
   go_ret
   exact ⟨rfl, g6⟩

theorem turns_walk (a b : Int) (w : World) (ha : I64 a) (hb : I64 b) :
    Calls Try.prog 5 #[.int .i64 a, .int .i64 b] w fun e w' => e = .returned (.bool true) ∧ Below w.heap.size w w' := by
  by_cases hp : I64 (a + b)
  · by_cases hm : I64 (a - b)
    · by_cases hn : I64 (-a)
      · exact turns_110 a b w ha hb hp hm hn
      · exact turns_111 a b w ha hb hp hm hn
    · have hs : decide (b < 0) = !(decide (a < 0)) := by
        unfold I64 at ha hb hm
        by_cases h : a < 0
        · rw [decide_eq_true h]; simp; omega
        · rw [decide_eq_false h]; simp; omega
      by_cases hn : I64 (-a)
      · exact turns_100 a b _ w ha hb hp hm hn rfl hs
      · exact turns_101 a b _ w ha hb hp hm hn rfl hs
  · have hm : I64 (a - b) := by unfold I64 at *; omega
    have hs : decide (b < 0) = decide (a < 0) := by
      unfold I64 at ha hb hp
      by_cases h : a < 0
      · rw [decide_eq_true h]; simp; omega
      · rw [decide_eq_false h]; simp; omega
    by_cases hn : I64 (-a)
    · exact turns_010 a b _ w ha hb hp hm hn rfl hs
    · exact turns_011 a b _ w ha hb hp hm hn rfl hs
end Go.Proofs.Ytfoknkhbcnbdhaa
