import Derived.Test.YtoocbpbaieedmaaAp14
namespace Go.Proofs.Ytoocbpbaieedmaa
open Go.RowKit Go.QK Quota
set_option maxRecDepth 100000
theorem fit_yes {z : Int} (h : I64 z) : fitV z = z ∧ fitE z = 0 := by
  have e := fitB_true.2 h
  exact ⟨by simp [fitV, e], by simp [fitE, e]⟩
theorem fit_no {z : Int} (h : ¬ I64 z) : fitV z = 0 ∧ fitE z = 10 := by
  have e := fitB_false.2 h
  exact ⟨by simp [fitV, e], by simp [fitE, e]⟩

set_option maxHeartbeats 400000 in
theorem radd_any (a b : Int) (w : World) (ha : I64 a) (hb : I64 b) :
    Calls Try.prog 51 #[.int .i64 a, .int .i64 b] w fun e w' => e = .returned (.tuple #[.int .i64 (fitV (a + b)), .int .i64 (fitE (a + b))]) ∧ w = w' := by
  unfold I64 at ha hb
  by_cases h : I64 (a + b)
  · rw [(fit_yes h).1, (fit_yes h).2]
    unfold I64 at h
    by_cases p : 0 < b
    · go_enter Try.func51, Try.ntmps51
      go_wp2
      go_ret2
      exact ⟨rfl, rfl⟩
    · by_cases n : b < 0
      · go_enter Try.func51, Try.ntmps51
        go_wp2
        go_ret2
        exact ⟨rfl, rfl⟩
      · obtain rfl : b = 0 := by omega
        go_enter Try.func51, Try.ntmps51
        go_wp2
        go_ret2
        simp
  · rw [(fit_no h).1, (fit_no h).2]
    unfold I64 at h
    by_cases p : 0 < b
    · go_enter Try.func51, Try.ntmps51
      go_wp2
      go_ret2
      exact ⟨rfl, rfl⟩
    · have n : b < 0 := by omega
      go_enter Try.func51, Try.ntmps51
      go_wp2
      go_ret2
      exact ⟨rfl, rfl⟩

theorem least_neg {b : Int} (hb : I64 b) (h : ¬ b = -9223372036854775808) : I64 (-b) := by unfold I64 at *; omega

set_option maxHeartbeats 400000 in
theorem rsub_any (a b : Int) (w : World) (ha : I64 a) (hb : I64 b) :
    Calls Try.prog 50 #[.int .i64 a, .int .i64 b] w fun e w' => e = .returned (.tuple #[.int .i64 (fitV (a - b)), .int .i64 (fitE (a - b))]) ∧ w = w' := by
  by_cases q : b = -9223372036854775808
  · subst q
    unfold I64 at ha
    by_cases p : 0 ≤ a
    · have n : ¬ I64 (a - -9223372036854775808) := by unfold I64; omega
      rw [(fit_no n).1, (fit_no n).2]
      go_enter Try.func50, Try.ntmps50
      go_wp2
      go_ret2
      exact ⟨rfl, rfl⟩
    · have y : I64 (a - -9223372036854775808) := by unfold I64; omega
      rw [(fit_yes y).1, (fit_yes y).2]
      have e : a + 1 + 9223372036854775807 = a - -9223372036854775808 := by omega
      have E : Hid (a + 1 + 9223372036854775807 = a - -9223372036854775808) := e
      clear e
      go_enter Try.func50, Try.ntmps50
      go_wp2
      go_ret2
      rw [E.out]
      exact ⟨rfl, rfl⟩
  · have hb' := least_neg hb q
    have qb : (b != -9223372036854775808) = true := by simpa using q
    have K := radd_any a (-b) w ha hb'
    rw [show a + -b = a - b by omega] at K
    have wb : wrap64 (-b) = -b := by unfold I64 at hb'; unfold wrap64; omega
    clear q
    go_enter Try.func50, Try.ntmps50
    go_wp2_with fail
    refine K.mono ?_
    rintro e w' ⟨rfl, rfl⟩
    clear K
    go_wp2_with fail
    go_ret2
    exact ⟨rfl, rfl⟩

set_option maxHeartbeats 2000000 in
theorem moved_any (r : Rc) (n : Int) (w : World) (hr : r.Fit) (hn : I64 n) : Calls Try.prog 45 #[.int .i64 n, recV r] w fun e w' => e = .returned (.tuple #[.int .i64 (fitV (if r.k = 4 then n - r.delta else if r.k = 2 then n + r.c.val else n + r.delta)), .int .i64 (fitE (if r.k = 4 then n - r.delta else if r.k = 2 then n + r.c.val else n + r.delta))]) ∧ Below w.heap.size w w' := by
  obtain ⟨RA, hRA⟩ : ∃ A, A = recA r := ⟨_, rfl⟩
  have KA := fun w' => radd_any n r.c.val w' hn hr.v
  have KB := fun w' => radd_any n r.delta w' hn hr.d
  have KC := fun w' => rsub_any n r.delta w' hn hr.d
  show Calls Try.prog 45 #[.int .i64 n, .agg (recA r)] w _
  rw [← hRA]
  have CL := hide (show ∀ (x : World) (m : Nat), RBox x m 38 RA → x.cell? ⟨m, 1, none⟩ = some (.int .i64 r.k) ∧ x.cell? ⟨m, 8, none⟩ = some (.int .i64 r.delta) ∧ x.cell? ⟨m, 13, none⟩ = some (.int .i64 r.c.val) from fun x m q => by subst hRA; exact ⟨(q.cells.get 1 _ rfl).1, (q.cells.get 8 _ rfl).1, (q.cells.get 13 _ rfl).1⟩)
  clear hRA hr hn
  generalize r.c.val = cv at *
  generalize r.delta = dl at *
  by_cases h4 : r.k = 4
  · have k4 : (r.k == 4) = true := by simpa using h4
    rw [if_pos h4]
    generalize r.k = k at *
    clear h4 KA KB
    go_enter Try.func45, Try.ntmps45
    go_upto_region 1 with fail
    refine named (P := Code.wp _ _ _ _) ?_
    intro w1 hw1
    have B1 := hide (show Below w.heap.size w w1 by rw [hw1]; exact alloc_below _ _)
    obtain ⟨f1, f8, f13⟩ := CL.out w1 w.heap.size (by rw [hw1]; exact RBox.new _ _ _)
    clear hw1
    go_wp2_with (go_at_call 50; refine (KC _).mono ?_; rintro e w2 ⟨rfl, rfl⟩)
    exact bodyPost_ret (v := .tuple #[.int .i64 (fitV (n - dl)), .int .i64 (fitE (n - dl))]) (by simp [results, Try.results45, go_sem]) rfl ⟨rfl, B1.out⟩
  · have k4 : (r.k == 4) = false := by simpa using h4
    rw [if_neg h4]
    by_cases h2 : r.k = 2
    · have k2 : (r.k == 2) = true := by simpa using h2
      rw [if_pos h2]
      generalize r.k = k at *
      clear h4 h2 KB KC
      go_enter Try.func45, Try.ntmps45
      go_upto_region 1 with fail
      refine named (P := Code.wp _ _ _ _) ?_
      intro w1 hw1
      have B1 := hide (show Below w.heap.size w w1 by rw [hw1]; exact alloc_below _ _)
      obtain ⟨f1, f8, f13⟩ := CL.out w1 w.heap.size (by rw [hw1]; exact RBox.new _ _ _)
      clear hw1
      go_wp2_with (go_at_call 51; refine (KA _).mono ?_; rintro e w2 ⟨rfl, rfl⟩)
      exact bodyPost_ret (v := .tuple #[.int .i64 (fitV (n + cv)), .int .i64 (fitE (n + cv))]) (by simp [results, Try.results45, go_sem]) rfl ⟨rfl, B1.out⟩
    · have k2 : (r.k == 2) = false := by simpa using h2
      rw [if_neg h2]
      generalize r.k = k at *
      clear h4 h2 KA KC
      go_enter Try.func45, Try.ntmps45
      go_upto_region 1 with fail
      refine named (P := Code.wp _ _ _ _) ?_
      intro w1 hw1
      have B1 := hide (show Below w.heap.size w w1 by rw [hw1]; exact alloc_below _ _)
      obtain ⟨f1, f8, f13⟩ := CL.out w1 w.heap.size (by rw [hw1]; exact RBox.new _ _ _)
      clear hw1
      go_wp2_with (go_at_call 51; refine (KB _).mono ?_; rintro e w2 ⟨rfl, rfl⟩)
      exact bodyPost_ret (v := .tuple #[.int .i64 (fitV (n + dl)), .int .i64 (fitE (n + dl))]) (by simp [results, Try.results45, go_sem]) rfl ⟨rfl, B1.out⟩
/-- Of a record that changes pages it is what the program reckons. -/
theorem mv_ref {r : Rc} (h : chg r.k = true) (n : Int) : (if r.k = 4 then n - r.delta else if r.k = 2 then n + r.c.val else n + r.delta) = mv r n := by
  unfold mv
  simp only [chg, Bool.or_eq_true, beq_iff_eq] at h
  rcases h with h | h | h
  · rw [if_neg (by omega), if_pos h, if_pos h]
  · rw [if_neg (by omega), if_neg (by omega), if_neg (by omega), if_pos h]
  · rw [if_pos h, if_neg (by omega), if_neg (by omega)]
set_option maxHeartbeats 2000000 in
theorem rchanges_any (r : Rc) (w : World) : Calls Try.prog 34 #[recV r] w fun e w' => e = .returned (.bool (chg r.k)) ∧ Below w.heap.size w w' := by
  obtain ⟨RA, hRA⟩ : ∃ A, A = recA r := ⟨_, rfl⟩
  show Calls Try.prog 34 #[.agg (recA r)] w _
  rw [← hRA]
  have CL := hide (show ∀ (x : World) (m : Nat), RBox x m 38 RA → x.cell? ⟨m, 1, none⟩ = some (.int .i64 r.k) from fun x m q => by subst hRA; exact (q.cells.get 1 _ rfl).1)
  clear hRA
  generalize r.k = k at *
  unfold chg
  by_cases h2 : (k == 2) = true
  · rw [h2]
    go_enter Try.func34, Try.ntmps34
    go_upto_region 1 with fail
    refine named (P := Code.wp _ _ _ _) ?_
    intro w1 hw1
    have B1 := hide (show Below w.heap.size w w1 by rw [hw1]; exact alloc_below _ _)
    have f1 := CL.out w1 w.heap.size (by rw [hw1]; exact RBox.new _ _ _)
    clear hw1
    go_wp2_with fail
    exact bodyPost_ret (v := .bool true) (by simp [results, Try.results34, go_sem]) rfl ⟨by simp, B1.out⟩
  · have h2' : (k == 2) = false := by simpa using h2
    clear h2
    by_cases h3 : (k == 3) = true
    · rw [h3, h2']
      go_enter Try.func34, Try.ntmps34
      go_upto_region 1 with fail
      refine named (P := Code.wp _ _ _ _) ?_
      intro w1 hw1
      have B1 := hide (show Below w.heap.size w w1 by rw [hw1]; exact alloc_below _ _)
      have f1 := CL.out w1 w.heap.size (by rw [hw1]; exact RBox.new _ _ _)
      clear hw1
      go_wp2_with fail
      exact bodyPost_ret (v := .bool true) (by simp [results, Try.results34, go_sem]) rfl ⟨by simp, B1.out⟩
    · have h3' : (k == 3) = false := by simpa using h3
      clear h3
      rw [h2', h3']
      go_enter Try.func34, Try.ntmps34
      go_upto_region 1 with fail
      refine named (P := Code.wp _ _ _ _) ?_
      intro w1 hw1
      have B1 := hide (show Below w.heap.size w w1 by rw [hw1]; exact alloc_below _ _)
      have f1 := CL.out w1 w.heap.size (by rw [hw1]; exact RBox.new _ _ _)
      clear hw1
      go_wp2_with fail
      exact bodyPost_ret (v := .bool (k == 4)) (by simp [results, Try.results34, go_sem]) rfl ⟨by simp, B1.out⟩
end Go.Proofs.Ytoocbpbaieedmaa
