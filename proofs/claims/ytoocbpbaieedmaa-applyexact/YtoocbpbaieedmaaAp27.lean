import Derived.Test.YtoocbpbaieedmaaAp22
namespace Go.Proofs.Ytoocbpbaieedmaa
open Go.RowKit Go.QK Quota
set_option maxRecDepth 100000
set_option maxHeartbeats 4000000 in
theorem rpages_no (r : Rc) (w : World) (h1 : chg r.k = false) : Calls Try.prog 26 #[recV r] w (PagesPost w r) := by
  have hL : pagesL r = [] := by unfold pagesL; rw [if_pos h1]
  unfold PagesPost
  rw [hL]
  clear hL
  have KC := fun w' => rchanges_any r w'
  simp only [recV] at KC
  rw [h1] at KC
  obtain ⟨RA, hRA⟩ : ∃ A, A = recA r := ⟨_, rfl⟩
  have SR := hide (show RA.size = 17 by rw [hRA]; rfl)
  have CL := hide (show ∀ (u : World) (n : Nat), RBox u n 38 RA → u.cell? ⟨n, 4, none⟩ = some (.int .i64 r.wp) ∧ u.cell? ⟨n, 6, none⟩ = some (.int .i64 r.sp) from fun u n q => by subst hRA; exact ⟨(q.cells.get 4 _ rfl).1, (q.cells.get 6 _ rfl).1⟩)
  show Calls Try.prog 26 #[.agg (recA r)] w _
  rw [← hRA] at KC ⊢
  clear hRA h1
  go_enter Try.func26, Try.ntmps26
  go_upto_region 1 with fail
  refine named (P := Code.wp _ _ _ _) ?_
  intro w1 hw1
  have B1 := hide (show Below w.heap.size w w1 by rw [hw1]; exact alloc_below _ _)
  have X1 := hide (show RBox w1 w.heap.size 38 RA by rw [hw1]; exact RBox.new _ _ _)
  obtain ⟨f4, f6⟩ := CL.out _ _ X1.out
  clear hw1 CL
  go_wp2_with (first | refine wpList_load38 X1.out SR.out rfl ?_ | (go_at_call 34; refine (KC _).mono ?_; rintro e w3 ⟨rfl, h3⟩))
  exact bodyPost_ret (v := .slice none 0 0) (by simp [results, Try.results26, go_sem]) rfl ⟨_, rfl, World.ownsRow_nil _ _ _ _, B1.out.trans (h3.mono B1.out.size)⟩
set_option maxHeartbeats 4000000 in
theorem rpages_one (r : Rc) (w : World) (h1 : chg r.k = true) (h2 : r.wp = r.sp) : Calls Try.prog 26 #[recV r] w (PagesPost w r) := by
  have hL : pagesL r = [r.wp] := by unfold pagesL; rw [if_neg (by simp [h1]), if_pos h2]
  unfold PagesPost
  rw [hL]
  clear hL
  have KC := fun w' => rchanges_any r w'
  simp only [recV] at KC
  rw [h1] at KC
  obtain ⟨RA, hRA⟩ : ∃ A, A = recA r := ⟨_, rfl⟩
  have SR := hide (show RA.size = 17 by rw [hRA]; rfl)
  have CL := hide (show ∀ (u : World) (n : Nat), RBox u n 38 RA → u.cell? ⟨n, 4, none⟩ = some (.int .i64 r.wp) ∧ u.cell? ⟨n, 6, none⟩ = some (.int .i64 r.sp) from fun u n q => by subst hRA; exact ⟨(q.cells.get 4 _ rfl).1, (q.cells.get 6 _ rfl).1⟩)
  show Calls Try.prog 26 #[.agg (recA r)] w _
  rw [← hRA] at KC ⊢
  clear hRA h1
  rw [← h2] at CL
  have hb : (r.wp == r.wp) = true := by simp
  clear h2
  go_enter Try.func26, Try.ntmps26
  go_upto_region 1 with fail
  refine named (P := Code.wp _ _ _ _) ?_
  intro w1 hw1
  have B1 := hide (show Below w.heap.size w w1 by rw [hw1]; exact alloc_below _ _)
  have X1 := hide (show RBox w1 w.heap.size 38 RA by rw [hw1]; exact RBox.new _ _ _)
  obtain ⟨f4, f6⟩ := CL.out _ _ X1.out
  clear hw1 CL
  go_wp2_with (first | refine wpList_load38 X1.out SR.out rfl ?_ | (go_at_call 34; refine (KC _).mono ?_; rintro e w3 ⟨rfl, h3⟩))
  have b3 := B1.out.trans (h3.mono B1.out.size)
  have G := World.ownsRow_lit (base := w.heap.size) (e := 3) (size := 1) w3 #[.int .i64 r.wp] 1 b3.size (by unfold maxLen; omega) rfl
  exact bodyPost_ret (v := .slice (some ⟨w3.heap.size, 0, none⟩) 1 1) (by simp [results, Try.results26, go_sem]) rfl ⟨_, rfl, G, b3.alloc b3.size _⟩
set_option maxHeartbeats 4000000 in
theorem rpages_lt (r : Rc) (w : World) (h1 : chg r.k = true) (h2 : r.wp < r.sp) : Calls Try.prog 26 #[recV r] w (PagesPost w r) := by
  have hL : pagesL r = [r.wp, r.sp] := by unfold pagesL; rw [if_neg (by simp [h1]), if_neg (by omega), if_pos h2]
  unfold PagesPost
  rw [hL]
  clear hL
  have KC := fun w' => rchanges_any r w'
  simp only [recV] at KC
  rw [h1] at KC
  obtain ⟨RA, hRA⟩ : ∃ A, A = recA r := ⟨_, rfl⟩
  have SR := hide (show RA.size = 17 by rw [hRA]; rfl)
  have CL := hide (show ∀ (u : World) (n : Nat), RBox u n 38 RA → u.cell? ⟨n, 4, none⟩ = some (.int .i64 r.wp) ∧ u.cell? ⟨n, 6, none⟩ = some (.int .i64 r.sp) from fun u n q => by subst hRA; exact ⟨(q.cells.get 4 _ rfl).1, (q.cells.get 6 _ rfl).1⟩)
  show Calls Try.prog 26 #[.agg (recA r)] w _
  rw [← hRA] at KC ⊢
  clear hRA h1
  have hb : (r.wp == r.sp) = false := by simp; omega
  have hc : decide (r.wp < r.sp) = true := decide_eq_true h2
  clear h2
  go_enter Try.func26, Try.ntmps26
  go_upto_region 1 with fail
  refine named (P := Code.wp _ _ _ _) ?_
  intro w1 hw1
  have B1 := hide (show Below w.heap.size w w1 by rw [hw1]; exact alloc_below _ _)
  have X1 := hide (show RBox w1 w.heap.size 38 RA by rw [hw1]; exact RBox.new _ _ _)
  obtain ⟨f4, f6⟩ := CL.out _ _ X1.out
  clear hw1 CL
  go_wp2_with (first | refine wpList_load38 X1.out SR.out rfl ?_ | (go_at_call 34; refine (KC _).mono ?_; rintro e w3 ⟨rfl, h3⟩))
  have b3 := B1.out.trans (h3.mono B1.out.size)
  have G := World.ownsRow_lit (base := w.heap.size) (e := 3) (size := 1) w3 #[.int .i64 r.wp, .int .i64 r.sp] 2 b3.size (by unfold maxLen; omega) rfl
  exact bodyPost_ret (v := .slice (some ⟨w3.heap.size, 0, none⟩) 2 2) (by simp [results, Try.results26, go_sem]) rfl ⟨_, rfl, G, b3.alloc b3.size _⟩
set_option maxHeartbeats 4000000 in
theorem rpages_gt (r : Rc) (w : World) (h1 : chg r.k = true) (h2 : r.sp < r.wp) : Calls Try.prog 26 #[recV r] w (PagesPost w r) := by
  have hL : pagesL r = [r.sp, r.wp] := by unfold pagesL; rw [if_neg (by simp [h1]), if_neg (by omega), if_neg (by omega)]
  unfold PagesPost
  rw [hL]
  clear hL
  have KC := fun w' => rchanges_any r w'
  simp only [recV] at KC
  rw [h1] at KC
  obtain ⟨RA, hRA⟩ : ∃ A, A = recA r := ⟨_, rfl⟩
  have SR := hide (show RA.size = 17 by rw [hRA]; rfl)
  have CL := hide (show ∀ (u : World) (n : Nat), RBox u n 38 RA → u.cell? ⟨n, 4, none⟩ = some (.int .i64 r.wp) ∧ u.cell? ⟨n, 6, none⟩ = some (.int .i64 r.sp) from fun u n q => by subst hRA; exact ⟨(q.cells.get 4 _ rfl).1, (q.cells.get 6 _ rfl).1⟩)
  show Calls Try.prog 26 #[.agg (recA r)] w _
  rw [← hRA] at KC ⊢
  clear hRA h1
  have hb : (r.wp == r.sp) = false := by simp; omega
  have hc : decide (r.wp < r.sp) = false := decide_eq_false (by omega)
  clear h2
  go_enter Try.func26, Try.ntmps26
  go_upto_region 1 with fail
  refine named (P := Code.wp _ _ _ _) ?_
  intro w1 hw1
  have B1 := hide (show Below w.heap.size w w1 by rw [hw1]; exact alloc_below _ _)
  have X1 := hide (show RBox w1 w.heap.size 38 RA by rw [hw1]; exact RBox.new _ _ _)
  obtain ⟨f4, f6⟩ := CL.out _ _ X1.out
  clear hw1 CL
  go_wp2_with (first | refine wpList_load38 X1.out SR.out rfl ?_ | (go_at_call 34; refine (KC _).mono ?_; rintro e w3 ⟨rfl, h3⟩))
  have b3 := B1.out.trans (h3.mono B1.out.size)
  have G := World.ownsRow_lit (base := w.heap.size) (e := 3) (size := 1) w3 #[.int .i64 r.sp, .int .i64 r.wp] 2 b3.size (by unfold maxLen; omega) rfl
  exact bodyPost_ret (v := .slice (some ⟨w3.heap.size, 0, none⟩) 2 2) (by simp [results, Try.results26, go_sem]) rfl ⟨_, rfl, G, b3.alloc b3.size _⟩
theorem rpages_any (r : Rc) (w : World) : Calls Try.prog 26 #[recV r] w (PagesPost w r) := by
  cases h1 : chg r.k with
  | false => exact rpages_no r w h1
  | true =>
    by_cases h2 : r.wp = r.sp
    · exact rpages_one r w h1 h2
    · by_cases h3 : r.wp < r.sp
      · exact rpages_lt r w h1 h3
      · exact rpages_gt r w h1 (by omega)
end Go.Proofs.Ytoocbpbaieedmaa
