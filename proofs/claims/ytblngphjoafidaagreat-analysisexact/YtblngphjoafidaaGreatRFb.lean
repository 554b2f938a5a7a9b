import Derived.Test.YtblngphjoafidaaGreatRPts
import Derived.Deep.DeepCutAuto
namespace Go.Proofs.YtblngphjoafidaaGreat
open Go.RowKit Go.QK
set_option maxRecDepth 100000
set_option maxHeartbeats 0 in
theorem rFields_3 (lsn tx prev wp wi sp si delta id grp lo hi val next : Int) (live : List LiveM) (dirty : List DirtyM) (la da : Option Addr) (lc dc : Nat) (w : World) (hl : Lies w la (liveCs live)) (hd : Lies w da (dirtyCs dirty)) :
    Calls Tryz.prog 50 #[.agg #[.int .i64 lsn, .int .i64 3, .int .i64 tx, .int .i64 prev, .int .i64 wp, .int .i64 wi, .int .i64 sp, .int .i64 si, .int .i64 delta, .int .i64 id, .int .i64 grp, .int .i64 lo, .int .i64 hi, .int .i64 val, .slice la live.length lc, .slice da dirty.length dc, .int .i64 next]] w fun e w' => e = .returned (.bool (fromB 0 lsn 2147483647 && (noneB live dirty next && (fromB 1 tx 2147483647 && (fromB 1 prev 2147483647 && ((lsn == 0) || decide (prev < lsn))) && slots2B (RecM.mk lsn 3 tx prev wp wi sp si delta id grp lo hi val live dirty next) && fromB 1 id 1048576 && ((id == id) && (grp == 0) && (lo == 0) && (hi == 0) && (val == 0)))))) ∧ Below w.heap.size w w' := by
  have f0 := fun w => within_any lsn 0 2147483647 w
  have fN := fun w => none_any live dirty la da lc dc next w
  have fT := fun w => within_any tx 1 2147483647 w
  have fP := fun w => within_any prev 1 2147483647 w
  have fI := fun w => within_any id 1 1048576 w
  have fG := fun w => within_any grp 1 1048576 w
  have fA := fun w => apart_any (RecM.mk lsn 3 tx prev wp wi sp si delta id grp lo hi val live dirty next) la da lc dc w
  have fS := fun w => slots_any (RecM.mk lsn 3 tx prev wp wi sp si delta id grp lo hi val live dirty next) la da lc dc w
  have fQ := fun w a b => rPoints_any live dirty la da lc dc next lsn w a b
  simp only [recC] at fA fS
  generalize fromB 0 lsn 2147483647 = q0 at *
  generalize noneB live dirty next = qN at *
  generalize fromB 1 tx 2147483647 = qT at *
  generalize fromB 1 prev 2147483647 = qP at *
  generalize fromB 1 id 1048576 = qI at *
  generalize fromB 1 grp 1048576 = qG at *
  generalize apartB (RecM.mk lsn 3 tx prev wp wi sp si delta id grp lo hi val live dirty next) = qA at *
  generalize slots2B (RecM.mk lsn 3 tx prev wp wi sp si delta id grp lo hi val live dirty next) = qS at *
  generalize pointsB true live dirty next lsn = qQ at *
  have HL := hide hl
  have HD := hide hd
  clear hl hd
  generalize hR : (q0 && (qN && (qT && (qP && ((lsn == 0) || decide (prev < lsn))) && qS && qI && ((id == id) && (grp == 0) && (lo == 0) && (hi == 0) && (val == 0))))) = R
  have HR := hide hR
  clear hR
  go_enter Tryz.func50, Tryz.ntmps50
  go_wp2_with fail
  generalize hw0 : w.alloc (.cells #[.int .i64 lsn, .int .i64 3, .int .i64 tx, .int .i64 prev, .int .i64 wp, .int .i64 wi, .int .i64 sp, .int .i64 si, .int .i64 delta, .int .i64 id, .int .i64 grp, .int .i64 lo, .int .i64 hi, .int .i64 val, .slice la live.length lc, .slice da dirty.length dc, .int .i64 next] 55) = w0
  have b0 : Below w.heap.size w w0 := by rw [← hw0]; exact alloc_below _ _
  have RB : Hid (RBox w0 w.heap.size 55 #[.int .i64 lsn, .int .i64 3, .int .i64 tx, .int .i64 prev, .int .i64 wp, .int .i64 wi, .int .i64 sp, .int .i64 si, .int .i64 delta, .int .i64 id, .int .i64 grp, .int .i64 lo, .int .i64 hi, .int .i64 val, .slice la live.length lc, .slice da dirty.length dc, .int .i64 next]) := by rw [← hw0]; exact RBox.new _ _ _
  clear hw0
  generalize Value.agg #[.int .i64 lsn, .int .i64 3, .int .i64 tx, .int .i64 prev, .int .i64 wp, .int .i64 wi, .int .i64 sp, .int .i64 si, .int .i64 delta, .int .i64 id, .int .i64 grp, .int .i64 lo, .int .i64 hi, .int .i64 val, .slice la live.length lc, .slice da dirty.length dc, .int .i64 next] = ra
  refine (f0 _).mono ?_
  rintro e wq ⟨rfl, hq⟩
  obtain rfl : w0 = wq := hq.symm
  have c0 := (RB.out.cells.get 0 _ rfl).1
  have c1 := (RB.out.cells.get 1 _ rfl).1
  have c2 := (RB.out.cells.get 2 _ rfl).1
  have c3 := (RB.out.cells.get 3 _ rfl).1
  have c8 := (RB.out.cells.get 8 _ rfl).1
  have c9 := (RB.out.cells.get 9 _ rfl).1
  have c10 := (RB.out.cells.get 10 _ rfl).1
  have c11 := (RB.out.cells.get 11 _ rfl).1
  have c12 := (RB.out.cells.get 12 _ rfl).1
  have c13 := (RB.out.cells.get 13 _ rfl).1
  have c14 := (RB.out.cells.get 14 _ rfl).1
  have c15 := (RB.out.cells.get 15 _ rfl).1
  have c16 := (RB.out.cells.get 16 _ rfl).1
  cases q0
  · go_wp2_with fail
    go_ret
    exact ⟨by rw [← HR.out]; simp, b0⟩
  · skip
    go_wp2_with fail
    refine (fN _).mono ?_
    rintro e w1 ⟨rfl, b1⟩
    clear c0 c1 c2 c3 c8 c9 c10 c11 c12 c13 c14 c15 c16
    replace RB := hide (RB.out.below b1)
    have b2 := bnext b0 b1 (Nat.le_refl _)
    clear b0 b1
    have c0 := (RB.out.cells.get 0 _ rfl).1
    have c1 := (RB.out.cells.get 1 _ rfl).1
    have c2 := (RB.out.cells.get 2 _ rfl).1
    have c3 := (RB.out.cells.get 3 _ rfl).1
    have c8 := (RB.out.cells.get 8 _ rfl).1
    have c9 := (RB.out.cells.get 9 _ rfl).1
    have c10 := (RB.out.cells.get 10 _ rfl).1
    have c11 := (RB.out.cells.get 11 _ rfl).1
    have c12 := (RB.out.cells.get 12 _ rfl).1
    have c13 := (RB.out.cells.get 13 _ rfl).1
    have c14 := (RB.out.cells.get 14 _ rfl).1
    have c15 := (RB.out.cells.get 15 _ rfl).1
    have c16 := (RB.out.cells.get 16 _ rfl).1
    cases qN
    · go_wp2_with fail
      go_ret
      exact ⟨by rw [← HR.out]; simp, b2⟩
    · skip
      go_wp2_with fail
      refine (fT _).mono ?_
      rintro e wq ⟨rfl, hq⟩
      obtain rfl : w1 = wq := hq.symm
      go_upto_region 4 with fail
      go_cut [4] (fun s w' => s = .bool (qP && ((lsn == 0) || decide (prev < lsn))) ∧ w' = w1)
      case first =>
        go_wp2_with fail
        refine (fP _).mono ?_
        rintro e wq ⟨rfl, hq⟩
        obtain rfl : w1 = wq := hq.symm
        cases qP
        · go_wp2_with fail
          go_meet
          exact ⟨by simp, rfl⟩
        · have ⟨z, hz⟩ : ∃ g, (lsn == 0) = g := ⟨_, rfl⟩
          cases z
          · go_wp2_with fail
            go_meet
            exact ⟨by first | (simp; done) | simp [hz], rfl⟩
          · go_wp2_with fail
            go_meet
            exact ⟨by first | (simp; done) | simp [hz], rfl⟩
      case rest =>
        obtain ⟨rfl, hw⟩ := hcut
        obtain rfl : w1 = _ := hw.symm
        generalize (qP && ((lsn == 0) || decide (prev < lsn))) = qV at *
        go_upto_region 6 with fail
        clear c0 c1 c2 c3 c8 c9 c10 c11 c12 c13 c14 c15 c16
        generalize hw2 : w1.alloc (.cells #[.int .i64 id, .int .i64 grp, .int .i64 lo, .int .i64 hi, .int .i64 val] 51) = w2
        have D : Hid (Cells w2 w1.heap.size [.int .i64 id, .int .i64 grp, .int .i64 lo, .int .i64 hi, .int .i64 val]) := by rw [← hw2]; exact Cells.new _ _ _
        have hwb : Below w1.heap.size w1 w2 := by rw [← hw2]; exact alloc_below _ _
        have b3 := bnext b2 hwb (Nat.le_refl _)
        replace RB := hide (RB.out.below hwb)
        clear hw2 hwb b2
        have c0 := (RB.out.cells.get 0 _ rfl).1
        have c1 := (RB.out.cells.get 1 _ rfl).1
        have c2 := (RB.out.cells.get 2 _ rfl).1
        have c3 := (RB.out.cells.get 3 _ rfl).1
        have c8 := (RB.out.cells.get 8 _ rfl).1
        have d0 := (D.out.get 0 _ rfl).1
        have d1 := (D.out.get 1 _ rfl).1
        have d2 := (D.out.get 2 _ rfl).1
        have d3 := (D.out.get 3 _ rfl).1
        have d4 := (D.out.get 4 _ rfl).1
        go_wp2_with fail
        refine (fI _).mono ?_
        rintro e wq ⟨rfl, hq⟩
        obtain rfl : w2 = wq := hq.symm
        cases qT
        · go_wp2_with fail
          go_ret
          exact ⟨by rw [← HR.out]; simp, b3⟩
        · cases qV
          · go_wp2_with fail
            go_ret
            exact ⟨by rw [← HR.out]; simp, b3⟩
          · skip
            go_wp2_with (refine wpList_load36g RB.out rfl rfl rfl ?_)
            refine (fS _).mono ?_
            rintro e w4 ⟨rfl, bb⟩
            have b4 := bnext b3 bb (Nat.le_refl _)
            clear c0 c1 c2 c3 c8 d0 d1 d2 d3 d4
            replace RB := hide (RB.out.below bb)
            replace D := hide (D.out.below bb)
            clear bb
            have c0 := (RB.out.cells.get 0 _ rfl).1
            have c1 := (RB.out.cells.get 1 _ rfl).1
            have c2 := (RB.out.cells.get 2 _ rfl).1
            have c3 := (RB.out.cells.get 3 _ rfl).1
            have c8 := (RB.out.cells.get 8 _ rfl).1
            have d0 := (D.out.get 0 _ rfl).1
            have d1 := (D.out.get 1 _ rfl).1
            have d2 := (D.out.get 2 _ rfl).1
            have d3 := (D.out.get 3 _ rfl).1
            have d4 := (D.out.get 4 _ rfl).1
            cases qS
            · go_wp2_with fail
              go_ret
              exact ⟨by rw [← HR.out]; simp, b4⟩
            · cases qI
              · go_wp2_with fail
                go_ret
                exact ⟨by rw [← HR.out]; simp, b4⟩
              · skip
                go_wp2_with fail
                all_goals go_ret
                all_goals exact ⟨by rw [← HR.out]; first | (simp; done) | (simp; omega) | (simp_all; done) | (simp_all; omega), b4⟩
set_option maxHeartbeats 0 in
theorem rFields_4 (lsn tx prev wp wi sp si delta id grp lo hi val next : Int) (live : List LiveM) (dirty : List DirtyM) (la da : Option Addr) (lc dc : Nat) (w : World) (hl : Lies w la (liveCs live)) (hd : Lies w da (dirtyCs dirty)) :
    Calls Tryz.prog 50 #[.agg #[.int .i64 lsn, .int .i64 4, .int .i64 tx, .int .i64 prev, .int .i64 wp, .int .i64 wi, .int .i64 sp, .int .i64 si, .int .i64 delta, .int .i64 id, .int .i64 grp, .int .i64 lo, .int .i64 hi, .int .i64 val, .slice la live.length lc, .slice da dirty.length dc, .int .i64 next]] w fun e w' => e = .returned (.bool (fromB 0 lsn 2147483647 && (noneB live dirty next && (fromB 1 tx 2147483647 && (fromB 1 prev 2147483647 && ((lsn == 0) || decide (prev < lsn))) && slots2B (RecM.mk lsn 4 tx prev wp wi sp si delta id grp lo hi val live dirty next) && fromB 1 id 1048576 && ((id == id) && (grp == 0) && (lo == 0) && (hi == 0) && (val == 0)))))) ∧ Below w.heap.size w w' := by
  have f0 := fun w => within_any lsn 0 2147483647 w
  have fN := fun w => none_any live dirty la da lc dc next w
  have fT := fun w => within_any tx 1 2147483647 w
  have fP := fun w => within_any prev 1 2147483647 w
  have fI := fun w => within_any id 1 1048576 w
  have fG := fun w => within_any grp 1 1048576 w
  have fA := fun w => apart_any (RecM.mk lsn 4 tx prev wp wi sp si delta id grp lo hi val live dirty next) la da lc dc w
  have fS := fun w => slots_any (RecM.mk lsn 4 tx prev wp wi sp si delta id grp lo hi val live dirty next) la da lc dc w
  have fQ := fun w a b => rPoints_any live dirty la da lc dc next lsn w a b
  simp only [recC] at fA fS
  generalize fromB 0 lsn 2147483647 = q0 at *
  generalize noneB live dirty next = qN at *
  generalize fromB 1 tx 2147483647 = qT at *
  generalize fromB 1 prev 2147483647 = qP at *
  generalize fromB 1 id 1048576 = qI at *
  generalize fromB 1 grp 1048576 = qG at *
  generalize apartB (RecM.mk lsn 4 tx prev wp wi sp si delta id grp lo hi val live dirty next) = qA at *
  generalize slots2B (RecM.mk lsn 4 tx prev wp wi sp si delta id grp lo hi val live dirty next) = qS at *
  generalize pointsB true live dirty next lsn = qQ at *
  have HL := hide hl
  have HD := hide hd
  clear hl hd
  generalize hR : (q0 && (qN && (qT && (qP && ((lsn == 0) || decide (prev < lsn))) && qS && qI && ((id == id) && (grp == 0) && (lo == 0) && (hi == 0) && (val == 0))))) = R
  have HR := hide hR
  clear hR
  go_enter Tryz.func50, Tryz.ntmps50
  go_wp2_with fail
  generalize hw0 : w.alloc (.cells #[.int .i64 lsn, .int .i64 4, .int .i64 tx, .int .i64 prev, .int .i64 wp, .int .i64 wi, .int .i64 sp, .int .i64 si, .int .i64 delta, .int .i64 id, .int .i64 grp, .int .i64 lo, .int .i64 hi, .int .i64 val, .slice la live.length lc, .slice da dirty.length dc, .int .i64 next] 55) = w0
  have b0 : Below w.heap.size w w0 := by rw [← hw0]; exact alloc_below _ _
  have RB : Hid (RBox w0 w.heap.size 55 #[.int .i64 lsn, .int .i64 4, .int .i64 tx, .int .i64 prev, .int .i64 wp, .int .i64 wi, .int .i64 sp, .int .i64 si, .int .i64 delta, .int .i64 id, .int .i64 grp, .int .i64 lo, .int .i64 hi, .int .i64 val, .slice la live.length lc, .slice da dirty.length dc, .int .i64 next]) := by rw [← hw0]; exact RBox.new _ _ _
  clear hw0
  generalize Value.agg #[.int .i64 lsn, .int .i64 4, .int .i64 tx, .int .i64 prev, .int .i64 wp, .int .i64 wi, .int .i64 sp, .int .i64 si, .int .i64 delta, .int .i64 id, .int .i64 grp, .int .i64 lo, .int .i64 hi, .int .i64 val, .slice la live.length lc, .slice da dirty.length dc, .int .i64 next] = ra
  refine (f0 _).mono ?_
  rintro e wq ⟨rfl, hq⟩
  obtain rfl : w0 = wq := hq.symm
  have c0 := (RB.out.cells.get 0 _ rfl).1
  have c1 := (RB.out.cells.get 1 _ rfl).1
  have c2 := (RB.out.cells.get 2 _ rfl).1
  have c3 := (RB.out.cells.get 3 _ rfl).1
  have c8 := (RB.out.cells.get 8 _ rfl).1
  have c9 := (RB.out.cells.get 9 _ rfl).1
  have c10 := (RB.out.cells.get 10 _ rfl).1
  have c11 := (RB.out.cells.get 11 _ rfl).1
  have c12 := (RB.out.cells.get 12 _ rfl).1
  have c13 := (RB.out.cells.get 13 _ rfl).1
  have c14 := (RB.out.cells.get 14 _ rfl).1
  have c15 := (RB.out.cells.get 15 _ rfl).1
  have c16 := (RB.out.cells.get 16 _ rfl).1
  cases q0
  · go_wp2_with fail
    go_ret
    exact ⟨by rw [← HR.out]; simp, b0⟩
  · skip
    go_wp2_with fail
    refine (fN _).mono ?_
    rintro e w1 ⟨rfl, b1⟩
    clear c0 c1 c2 c3 c8 c9 c10 c11 c12 c13 c14 c15 c16
    replace RB := hide (RB.out.below b1)
    have b2 := bnext b0 b1 (Nat.le_refl _)
    clear b0 b1
    have c0 := (RB.out.cells.get 0 _ rfl).1
    have c1 := (RB.out.cells.get 1 _ rfl).1
    have c2 := (RB.out.cells.get 2 _ rfl).1
    have c3 := (RB.out.cells.get 3 _ rfl).1
    have c8 := (RB.out.cells.get 8 _ rfl).1
    have c9 := (RB.out.cells.get 9 _ rfl).1
    have c10 := (RB.out.cells.get 10 _ rfl).1
    have c11 := (RB.out.cells.get 11 _ rfl).1
    have c12 := (RB.out.cells.get 12 _ rfl).1
    have c13 := (RB.out.cells.get 13 _ rfl).1
    have c14 := (RB.out.cells.get 14 _ rfl).1
    have c15 := (RB.out.cells.get 15 _ rfl).1
    have c16 := (RB.out.cells.get 16 _ rfl).1
    cases qN
    · go_wp2_with fail
      go_ret
      exact ⟨by rw [← HR.out]; simp, b2⟩
    · skip
      go_wp2_with fail
      refine (fT _).mono ?_
      rintro e wq ⟨rfl, hq⟩
      obtain rfl : w1 = wq := hq.symm
      go_upto_region 4 with fail
      go_cut [4] (fun s w' => s = .bool (qP && ((lsn == 0) || decide (prev < lsn))) ∧ w' = w1)
      case first =>
        go_wp2_with fail
        refine (fP _).mono ?_
        rintro e wq ⟨rfl, hq⟩
        obtain rfl : w1 = wq := hq.symm
        cases qP
        · go_wp2_with fail
          go_meet
          exact ⟨by simp, rfl⟩
        · have ⟨z, hz⟩ : ∃ g, (lsn == 0) = g := ⟨_, rfl⟩
          cases z
          · go_wp2_with fail
            go_meet
            exact ⟨by first | (simp; done) | simp [hz], rfl⟩
          · go_wp2_with fail
            go_meet
            exact ⟨by first | (simp; done) | simp [hz], rfl⟩
      case rest =>
        obtain ⟨rfl, hw⟩ := hcut
        obtain rfl : w1 = _ := hw.symm
        generalize (qP && ((lsn == 0) || decide (prev < lsn))) = qV at *
        go_upto_region 6 with fail
        clear c0 c1 c2 c3 c8 c9 c10 c11 c12 c13 c14 c15 c16
        generalize hw2 : w1.alloc (.cells #[.int .i64 id, .int .i64 grp, .int .i64 lo, .int .i64 hi, .int .i64 val] 51) = w2
        have D : Hid (Cells w2 w1.heap.size [.int .i64 id, .int .i64 grp, .int .i64 lo, .int .i64 hi, .int .i64 val]) := by rw [← hw2]; exact Cells.new _ _ _
        have hwb : Below w1.heap.size w1 w2 := by rw [← hw2]; exact alloc_below _ _
        have b3 := bnext b2 hwb (Nat.le_refl _)
        replace RB := hide (RB.out.below hwb)
        clear hw2 hwb b2
        have c0 := (RB.out.cells.get 0 _ rfl).1
        have c1 := (RB.out.cells.get 1 _ rfl).1
        have c2 := (RB.out.cells.get 2 _ rfl).1
        have c3 := (RB.out.cells.get 3 _ rfl).1
        have c8 := (RB.out.cells.get 8 _ rfl).1
        have d0 := (D.out.get 0 _ rfl).1
        have d1 := (D.out.get 1 _ rfl).1
        have d2 := (D.out.get 2 _ rfl).1
        have d3 := (D.out.get 3 _ rfl).1
        have d4 := (D.out.get 4 _ rfl).1
        go_wp2_with fail
        refine (fI _).mono ?_
        rintro e wq ⟨rfl, hq⟩
        obtain rfl : w2 = wq := hq.symm
        cases qT
        · go_wp2_with fail
          go_ret
          exact ⟨by rw [← HR.out]; simp, b3⟩
        · cases qV
          · go_wp2_with fail
            go_ret
            exact ⟨by rw [← HR.out]; simp, b3⟩
          · skip
            go_wp2_with (refine wpList_load36g RB.out rfl rfl rfl ?_)
            refine (fS _).mono ?_
            rintro e w4 ⟨rfl, bb⟩
            have b4 := bnext b3 bb (Nat.le_refl _)
            clear c0 c1 c2 c3 c8 d0 d1 d2 d3 d4
            replace RB := hide (RB.out.below bb)
            replace D := hide (D.out.below bb)
            clear bb
            have c0 := (RB.out.cells.get 0 _ rfl).1
            have c1 := (RB.out.cells.get 1 _ rfl).1
            have c2 := (RB.out.cells.get 2 _ rfl).1
            have c3 := (RB.out.cells.get 3 _ rfl).1
            have c8 := (RB.out.cells.get 8 _ rfl).1
            have d0 := (D.out.get 0 _ rfl).1
            have d1 := (D.out.get 1 _ rfl).1
            have d2 := (D.out.get 2 _ rfl).1
            have d3 := (D.out.get 3 _ rfl).1
            have d4 := (D.out.get 4 _ rfl).1
            cases qS
            · go_wp2_with fail
              go_ret
              exact ⟨by rw [← HR.out]; simp, b4⟩
            · cases qI
              · go_wp2_with fail
                go_ret
                exact ⟨by rw [← HR.out]; simp, b4⟩
              · skip
                go_wp2_with fail
                all_goals go_ret
                all_goals exact ⟨by rw [← HR.out]; first | (simp; done) | (simp; omega) | (simp_all; done) | (simp_all; omega), b4⟩
end Go.Proofs.YtblngphjoafidaaGreat
