import Derived.Test.YtlibldioliicfaaXA
import Derived.Test.YtlibldioliicfaaBig2
import Derived.Deep.DeepCutAuto
import Derived.Test.YtlibldioliicfaaEnc5
import Derived.Test.YtlibldioliicfaaRef
import Derived.Test.YtlibldioliicfaaTake
namespace Go.Proofs.Ytlibldioliicfaa
open Go.RowKit Go.QK
set_option maxRecDepth 100000
set_option maxHeartbeats 0 in
theorem rFields_5 (lsn tx prev wp wi sp si delta id grp lo hi val next : Int) (live : List LiveM) (dirty : List DirtyM) (la da : Option Addr) (lc dc : Nat) (w : World) (hl : Lies w la (liveCs live)) (hd : Lies w da (dirtyCs dirty)) :
    Calls Try.prog 59 #[.agg #[.int .i64 lsn, .int .i64 5, .int .i64 tx, .int .i64 prev, .int .i64 wp, .int .i64 wi, .int .i64 sp, .int .i64 si, .int .i64 delta, .int .i64 id, .int .i64 grp, .int .i64 lo, .int .i64 hi, .int .i64 val, .slice la live.length lc, .slice da dirty.length dc, .int .i64 next]] w fun e w' => e = .returned (.bool (fromB 0 lsn 2147483647 && (noneB live dirty next && (fromB 1 tx 2147483647 && (fromB 1 prev 2147483647 && ((lsn == 0) || decide (prev < lsn))) && apartB (RecM.mk lsn 5 tx prev wp wi sp si delta id grp lo hi val live dirty next))))) ∧ Below w.heap.size w w' := by
  have f0 := fun w => within_any lsn 0 2147483647 w
  have fN := fun w => none_any live dirty la da lc dc next w
  have fT := fun w => within_any tx 1 2147483647 w
  have fP := fun w => within_any prev 1 2147483647 w
  have fI := fun w => within_any id 1 1048576 w
  have fG := fun w => within_any grp 1 1048576 w
  have fA := fun w => apart_any (RecM.mk lsn 5 tx prev wp wi sp si delta id grp lo hi val live dirty next) la da lc dc w
  have fS := fun w => slots_any (RecM.mk lsn 5 tx prev wp wi sp si delta id grp lo hi val live dirty next) la da lc dc w
  have fQ := fun w a b => rPoints_any live dirty la da lc dc next lsn w a b
  simp only [recC] at fA fS
  generalize fromB 0 lsn 2147483647 = q0 at *
  generalize noneB live dirty next = qN at *
  generalize fromB 1 tx 2147483647 = qT at *
  generalize fromB 1 prev 2147483647 = qP at *
  generalize fromB 1 id 1048576 = qI at *
  generalize fromB 1 grp 1048576 = qG at *
  generalize apartB (RecM.mk lsn 5 tx prev wp wi sp si delta id grp lo hi val live dirty next) = qA at *
  generalize slots2B (RecM.mk lsn 5 tx prev wp wi sp si delta id grp lo hi val live dirty next) = qS at *
  generalize pointsB true live dirty next lsn = qQ at *
  have HL := hide hl
  have HD := hide hd
  clear hl hd
  generalize hR : (q0 && (qN && (qT && (qP && ((lsn == 0) || decide (prev < lsn))) && qA))) = R
  have HR := hide hR
  clear hR
  go_enter Try.func59, Try.ntmps59
  go_wp2_with fail
  generalize hw0 : w.alloc (.cells #[.int .i64 lsn, .int .i64 5, .int .i64 tx, .int .i64 prev, .int .i64 wp, .int .i64 wi, .int .i64 sp, .int .i64 si, .int .i64 delta, .int .i64 id, .int .i64 grp, .int .i64 lo, .int .i64 hi, .int .i64 val, .slice la live.length lc, .slice da dirty.length dc, .int .i64 next] 36) = w0
  have b0 : Below w.heap.size w w0 := by rw [← hw0]; exact alloc_below _ _
  have RB : Hid (RBox w0 w.heap.size 36 #[.int .i64 lsn, .int .i64 5, .int .i64 tx, .int .i64 prev, .int .i64 wp, .int .i64 wi, .int .i64 sp, .int .i64 si, .int .i64 delta, .int .i64 id, .int .i64 grp, .int .i64 lo, .int .i64 hi, .int .i64 val, .slice la live.length lc, .slice da dirty.length dc, .int .i64 next]) := by rw [← hw0]; exact RBox.new _ _ _
  clear hw0
  generalize Value.agg #[.int .i64 lsn, .int .i64 5, .int .i64 tx, .int .i64 prev, .int .i64 wp, .int .i64 wi, .int .i64 sp, .int .i64 si, .int .i64 delta, .int .i64 id, .int .i64 grp, .int .i64 lo, .int .i64 hi, .int .i64 val, .slice la live.length lc, .slice da dirty.length dc, .int .i64 next] = ra
  refine (f0 _).mono ?_
  rintro e wq ⟨rfl, hq⟩
  obtain rfl : w0 = wq := hq.symm
  have c0 := (RB.out.cells.get 0 _ rfl).1
  have c1 := (RB.out.cells.get 1 _ rfl).1
  have c2 := (RB.out.cells.get 2 _ rfl).1
  have c3 := (RB.out.cells.get 3 _ rfl).1
  have c8 := (RB.out.cells.get 8 _ rfl).1
  have c9 := (RB.out.cells.get 9 _ rfl).1
  have c10 := (RB.out.cells.get 10 _ rfl).1
  have c11 := (RB.out.cells.get 11 _ rfl).1
  have c12 := (RB.out.cells.get 12 _ rfl).1
  have c13 := (RB.out.cells.get 13 _ rfl).1
  have c14 := (RB.out.cells.get 14 _ rfl).1
  have c15 := (RB.out.cells.get 15 _ rfl).1
  have c16 := (RB.out.cells.get 16 _ rfl).1
  cases q0
  · go_wp2_with fail
    go_ret
    exact ⟨by rw [← HR.out]; simp, b0⟩
  · skip
    go_wp2_with fail
    refine (fN _).mono ?_
    rintro e w1 ⟨rfl, b1⟩
    clear c0 c1 c2 c3 c8 c9 c10 c11 c12 c13 c14 c15 c16
    replace RB := hide (RB.out.below b1)
    have b2 := bnext b0 b1 (Nat.le_refl _)
    clear b0 b1
    have c0 := (RB.out.cells.get 0 _ rfl).1
    have c1 := (RB.out.cells.get 1 _ rfl).1
    have c2 := (RB.out.cells.get 2 _ rfl).1
    have c3 := (RB.out.cells.get 3 _ rfl).1
    have c8 := (RB.out.cells.get 8 _ rfl).1
    have c9 := (RB.out.cells.get 9 _ rfl).1
    have c10 := (RB.out.cells.get 10 _ rfl).1
    have c11 := (RB.out.cells.get 11 _ rfl).1
    have c12 := (RB.out.cells.get 12 _ rfl).1
    have c13 := (RB.out.cells.get 13 _ rfl).1
    have c14 := (RB.out.cells.get 14 _ rfl).1
    have c15 := (RB.out.cells.get 15 _ rfl).1
    have c16 := (RB.out.cells.get 16 _ rfl).1
    cases qN
    · go_wp2_with fail
      go_ret
      exact ⟨by rw [← HR.out]; simp, b2⟩
    · skip
      go_wp2_with fail
      refine (fT _).mono ?_
      rintro e wq ⟨rfl, hq⟩
      obtain rfl : w1 = wq := hq.symm
      go_upto_region 4 with fail
      go_cut [4] (fun s w' => s = .bool (qP && ((lsn == 0) || decide (prev < lsn))) ∧ w' = w1)
      case first =>
        go_wp2_with fail
        refine (fP _).mono ?_
        rintro e wq ⟨rfl, hq⟩
        obtain rfl : w1 = wq := hq.symm
        cases qP
        · go_wp2_with fail
          go_meet
          exact ⟨by simp, rfl⟩
        · have ⟨z, hz⟩ : ∃ g, (lsn == 0) = g := ⟨_, rfl⟩
          cases z
          · go_wp2_with fail
            go_meet
            exact ⟨by first | (simp; done) | simp [hz], rfl⟩
          · go_wp2_with fail
            go_meet
            exact ⟨by first | (simp; done) | simp [hz], rfl⟩
      case rest =>
        obtain ⟨rfl, hw⟩ := hcut
        obtain rfl : w1 = _ := hw.symm
        generalize (qP && ((lsn == 0) || decide (prev < lsn))) = qV at *
        go_upto_region 6 with fail
        clear c0 c1 c2 c3 c8 c9 c10 c11 c12 c13 c14 c15 c16
        generalize hw2 : w1.alloc (.cells #[.int .i64 id, .int .i64 grp, .int .i64 lo, .int .i64 hi, .int .i64 val] 30) = w2
        have D : Hid (Cells w2 w1.heap.size [.int .i64 id, .int .i64 grp, .int .i64 lo, .int .i64 hi, .int .i64 val]) := by rw [← hw2]; exact Cells.new _ _ _
        have hwb : Below w1.heap.size w1 w2 := by rw [← hw2]; exact alloc_below _ _
        have b3 := bnext b2 hwb (Nat.le_refl _)
        replace RB := hide (RB.out.below hwb)
        clear hw2 hwb b2
        have c0 := (RB.out.cells.get 0 _ rfl).1
        have c1 := (RB.out.cells.get 1 _ rfl).1
        have c2 := (RB.out.cells.get 2 _ rfl).1
        have c3 := (RB.out.cells.get 3 _ rfl).1
        have c8 := (RB.out.cells.get 8 _ rfl).1
        have d0 := (D.out.get 0 _ rfl).1
        have d1 := (D.out.get 1 _ rfl).1
        have d2 := (D.out.get 2 _ rfl).1
        have d3 := (D.out.get 3 _ rfl).1
        have d4 := (D.out.get 4 _ rfl).1
        go_wp2_with fail
        refine (fI _).mono ?_
        rintro e wq ⟨rfl, hq⟩
        obtain rfl : w2 = wq := hq.symm
        cases qT
        · go_wp2_with fail
          go_ret
          exact ⟨by rw [← HR.out]; simp, b3⟩
        · cases qV
          · go_wp2_with fail
            go_ret
            exact ⟨by rw [← HR.out]; simp, b3⟩
          · skip
            go_wp2_with (refine wpList_load36g RB.out rfl rfl rfl ?_)
            refine (fA _).mono ?_
            rintro e w4 ⟨rfl, bb⟩
            have b4 := bnext b3 bb (Nat.le_refl _)
            go_wp2_with fail
            all_goals go_ret
            all_goals exact ⟨by rw [← HR.out]; first | (simp; done) | (simp; omega) | (simp_all; done) | (simp_all; omega), b4⟩
set_option maxHeartbeats 0 in
theorem rFields_6 (lsn tx prev wp wi sp si delta id grp lo hi val next : Int) (live : List LiveM) (dirty : List DirtyM) (la da : Option Addr) (lc dc : Nat) (w : World) (hl : Lies w la (liveCs live)) (hd : Lies w da (dirtyCs dirty)) :
    Calls Try.prog 59 #[.agg #[.int .i64 lsn, .int .i64 6, .int .i64 tx, .int .i64 prev, .int .i64 wp, .int .i64 wi, .int .i64 sp, .int .i64 si, .int .i64 delta, .int .i64 id, .int .i64 grp, .int .i64 lo, .int .i64 hi, .int .i64 val, .slice la live.length lc, .slice da dirty.length dc, .int .i64 next]] w fun e w' => e = .returned (.bool (fromB 0 lsn 2147483647 && (noneB live dirty next && (fromB 1 tx 2147483647 && (fromB 1 prev 2147483647 && ((lsn == 0) || decide (prev < lsn))) && apartB (RecM.mk lsn 6 tx prev wp wi sp si delta id grp lo hi val live dirty next))))) ∧ Below w.heap.size w w' := by
  have f0 := fun w => within_any lsn 0 2147483647 w
  have fN := fun w => none_any live dirty la da lc dc next w
  have fT := fun w => within_any tx 1 2147483647 w
  have fP := fun w => within_any prev 1 2147483647 w
  have fI := fun w => within_any id 1 1048576 w
  have fG := fun w => within_any grp 1 1048576 w
  have fA := fun w => apart_any (RecM.mk lsn 6 tx prev wp wi sp si delta id grp lo hi val live dirty next) la da lc dc w
  have fS := fun w => slots_any (RecM.mk lsn 6 tx prev wp wi sp si delta id grp lo hi val live dirty next) la da lc dc w
  have fQ := fun w a b => rPoints_any live dirty la da lc dc next lsn w a b
  simp only [recC] at fA fS
  generalize fromB 0 lsn 2147483647 = q0 at *
  generalize noneB live dirty next = qN at *
  generalize fromB 1 tx 2147483647 = qT at *
  generalize fromB 1 prev 2147483647 = qP at *
  generalize fromB 1 id 1048576 = qI at *
  generalize fromB 1 grp 1048576 = qG at *
  generalize apartB (RecM.mk lsn 6 tx prev wp wi sp si delta id grp lo hi val live dirty next) = qA at *
  generalize slots2B (RecM.mk lsn 6 tx prev wp wi sp si delta id grp lo hi val live dirty next) = qS at *
  generalize pointsB true live dirty next lsn = qQ at *
  have HL := hide hl
  have HD := hide hd
  clear hl hd
  generalize hR : (q0 && (qN && (qT && (qP && ((lsn == 0) || decide (prev < lsn))) && qA))) = R
  have HR := hide hR
  clear hR
  go_enter Try.func59, Try.ntmps59
  go_wp2_with fail
  generalize hw0 : w.alloc (.cells #[.int .i64 lsn, .int .i64 6, .int .i64 tx, .int .i64 prev, .int .i64 wp, .int .i64 wi, .int .i64 sp, .int .i64 si, .int .i64 delta, .int .i64 id, .int .i64 grp, .int .i64 lo, .int .i64 hi, .int .i64 val, .slice la live.length lc, .slice da dirty.length dc, .int .i64 next] 36) = w0
  have b0 : Below w.heap.size w w0 := by rw [← hw0]; exact alloc_below _ _
  have RB : Hid (RBox w0 w.heap.size 36 #[.int .i64 lsn, .int .i64 6, .int .i64 tx, .int .i64 prev, .int .i64 wp, .int .i64 wi, .int .i64 sp, .int .i64 si, .int .i64 delta, .int .i64 id, .int .i64 grp, .int .i64 lo, .int .i64 hi, .int .i64 val, .slice la live.length lc, .slice da dirty.length dc, .int .i64 next]) := by rw [← hw0]; exact RBox.new _ _ _
  clear hw0
  generalize Value.agg #[.int .i64 lsn, .int .i64 6, .int .i64 tx, .int .i64 prev, .int .i64 wp, .int .i64 wi, .int .i64 sp, .int .i64 si, .int .i64 delta, .int .i64 id, .int .i64 grp, .int .i64 lo, .int .i64 hi, .int .i64 val, .slice la live.length lc, .slice da dirty.length dc, .int .i64 next] = ra
  refine (f0 _).mono ?_
  rintro e wq ⟨rfl, hq⟩
  obtain rfl : w0 = wq := hq.symm
  have c0 := (RB.out.cells.get 0 _ rfl).1
  have c1 := (RB.out.cells.get 1 _ rfl).1
  have c2 := (RB.out.cells.get 2 _ rfl).1
  have c3 := (RB.out.cells.get 3 _ rfl).1
  have c8 := (RB.out.cells.get 8 _ rfl).1
  have c9 := (RB.out.cells.get 9 _ rfl).1
  have c10 := (RB.out.cells.get 10 _ rfl).1
  have c11 := (RB.out.cells.get 11 _ rfl).1
  have c12 := (RB.out.cells.get 12 _ rfl).1
  have c13 := (RB.out.cells.get 13 _ rfl).1
  have c14 := (RB.out.cells.get 14 _ rfl).1
  have c15 := (RB.out.cells.get 15 _ rfl).1
  have c16 := (RB.out.cells.get 16 _ rfl).1
  cases q0
  · go_wp2_with fail
    go_ret
    exact ⟨by rw [← HR.out]; simp, b0⟩
  · skip
    go_wp2_with fail
    refine (fN _).mono ?_
    rintro e w1 ⟨rfl, b1⟩
    clear c0 c1 c2 c3 c8 c9 c10 c11 c12 c13 c14 c15 c16
    replace RB := hide (RB.out.below b1)
    have b2 := bnext b0 b1 (Nat.le_refl _)
    clear b0 b1
    have c0 := (RB.out.cells.get 0 _ rfl).1
    have c1 := (RB.out.cells.get 1 _ rfl).1
    have c2 := (RB.out.cells.get 2 _ rfl).1
    have c3 := (RB.out.cells.get 3 _ rfl).1
    have c8 := (RB.out.cells.get 8 _ rfl).1
    have c9 := (RB.out.cells.get 9 _ rfl).1
    have c10 := (RB.out.cells.get 10 _ rfl).1
    have c11 := (RB.out.cells.get 11 _ rfl).1
    have c12 := (RB.out.cells.get 12 _ rfl).1
    have c13 := (RB.out.cells.get 13 _ rfl).1
    have c14 := (RB.out.cells.get 14 _ rfl).1
    have c15 := (RB.out.cells.get 15 _ rfl).1
    have c16 := (RB.out.cells.get 16 _ rfl).1
    cases qN
    · go_wp2_with fail
      go_ret
      exact ⟨by rw [← HR.out]; simp, b2⟩
    · skip
      go_wp2_with fail
      refine (fT _).mono ?_
      rintro e wq ⟨rfl, hq⟩
      obtain rfl : w1 = wq := hq.symm
      go_upto_region 4 with fail
      go_cut [4] (fun s w' => s = .bool (qP && ((lsn == 0) || decide (prev < lsn))) ∧ w' = w1)
      case first =>
        go_wp2_with fail
        refine (fP _).mono ?_
        rintro e wq ⟨rfl, hq⟩
        obtain rfl : w1 = wq := hq.symm
        cases qP
        · go_wp2_with fail
          go_meet
          exact ⟨by simp, rfl⟩
        · have ⟨z, hz⟩ : ∃ g, (lsn == 0) = g := ⟨_, rfl⟩
          cases z
          · go_wp2_with fail
            go_meet
            exact ⟨by first | (simp; done) | simp [hz], rfl⟩
          · go_wp2_with fail
            go_meet
            exact ⟨by first | (simp; done) | simp [hz], rfl⟩
      case rest =>
        obtain ⟨rfl, hw⟩ := hcut
        obtain rfl : w1 = _ := hw.symm
        generalize (qP && ((lsn == 0) || decide (prev < lsn))) = qV at *
        go_upto_region 6 with fail
        clear c0 c1 c2 c3 c8 c9 c10 c11 c12 c13 c14 c15 c16
        generalize hw2 : w1.alloc (.cells #[.int .i64 id, .int .i64 grp, .int .i64 lo, .int .i64 hi, .int .i64 val] 30) = w2
        have D : Hid (Cells w2 w1.heap.size [.int .i64 id, .int .i64 grp, .int .i64 lo, .int .i64 hi, .int .i64 val]) := by rw [← hw2]; exact Cells.new _ _ _
        have hwb : Below w1.heap.size w1 w2 := by rw [← hw2]; exact alloc_below _ _
        have b3 := bnext b2 hwb (Nat.le_refl _)
        replace RB := hide (RB.out.below hwb)
        clear hw2 hwb b2
        have c0 := (RB.out.cells.get 0 _ rfl).1
        have c1 := (RB.out.cells.get 1 _ rfl).1
        have c2 := (RB.out.cells.get 2 _ rfl).1
        have c3 := (RB.out.cells.get 3 _ rfl).1
        have c8 := (RB.out.cells.get 8 _ rfl).1
        have d0 := (D.out.get 0 _ rfl).1
        have d1 := (D.out.get 1 _ rfl).1
        have d2 := (D.out.get 2 _ rfl).1
        have d3 := (D.out.get 3 _ rfl).1
        have d4 := (D.out.get 4 _ rfl).1
        go_wp2_with fail
        refine (fI _).mono ?_
        rintro e wq ⟨rfl, hq⟩
        obtain rfl : w2 = wq := hq.symm
        cases qT
        · go_wp2_with fail
          go_ret
          exact ⟨by rw [← HR.out]; simp, b3⟩
        · cases qV
          · go_wp2_with fail
            go_ret
            exact ⟨by rw [← HR.out]; simp, b3⟩
          · skip
            go_wp2_with (refine wpList_load36g RB.out rfl rfl rfl ?_)
            refine (fA _).mono ?_
            rintro e w4 ⟨rfl, bb⟩
            have b4 := bnext b3 bb (Nat.le_refl _)
            go_wp2_with fail
            all_goals go_ret
            all_goals exact ⟨by rw [← HR.out]; first | (simp; done) | (simp; omega) | (simp_all; done) | (simp_all; omega), b4⟩
end Go.Proofs.Ytlibldioliicfaa
namespace Go.Proofs.Ytlibldioliicfaa
open Go.RowKit Go.QK
set_option maxRecDepth 100000
set_option maxHeartbeats 0 in
theorem rFields_7 (lsn tx prev wp wi sp si delta id grp lo hi val next : Int) (live : List LiveM) (dirty : List DirtyM) (la da : Option Addr) (lc dc : Nat) (w : World) (hl : Lies w la (liveCs live)) (hd : Lies w da (dirtyCs dirty)) :
    Calls Try.prog 59 #[.agg #[.int .i64 lsn, .int .i64 7, .int .i64 tx, .int .i64 prev, .int .i64 wp, .int .i64 wi, .int .i64 sp, .int .i64 si, .int .i64 delta, .int .i64 id, .int .i64 grp, .int .i64 lo, .int .i64 hi, .int .i64 val, .slice la live.length lc, .slice da dirty.length dc, .int .i64 next]] w fun e w' => e = .returned (.bool (fromB 0 lsn 2147483647 && (noneB live dirty next && (fromB 1 tx 2147483647 && (fromB 1 prev 2147483647 && ((lsn == 0) || decide (prev < lsn))) && apartB (RecM.mk lsn 7 tx prev wp wi sp si delta id grp lo hi val live dirty next))))) ∧ Below w.heap.size w w' := by
  have f0 := fun w => within_any lsn 0 2147483647 w
  have fN := fun w => none_any live dirty la da lc dc next w
  have fT := fun w => within_any tx 1 2147483647 w
  have fP := fun w => within_any prev 1 2147483647 w
  have fI := fun w => within_any id 1 1048576 w
  have fG := fun w => within_any grp 1 1048576 w
  have fA := fun w => apart_any (RecM.mk lsn 7 tx prev wp wi sp si delta id grp lo hi val live dirty next) la da lc dc w
  have fS := fun w => slots_any (RecM.mk lsn 7 tx prev wp wi sp si delta id grp lo hi val live dirty next) la da lc dc w
  have fQ := fun w a b => rPoints_any live dirty la da lc dc next lsn w a b
  simp only [recC] at fA fS
  generalize fromB 0 lsn 2147483647 = q0 at *
  generalize noneB live dirty next = qN at *
  generalize fromB 1 tx 2147483647 = qT at *
  generalize fromB 1 prev 2147483647 = qP at *
  generalize fromB 1 id 1048576 = qI at *
  generalize fromB 1 grp 1048576 = qG at *
  generalize apartB (RecM.mk lsn 7 tx prev wp wi sp si delta id grp lo hi val live dirty next) = qA at *
  generalize slots2B (RecM.mk lsn 7 tx prev wp wi sp si delta id grp lo hi val live dirty next) = qS at *
  generalize pointsB true live dirty next lsn = qQ at *
  have HL := hide hl
  have HD := hide hd
  clear hl hd
  generalize hR : (q0 && (qN && (qT && (qP && ((lsn == 0) || decide (prev < lsn))) && qA))) = R
  have HR := hide hR
  clear hR
  go_enter Try.func59, Try.ntmps59
  go_wp2_with fail
  generalize hw0 : w.alloc (.cells #[.int .i64 lsn, .int .i64 7, .int .i64 tx, .int .i64 prev, .int .i64 wp, .int .i64 wi, .int .i64 sp, .int .i64 si, .int .i64 delta, .int .i64 id, .int .i64 grp, .int .i64 lo, .int .i64 hi, .int .i64 val, .slice la live.length lc, .slice da dirty.length dc, .int .i64 next] 36) = w0
  have b0 : Below w.heap.size w w0 := by rw [← hw0]; exact alloc_below _ _
  have RB : Hid (RBox w0 w.heap.size 36 #[.int .i64 lsn, .int .i64 7, .int .i64 tx, .int .i64 prev, .int .i64 wp, .int .i64 wi, .int .i64 sp, .int .i64 si, .int .i64 delta, .int .i64 id, .int .i64 grp, .int .i64 lo, .int .i64 hi, .int .i64 val, .slice la live.length lc, .slice da dirty.length dc, .int .i64 next]) := by rw [← hw0]; exact RBox.new _ _ _
  clear hw0
  generalize Value.agg #[.int .i64 lsn, .int .i64 7, .int .i64 tx, .int .i64 prev, .int .i64 wp, .int .i64 wi, .int .i64 sp, .int .i64 si, .int .i64 delta, .int .i64 id, .int .i64 grp, .int .i64 lo, .int .i64 hi, .int .i64 val, .slice la live.length lc, .slice da dirty.length dc, .int .i64 next] = ra
  refine (f0 _).mono ?_
  rintro e wq ⟨rfl, hq⟩
  obtain rfl : w0 = wq := hq.symm
  have c0 := (RB.out.cells.get 0 _ rfl).1
  have c1 := (RB.out.cells.get 1 _ rfl).1
  have c2 := (RB.out.cells.get 2 _ rfl).1
  have c3 := (RB.out.cells.get 3 _ rfl).1
  have c8 := (RB.out.cells.get 8 _ rfl).1
  have c9 := (RB.out.cells.get 9 _ rfl).1
  have c10 := (RB.out.cells.get 10 _ rfl).1
  have c11 := (RB.out.cells.get 11 _ rfl).1
  have c12 := (RB.out.cells.get 12 _ rfl).1
  have c13 := (RB.out.cells.get 13 _ rfl).1
  have c14 := (RB.out.cells.get 14 _ rfl).1
  have c15 := (RB.out.cells.get 15 _ rfl).1
  have c16 := (RB.out.cells.get 16 _ rfl).1
  cases q0
  · go_wp2_with fail
    go_ret
    exact ⟨by rw [← HR.out]; simp, b0⟩
  · skip
    go_wp2_with fail
    refine (fN _).mono ?_
    rintro e w1 ⟨rfl, b1⟩
    clear c0 c1 c2 c3 c8 c9 c10 c11 c12 c13 c14 c15 c16
    replace RB := hide (RB.out.below b1)
    have b2 := bnext b0 b1 (Nat.le_refl _)
    clear b0 b1
    have c0 := (RB.out.cells.get 0 _ rfl).1
    have c1 := (RB.out.cells.get 1 _ rfl).1
    have c2 := (RB.out.cells.get 2 _ rfl).1
    have c3 := (RB.out.cells.get 3 _ rfl).1
    have c8 := (RB.out.cells.get 8 _ rfl).1
    have c9 := (RB.out.cells.get 9 _ rfl).1
    have c10 := (RB.out.cells.get 10 _ rfl).1
    have c11 := (RB.out.cells.get 11 _ rfl).1
    have c12 := (RB.out.cells.get 12 _ rfl).1
    have c13 := (RB.out.cells.get 13 _ rfl).1
    have c14 := (RB.out.cells.get 14 _ rfl).1
    have c15 := (RB.out.cells.get 15 _ rfl).1
    have c16 := (RB.out.cells.get 16 _ rfl).1
    cases qN
    · go_wp2_with fail
      go_ret
      exact ⟨by rw [← HR.out]; simp, b2⟩
    · skip
      go_wp2_with fail
      refine (fT _).mono ?_
      rintro e wq ⟨rfl, hq⟩
      obtain rfl : w1 = wq := hq.symm
      go_upto_region 4 with fail
      go_cut [4] (fun s w' => s = .bool (qP && ((lsn == 0) || decide (prev < lsn))) ∧ w' = w1)
      case first =>
        go_wp2_with fail
        refine (fP _).mono ?_
        rintro e wq ⟨rfl, hq⟩
        obtain rfl : w1 = wq := hq.symm
        cases qP
        · go_wp2_with fail
          go_meet
          exact ⟨by simp, rfl⟩
        · have ⟨z, hz⟩ : ∃ g, (lsn == 0) = g := ⟨_, rfl⟩
          cases z
          · go_wp2_with fail
            go_meet
            exact ⟨by first | (simp; done) | simp [hz], rfl⟩
          · go_wp2_with fail
            go_meet
            exact ⟨by first | (simp; done) | simp [hz], rfl⟩
      case rest =>
        obtain ⟨rfl, hw⟩ := hcut
        obtain rfl : w1 = _ := hw.symm
        generalize (qP && ((lsn == 0) || decide (prev < lsn))) = qV at *
        go_upto_region 6 with fail
        clear c0 c1 c2 c3 c8 c9 c10 c11 c12 c13 c14 c15 c16
        generalize hw2 : w1.alloc (.cells #[.int .i64 id, .int .i64 grp, .int .i64 lo, .int .i64 hi, .int .i64 val] 30) = w2
        have D : Hid (Cells w2 w1.heap.size [.int .i64 id, .int .i64 grp, .int .i64 lo, .int .i64 hi, .int .i64 val]) := by rw [← hw2]; exact Cells.new _ _ _
        have hwb : Below w1.heap.size w1 w2 := by rw [← hw2]; exact alloc_below _ _
        have b3 := bnext b2 hwb (Nat.le_refl _)
        replace RB := hide (RB.out.below hwb)
        clear hw2 hwb b2
        have c0 := (RB.out.cells.get 0 _ rfl).1
        have c1 := (RB.out.cells.get 1 _ rfl).1
        have c2 := (RB.out.cells.get 2 _ rfl).1
        have c3 := (RB.out.cells.get 3 _ rfl).1
        have c8 := (RB.out.cells.get 8 _ rfl).1
        have d0 := (D.out.get 0 _ rfl).1
        have d1 := (D.out.get 1 _ rfl).1
        have d2 := (D.out.get 2 _ rfl).1
        have d3 := (D.out.get 3 _ rfl).1
        have d4 := (D.out.get 4 _ rfl).1
        go_wp2_with fail
        refine (fI _).mono ?_
        rintro e wq ⟨rfl, hq⟩
        obtain rfl : w2 = wq := hq.symm
        cases qT
        · go_wp2_with fail
          go_ret
          exact ⟨by rw [← HR.out]; simp, b3⟩
        · cases qV
          · go_wp2_with fail
            go_ret
            exact ⟨by rw [← HR.out]; simp, b3⟩
          · skip
            go_wp2_with (refine wpList_load36g RB.out rfl rfl rfl ?_)
            refine (fA _).mono ?_
            rintro e w4 ⟨rfl, bb⟩
            have b4 := bnext b3 bb (Nat.le_refl _)
            go_wp2_with fail
            all_goals go_ret
            all_goals exact ⟨by rw [← HR.out]; first | (simp; done) | (simp; omega) | (simp_all; done) | (simp_all; omega), b4⟩
set_option maxHeartbeats 0 in
theorem rFields_8 (lsn tx prev wp wi sp si delta id grp lo hi val next : Int) (live : List LiveM) (dirty : List DirtyM) (la da : Option Addr) (lc dc : Nat) (w : World) (hl : Lies w la (liveCs live)) (hd : Lies w da (dirtyCs dirty)) :
    Calls Try.prog 59 #[.agg #[.int .i64 lsn, .int .i64 8, .int .i64 tx, .int .i64 prev, .int .i64 wp, .int .i64 wi, .int .i64 sp, .int .i64 si, .int .i64 delta, .int .i64 id, .int .i64 grp, .int .i64 lo, .int .i64 hi, .int .i64 val, .slice la live.length lc, .slice da dirty.length dc, .int .i64 next]] w fun e w' => e = .returned (.bool (fromB 0 lsn 2147483647 && (((tx == 0) && (prev == 0) && apartB (RecM.mk lsn 8 tx prev wp wi sp si delta id grp lo hi val live dirty next) && pointsB true live dirty next lsn)))) ∧ Below w.heap.size w w' := by
  have f0 := fun w => within_any lsn 0 2147483647 w
  have fN := fun w => none_any live dirty la da lc dc next w
  have fT := fun w => within_any tx 1 2147483647 w
  have fP := fun w => within_any prev 1 2147483647 w
  have fI := fun w => within_any id 1 1048576 w
  have fG := fun w => within_any grp 1 1048576 w
  have fA := fun w => apart_any (RecM.mk lsn 8 tx prev wp wi sp si delta id grp lo hi val live dirty next) la da lc dc w
  have fS := fun w => slots_any (RecM.mk lsn 8 tx prev wp wi sp si delta id grp lo hi val live dirty next) la da lc dc w
  have fQ := fun w a b => rPoints_any live dirty la da lc dc next lsn w a b
  simp only [recC] at fA fS
  generalize fromB 0 lsn 2147483647 = q0 at *
  generalize noneB live dirty next = qN at *
  generalize fromB 1 tx 2147483647 = qT at *
  generalize fromB 1 prev 2147483647 = qP at *
  generalize fromB 1 id 1048576 = qI at *
  generalize fromB 1 grp 1048576 = qG at *
  generalize apartB (RecM.mk lsn 8 tx prev wp wi sp si delta id grp lo hi val live dirty next) = qA at *
  generalize slots2B (RecM.mk lsn 8 tx prev wp wi sp si delta id grp lo hi val live dirty next) = qS at *
  generalize pointsB true live dirty next lsn = qQ at *
  have HL := hide hl
  have HD := hide hd
  clear hl hd
  generalize hR : (q0 && (((tx == 0) && (prev == 0) && qA && qQ))) = R
  have HR := hide hR
  clear hR
  have ⟨qz, hqz⟩ : ∃ g, (prev == 0) = g := ⟨_, rfl⟩
  rw [hqz] at HR
  have ⟨qt0, hqt0⟩ : ∃ g, (tx == 0) = g := ⟨_, rfl⟩
  rw [hqt0] at HR
  go_enter Try.func59, Try.ntmps59
  go_wp2_with fail
  generalize hw1 : w.alloc (.cells #[.int .i64 lsn, .int .i64 8, .int .i64 tx, .int .i64 prev, .int .i64 wp, .int .i64 wi, .int .i64 sp, .int .i64 si, .int .i64 delta, .int .i64 id, .int .i64 grp, .int .i64 lo, .int .i64 hi, .int .i64 val, .slice la live.length lc, .slice da dirty.length dc, .int .i64 next] 36) = w1
  have b2 : Below w.heap.size w w1 := by rw [← hw1]; exact alloc_below _ _
  have RB : Hid (RBox w1 w.heap.size 36 #[.int .i64 lsn, .int .i64 8, .int .i64 tx, .int .i64 prev, .int .i64 wp, .int .i64 wi, .int .i64 sp, .int .i64 si, .int .i64 delta, .int .i64 id, .int .i64 grp, .int .i64 lo, .int .i64 hi, .int .i64 val, .slice la live.length lc, .slice da dirty.length dc, .int .i64 next]) := by rw [← hw1]; exact RBox.new _ _ _
  clear hw1
  generalize Value.agg #[.int .i64 lsn, .int .i64 8, .int .i64 tx, .int .i64 prev, .int .i64 wp, .int .i64 wi, .int .i64 sp, .int .i64 si, .int .i64 delta, .int .i64 id, .int .i64 grp, .int .i64 lo, .int .i64 hi, .int .i64 val, .slice la live.length lc, .slice da dirty.length dc, .int .i64 next] = ra
  refine (f0 _).mono ?_
  rintro e wq ⟨rfl, hq⟩
  obtain rfl : w1 = wq := hq.symm
  have c0 := (RB.out.cells.get 0 _ rfl).1
  have c1 := (RB.out.cells.get 1 _ rfl).1
  have c2 := (RB.out.cells.get 2 _ rfl).1
  have c3 := (RB.out.cells.get 3 _ rfl).1
  have c8 := (RB.out.cells.get 8 _ rfl).1
  have c9 := (RB.out.cells.get 9 _ rfl).1
  have c10 := (RB.out.cells.get 10 _ rfl).1
  have c11 := (RB.out.cells.get 11 _ rfl).1
  have c12 := (RB.out.cells.get 12 _ rfl).1
  have c13 := (RB.out.cells.get 13 _ rfl).1
  have c14 := (RB.out.cells.get 14 _ rfl).1
  have c15 := (RB.out.cells.get 15 _ rfl).1
  have c16 := (RB.out.cells.get 16 _ rfl).1
  cases q0
  · go_wp2_with fail
    go_ret
    exact ⟨by rw [← HR.out]; simp, b2⟩
  · skip
    go_wp2_with fail
    refine (fT _).mono ?_
    rintro e wq ⟨rfl, hq⟩
    obtain rfl : w1 = wq := hq.symm
    go_upto_region 4 with fail
    go_cut [4] (fun s w' => s = .bool (qP && ((lsn == 0) || decide (prev < lsn))) ∧ w' = w1)
    case first =>
      go_wp2_with fail
      refine (fP _).mono ?_
      rintro e wq ⟨rfl, hq⟩
      obtain rfl : w1 = wq := hq.symm
      cases qP
      · go_wp2_with fail
        go_meet
        exact ⟨by simp, rfl⟩
      · have ⟨z, hz⟩ : ∃ g, (lsn == 0) = g := ⟨_, rfl⟩
        cases z
        · go_wp2_with fail
          go_meet
          exact ⟨by first | (simp; done) | simp [hz], rfl⟩
        · go_wp2_with fail
          go_meet
          exact ⟨by first | (simp; done) | simp [hz], rfl⟩
    case rest =>
      obtain ⟨rfl, hw⟩ := hcut
      obtain rfl : w1 = _ := hw.symm
      generalize (qP && ((lsn == 0) || decide (prev < lsn))) = qV
      go_upto_region 6 with fail
      clear c0 c1 c2 c3 c8 c9 c10 c11 c12 c13 c14 c15 c16
      generalize hw2 : w1.alloc (.cells #[.int .i64 id, .int .i64 grp, .int .i64 lo, .int .i64 hi, .int .i64 val] 30) = w2
      have D : Hid (Cells w2 w1.heap.size [.int .i64 id, .int .i64 grp, .int .i64 lo, .int .i64 hi, .int .i64 val]) := by rw [← hw2]; exact Cells.new _ _ _
      have hwb : Below w1.heap.size w1 w2 := by rw [← hw2]; exact alloc_below _ _
      have b3 := bnext b2 hwb (Nat.le_refl _)
      replace RB := hide (RB.out.below hwb)
      clear hw2 hwb b2
      have c0 := (RB.out.cells.get 0 _ rfl).1
      have c1 := (RB.out.cells.get 1 _ rfl).1
      have c2 := (RB.out.cells.get 2 _ rfl).1
      have c3 := (RB.out.cells.get 3 _ rfl).1
      have c8 := (RB.out.cells.get 8 _ rfl).1
      have c14 := (RB.out.cells.get 14 _ rfl).1
      have c15 := (RB.out.cells.get 15 _ rfl).1
      have c16 := (RB.out.cells.get 16 _ rfl).1
      have d0 := (D.out.get 0 _ rfl).1
      have d1 := (D.out.get 1 _ rfl).1
      have d2 := (D.out.get 2 _ rfl).1
      have d3 := (D.out.get 3 _ rfl).1
      have d4 := (D.out.get 4 _ rfl).1
      go_wp2_with fail
      refine (fI _).mono ?_
      rintro e wq ⟨rfl, hq⟩
      obtain rfl : w2 = wq := hq.symm
      cases qt0
      · go_wp2_with fail
        go_ret
        exact ⟨by rw [← HR.out]; simp, b3⟩
      · cases qz
        · go_wp2_with fail
          go_ret
          exact ⟨by rw [← HR.out]; simp, b3⟩
        · skip
          go_wp2_with (refine wpList_load36g RB.out rfl rfl rfl ?_)
          refine (fA _).mono ?_
          rintro e w4 ⟨rfl, bb⟩
          have b4 := bnext b3 bb (Nat.le_refl _)
          clear c0 c1 c2 c3 c8 c14 c15 c16 d0 d1 d2 d3 d4
          replace RB := hide (RB.out.below bb)
          replace D := hide (D.out.below bb)
          clear bb
          have c0 := (RB.out.cells.get 0 _ rfl).1
          have c1 := (RB.out.cells.get 1 _ rfl).1
          have c2 := (RB.out.cells.get 2 _ rfl).1
          have c3 := (RB.out.cells.get 3 _ rfl).1
          have c8 := (RB.out.cells.get 8 _ rfl).1
          have c14 := (RB.out.cells.get 14 _ rfl).1
          have c15 := (RB.out.cells.get 15 _ rfl).1
          have c16 := (RB.out.cells.get 16 _ rfl).1
          have d0 := (D.out.get 0 _ rfl).1
          have d1 := (D.out.get 1 _ rfl).1
          have d2 := (D.out.get 2 _ rfl).1
          have d3 := (D.out.get 3 _ rfl).1
          have d4 := (D.out.get 4 _ rfl).1
          cases qA
          · go_wp2_with fail
            go_ret
            exact ⟨by rw [← HR.out]; simp, b4⟩
          · skip
            go_wp2_with fail
            refine (fQ _ (HL.out.below b4) (HD.out.below b4)).mono ?_
            rintro e w5 ⟨rfl, bb⟩
            have b5 := bnext b4 bb (Nat.le_refl _)
            go_wp2_with fail
            all_goals go_ret
            all_goals exact ⟨by rw [← HR.out]; first | (simp; done) | (simp; omega) | (simp_all; done) | (simp_all; omega), b5⟩
end Go.Proofs.Ytlibldioliicfaa
namespace Go.Proofs.Ytlibldioliicfaa
open Go.RowKit Go.QK
set_option maxRecDepth 100000
theorem rFields_any (r : RecM) (la da : Option Addr) (lc dc : Nat) (w : World) (hl : Lies w la (liveCs r.live)) (hd : Lies w da (dirtyCs r.dirty)) (hk1 : 1 ≤ r.kind) (hk8 : r.kind ≤ 8) :
    Calls Try.prog 59 #[.agg (recC r la lc da dc)] w fun e w' => e = .returned (.bool (okB r)) ∧ Below w.heap.size w w' := by
  obtain ⟨lsn, kind, tx, prev, wp, wi, sp, si, delta, id, grp, lo, hi, val, live, dirty, next⟩ := r
  simp only at hk1 hk8 hl hd
  rcases kinds hk1 hk8 with rfl | rfl | rfl | rfl | rfl | rfl | rfl | rfl
  · rw [← ok_1]
    exact rFields_1 lsn tx prev wp wi sp si delta id grp lo hi val next live dirty la da lc dc w hl hd
  · rw [← ok_2]
    exact rFields_2 lsn tx prev wp wi sp si delta id grp lo hi val next live dirty la da lc dc w hl hd
  · rw [← ok_3]
    exact rFields_3 lsn tx prev wp wi sp si delta id grp lo hi val next live dirty la da lc dc w hl hd
  · rw [← ok_4]
    exact rFields_4 lsn tx prev wp wi sp si delta id grp lo hi val next live dirty la da lc dc w hl hd
  · rw [← ok_5]
    exact rFields_5 lsn tx prev wp wi sp si delta id grp lo hi val next live dirty la da lc dc w hl hd
  · rw [← ok_6]
    exact rFields_6 lsn tx prev wp wi sp si delta id grp lo hi val next live dirty la da lc dc w hl hd
  · rw [← ok_7]
    exact rFields_7 lsn tx prev wp wi sp si delta id grp lo hi val next live dirty la da lc dc w hl hd
  · rw [← ok_8]
    exact rFields_8 lsn tx prev wp wi sp si delta id grp lo hi val next live dirty la da lc dc w hl hd
theorem rCheck_any (r : RecM) (la da : Option Addr) (lc dc : Nat) (w : World) (hl : Lies w la (liveCs r.live)) (hd : Lies w da (dirtyCs r.dirty)) :
    Calls Try.prog 34 #[.agg (recC r la lc da dc)] w fun e w' => e = .returned (.int .i64 (chkE r : Nat)) ∧ Below w.heap.size w w' := by
  have f0 := fun w a b c d => rFields_any r la da lc dc w a b c d
  unfold chkE
  generalize okB r = q at *
  obtain ⟨lsn, kind, tx, prev, wp, wi, sp, si, delta, id, grp, lo, hi, val, live, dirty, next⟩ := r
  simp only [recC] at *
  have HL := hide hl
  have HD := hide hd
  clear hl hd
  by_cases h1 : 1 ≤ kind
  case neg =>
    have g1 : decide (kind < 1) = true := by rw [decide_eq_true_iff]; omega
    have hR : (if fromB 1 kind 8 = true then (if q = true then 0 else 23) else 70) = 70 := if_neg (by simp [fromB]; omega)
    rw [hR]
    clear hR
    go_enter Try.func34, Try.ntmps34
    go_wp2_with fail
    go_ret
    exact ⟨by rfl, alloc_below _ _⟩
  have g1 : decide (kind < 1) = false := by rw [decide_eq_false_iff_not]; omega
  by_cases h8 : kind ≤ 8
  case neg =>
    have g2 : decide (8 < kind) = true := by rw [decide_eq_true_iff]; omega
    have hR : (if fromB 1 kind 8 = true then (if q = true then 0 else 23) else 70) = 70 := if_neg (by simp [fromB]; omega)
    rw [hR]
    clear hR
    go_enter Try.func34, Try.ntmps34
    go_wp2_with fail
    go_ret
    exact ⟨by rfl, alloc_below _ _⟩
  have g2 : decide (8 < kind) = false := by rw [decide_eq_false_iff_not]; omega
  have hR : (if fromB 1 kind 8 = true then (if q = true then 0 else 23) else 70) = (if q = true then 0 else 23) := if_pos (by simp [fromB]; omega)
  rw [hR]
  clear hR
  generalize hN : (if q = true then 0 else 23) = N
  have HN := hide hN
  clear hN
  go_enter Try.func34, Try.ntmps34
  go_upto_region 3 with fail
  generalize hw0 : w.alloc (.cells #[.int .i64 lsn, .int .i64 kind, .int .i64 tx, .int .i64 prev, .int .i64 wp, .int .i64 wi, .int .i64 sp, .int .i64 si, .int .i64 delta, .int .i64 id, .int .i64 grp, .int .i64 lo, .int .i64 hi, .int .i64 val, .slice la live.length lc, .slice da dirty.length dc, .int .i64 next] 36) = w0
  have b0 : Below w.heap.size w w0 := by rw [← hw0]; exact alloc_below _ _
  have RB : Hid (RBox w0 w.heap.size 36 #[.int .i64 lsn, .int .i64 kind, .int .i64 tx, .int .i64 prev, .int .i64 wp, .int .i64 wi, .int .i64 sp, .int .i64 si, .int .i64 delta, .int .i64 id, .int .i64 grp, .int .i64 lo, .int .i64 hi, .int .i64 val, .slice la live.length lc, .slice da dirty.length dc, .int .i64 next]) := by rw [← hw0]; exact RBox.new _ _ _
  clear hw0
  generalize Value.agg #[.int .i64 lsn, .int .i64 kind, .int .i64 tx, .int .i64 prev, .int .i64 wp, .int .i64 wi, .int .i64 sp, .int .i64 si, .int .i64 delta, .int .i64 id, .int .i64 grp, .int .i64 lo, .int .i64 hi, .int .i64 val, .slice la live.length lc, .slice da dirty.length dc, .int .i64 next] = ra
  go_wp2_with (refine wpList_load36g RB.out rfl rfl rfl ?_)
  refine (f0 _ (HL.out.below b0) (HD.out.below b0) h1 h8).mono ?_
  rintro e w1 ⟨rfl, b1⟩
  have b2 := bnext b0 b1 (Nat.le_refl _)
  cases q
  · go_wp2_with fail
    go_ret
    exact ⟨by rw [← HN.out]; rfl, b2⟩
  · go_wp2_with fail
    go_ret
    exact ⟨by rw [← HN.out]; rfl, b2⟩
end Go.Proofs.Ytlibldioliicfaa
namespace Go.Proofs.Ytlibldioliicfaa
open Go.RowKit Go.QK
set_option maxRecDepth 100000
/-- The block that a byte row is in. -/
def vS (v : Value) (k : Nat) : Prop := v.ownBlock = some k
theorem vS.moved {w : World} {v v' : Value} (h : moved w v v') : ∀ j, j < w.heap.size → vS v' j → vS v j := by
  intro j hj q
  unfold vS at *
  rcases h with h | ⟨g, h, hg⟩
  · rw [← h]; exact q
  · rw [h] at q
    cases q
    omega
/-- A byte row that was grown: by what, and what stayed. -/
structure PSt (B : Nat) (w : World) (v : Value) (w' : World) (v' : Value) (l : List Nat) : Prop where
  own : OwnB w' B v' l
  keep : Keep (vS v) w w'
  mv : moved w v v'
theorem PSt.start {B : Nat} {w : World} {v : Value} {l : List Nat} (h : OwnB w B v l) : PSt B w v w v l := ⟨h, Keep.refl _ _, .inl rfl⟩
theorem PSt.trans {B : Nat} {w w1 w2 : World} {v v1 v2 : Value} {l1 l2 : List Nat} (h : PSt B w v w1 v1 l1) (k : PSt B w1 v1 w2 v2 l2) : PSt B w v w2 v2 l2 :=
  ⟨k.own, h.keep.trans k.keep (vS.moved h.mv), h.mv.trans k.mv h.keep.size⟩
theorem PSt.below {B : Nat} {w w1 w2 : World} {v v1 : Value} {l1 : List Nat} (h : PSt B w v w1 v1 l1) (k : Below w1.heap.size w1 w2) : PSt B w v w2 v1 l1 :=
  ⟨Owns.below h.own k, h.keep.then_below k, h.mv⟩
theorem PSt.base {B : Nat} {w w1 : World} {v v1 : Value} {l l1 : List Nat} (h : PSt B w v w1 v1 l1) (o : OwnB w B v l) (hB : B ≤ w.heap.size) : Below B w w1 :=
  h.keep.below hB (fun k hk q => by have := (World.ownsRow.lt o k q).1; omega)
/-- A box beside a byte row. -/
def Bq (w : World) (v : Value) (b : Nat) (cs : List Value) : Prop := Cells w b cs ∧ ¬ vS v b
theorem Bq.next {B : Nat} {w w1 : World} {v v1 : Value} {l1 : List Nat} {b : Nat} {cs : List Value} (h : Bq w v b cs) (k : PSt B w v w1 v1 l1) : Bq w1 v1 b cs :=
  ⟨h.1.keep k.keep h.2, fun q => h.2 (vS.moved k.mv b h.1.1 q)⟩
theorem Bq.below {w w1 : World} {v : Value} {b : Nat} {cs : List Value} (h : Bq w v b cs) (k : Below w.heap.size w w1) : Bq w1 v b cs := ⟨h.1.below k, h.2⟩
theorem Bq.new {w : World} {B : Nat} {v : Value} {l : List Nat} (o : OwnB w B v l) (cs : Array Value) (t : TypeId) : Bq (w.alloc (.cells cs t)) v w.heap.size cs.toList :=
  ⟨Cells.new _ _ _, fun q => by have := (World.ownsRow.lt o _ q).2; omega⟩
theorem Bq.get {w : World} {v : Value} {b : Nat} {cs : List Value} (h : Bq w v b cs) (i : Nat) (x : Value) (hx : cs[i]? = some x) : w.cell? ⟨b, i, none⟩ = some x := (h.1.get i x hx).1

theorem rPut_any (ns : List Nat) (a : Option Addr) (c : Nat) (B : Nat) (v : Value) (l : List Nat) (w : World) (hs : ∀ w', Keep (vS v) w w' → Lies w' a (natCs ns)) (hns : ∀ n ∈ ns, n < 9223372036854775808) (h : OwnB w B v l) (hB : B ≤ w.heap.size) (hl : l.length + 10 * ns.length ≤ 1000000) :
    Calls Try.prog 57 #[v, .slice a ns.length c] w fun e w' => ∃ v', e = .returned v' ∧ PSt B w v w' v' (l ++ ns.flatMap form) := by
  have HS := hide hs
  clear hs
  go_enter Try.func57, Try.ntmps57
  go_wp2_with fail
  go_loopw [5, 0] (fun i u wr => ∃ (k : Nat), i = .int .i64 (k : Int) ∧ k ≤ ns.length ∧ PSt B w v wr u (l ++ (ns.take k).flatMap form)) (fun i _ _ => (ns.length + 1 - (intOf i).toNat))
  case atStart => exact ⟨0, rfl, Nat.zero_le _, by simpa using PSt.start h⟩
  case round =>
    obtain ⟨k, rfl, hk, hw⟩ := hrel
    have HW := hide hw
    clear hw
    by_cases hlt : k < ns.length
    · have hg1 : decide ((k : Int) < (ns.length : Int)) = true := by simp; omega
      obtain ⟨b, off, rfl, hbl, k0⟩ := (HS.out wr HW.out.keep).natAt k hlt
      have hx : ns[k] < 9223372036854775808 := hns _ (List.getElem_mem _)
      have hlen : (l ++ (ns.take k).flatMap form).length ≤ 1000000 := by
        have := flatForm_len (ns.take k) (fun n hn => by have := hns n (List.mem_of_mem_take hn); omega)
        simp at this ⊢
        omega
      have he : l ++ (ns.take (k + 1)).flatMap form = (l ++ (ns.take k).flatMap form) ++ form ns[k] := by
        rw [← List.take_append_getElem hlt, List.flatMap_append, List.flatMap_cons, List.flatMap_nil, List.append_nil, List.append_assoc]
      have HE := hide he
      clear he
      generalize ns[k] = x at *
      have e1 : IntKind.u64.wrap (x : Int) = (x : Int) := by rw [IntKind.wrap_u64]; omega
      have f1 := rForm_any x wr (by omega)
      have hfl : (form x).length ≤ 10 := (form_len (by omega)).2
      generalize l ++ (ns.take k).flatMap form = L at *
      generalize form x = F at *
      go_wp2_with fail
      refine f1.mono ?_
      rintro e w1 ⟨fv, rfl, of, bf⟩
      obtain ⟨fa, fc, rfl, fs, fn, _, _⟩ := Owns.seen of
      rw [ints_length]
      rw [ints_length] at of
      have hwr := HW.out.keep.size
      have HP : Hid (PSt B w v w1 u0 L) := hide (HW.out.below bf)
      have hsz := bf.size
      clear HW f1 k0 of
      go_wp2_with (at_builtin; refine appB rfl (.tmp 12) (.tmp 18) rfl B u0 L rfl HP.out.own fa F.length fc F rfl rfl fs fn (by omega) (by omega) ?_)
      intro v2 w2 o2 g2 m2
      have HP2 : Hid (PSt B w v w2 v2 (L ++ F)) := hide (HP.out.trans ⟨o2, (Keep.refl _ _).grown g2 (fun g q _ => q), m2.elim .inl (fun q => .inr ⟨_, q, Nat.le_refl _⟩)⟩)
      rw [← HE.out] at HP2
      clear HP o2 g2 m2 fs fn HE
      go_wp2_with fail
      go_roundw
      case rel => exact ⟨k + 1, by go_num, hlt, HP2.out⟩
      case measure => simp [intOf]; omega
    · have hg1 : decide ((k : Int) < (ns.length : Int)) = false := by simp; omega
      have hkk : k = ns.length := by omega
      have HW' := hide HW.out
      rw [hkk, List.take_length] at HW'
      clear HW hkk
      go_wp2_with fail
      go_ret
      exact ⟨_, rfl, HW'.out⟩

/-- Numbers that were just laid into a slice of their own. -/
theorem rPut_lit {m : Nat} (ns : List Nat) (B : Nat) (v : Value) (l : List Nat) (w : World) (hns : ∀ n ∈ ns, n < 9223372036854775808) (h : OwnB w B v l) (hB : B ≤ w.heap.size) (hl : l.length + 10 * ns.length ≤ 1000000) (hn : ns.length = m) :
    Calls Try.prog 57 #[v, .slice (some ⟨w.heap.size, 0, none⟩) m m] (w.alloc (.cells (natCs ns).toArray 3)) fun e w' => ∃ v', e = .returned v' ∧ PSt B w v w' v' (l ++ ns.flatMap form) := by
  subst hn
  refine (rPut_any ns _ ns.length B v l _ ?_ hns (Owns.alloc h _) (by simp; omega) hl).mono ?_
  · intro w' hk
    have C := (Bq.new h (natCs ns).toArray 3)
    have C' := C.1.keep hk C.2
    exact .inr ⟨w.heap.size, 0, rfl, C'.1, fun i hi => by rw [Nat.zero_add]; exact (C'.2 i hi).1⟩
  · rintro e w' ⟨v', rfl, q⟩
    exact ⟨v', rfl, ((PSt.start h).below (alloc_below _ _)).trans q⟩
theorem rSignB_any (n : Int) (B : Nat) (v : Value) (l : List Nat) (w : World) (h1 : -9223372036854775808 ≤ n ∧ n ≤ 9223372036854775807) (h : OwnB w B v l) (hB : B ≤ w.heap.size) (hl : l.length ≤ 1000000) :
    Calls Try.prog 58 #[v, .int .i64 n] w fun e w' => ∃ v', e = .returned v' ∧ PSt B w v w' v' (l ++ form (sgn n)) := by
  have f0 := fun w => rSign_any n w h1.1 h1.2
  have hsg : sgn n < 18446744073709551616 := by unfold sgn; split <;> omega
  have hfl : (form (sgn n)).length ≤ 10 := (form_len hsg).2
  generalize sgn n = x at *
  have f1 := fun w => rForm_any x w hsg
  generalize form x = F at *
  have HO := hide h
  clear h
  go_enter Try.func58, Try.ntmps58
  go_wp2_with fail
  refine (f0 _).mono ?_
  rintro e w' ⟨rfl, rfl⟩
  go_wp2_with fail
  refine (f1 _).mono ?_
  rintro e w1 ⟨fv, rfl, of, bf⟩
  obtain ⟨fa, fc, rfl, fs, fn, _, _⟩ := Owns.seen of
  rw [ints_length]
  rw [ints_length] at of
  have HP := hide ((PSt.start HO.out).below bf)
  have hsz := bf.size
  clear HO f0 f1 of
  go_wp2_with (at_builtin; refine appB rfl (.tmp 5) (.tmp 8) rfl B v l rfl HP.out.own fa F.length fc F rfl rfl fs fn (by omega) (by omega) ?_)
  intro v2 w2 o2 g2 m2
  have HP2 := hide (HP.out.trans ⟨o2, (Keep.refl _ _).grown g2 (fun g q _ => q), m2.elim .inl (fun q => .inr ⟨_, q, Nat.le_refl _⟩)⟩)
  clear HP o2 g2 m2 fs fn
  go_wp2_with fail
  go_ret
  exact ⟨_, rfl, HP2.out⟩
/-- Numbers that were written. -/
structure NSt (B : Nat) (w : World) (v : Value) (w' : World) (v' : Value) (ns : List Nat) : Prop where
  st : PSt B w v w' v' (ns.flatMap form)
  lt : ∀ n ∈ ns, n < 18446744073709551616
theorem NSt.below {B : Nat} {w w1 w2 : World} {v v1 : Value} {ns : List Nat} (h : NSt B w v w1 v1 ns) (k : Below w1.heap.size w1 w2) : NSt B w v w2 v1 ns := ⟨h.st.below k, h.lt⟩
theorem NSt.len {B : Nat} {w w1 : World} {v v1 : Value} {ns : List Nat} (h : NSt B w v w1 v1 ns) (hn : ns.length ≤ 5000) : (ns.flatMap form).length ≤ 50000 := by
  have := flatForm_len ns h.lt
  omega
theorem rPutN {m B : Nat} {w wi : World} {v vi : Value} {ns : List Nat} {cs : Array Value} (ms : List Nat) (hN : NSt B w v wi vi ns) (hB : B ≤ w.heap.size) (hcs : cs = (natCs ms).toArray) (hms : ∀ n ∈ ms, n < 9223372036854775808) (hl : ns.length + ms.length ≤ 5000) (hm : ms.length = m) :
    Calls Try.prog 57 #[vi, .slice (some ⟨wi.heap.size, 0, none⟩) m m] (wi.alloc (.cells cs 3)) fun e w' => ∃ v', e = .returned v' ∧ PSt B wi vi w' v' ((ns ++ ms).flatMap form) ∧ NSt B w v w' v' (ns ++ ms) := by
  subst hcs
  have hlen := hN.len (by omega)
  refine (rPut_lit ms B vi _ wi hms hN.st.own (Nat.le_trans hB hN.st.keep.size) (by omega) hm).mono ?_
  rintro e w' ⟨v', rfl, q⟩
  rw [← List.flatMap_append] at q
  refine ⟨v', rfl, q, hN.st.trans q, ?_⟩
  intro n hn
  rcases List.mem_append.1 hn with h | h
  · exact hN.lt n h
  · have := hms n h
    omega
theorem rSignN {B : Nat} {w wi : World} {v vi : Value} {ns : List Nat} (n : Int) (hN : NSt B w v wi vi ns) (hB : B ≤ w.heap.size) (h1 : -9223372036854775808 ≤ n ∧ n ≤ 9223372036854775807) (hl : ns.length ≤ 4000) :
    Calls Try.prog 58 #[vi, .int .i64 n] wi fun e w' => ∃ v', e = .returned v' ∧ PSt B wi vi w' v' ((ns ++ [sgn n]).flatMap form) ∧ NSt B w v w' v' (ns ++ [sgn n]) := by
  have hlen := hN.len (by omega)
  refine (rSignB_any n B vi _ wi h1 hN.st.own (Nat.le_trans hB hN.st.keep.size) (by omega)).mono ?_
  rintro e w' ⟨v', rfl, q⟩
  have e1 : ns.flatMap form ++ form (sgn n) = (ns ++ [sgn n]).flatMap form := by simp
  rw [e1] at q
  refine ⟨v', rfl, q, hN.st.trans q, ?_⟩
  intro k hk
  rcases List.mem_append.1 hk with h | h
  · exact hN.lt k h
  · have hs : sgn n < 18446744073709551616 := by unfold sgn; split <;> omega
    simp at h
    omega
end Go.Proofs.Ytlibldioliicfaa
namespace Go.Proofs.Ytlibldioliicfaa
open Go.RowKit Go.QK
set_option maxRecDepth 100000
set_option maxHeartbeats 0 in
theorem rEnc_1 (lsn : Int) (tn pn wpn win spn sin : Nat) (delta : Int) (idn gn : Nat) (lo hi val : Int) (live : List LiveM) (dirty : List DirtyM) (nx : Nat) (la da : Option Addr) (lc dc : Nat) (w : World)
    (hl : Lies w la (liveCs live)) (hd : Lies w da (dirtyCs dirty)) (he : chkE (RecM.mk lsn 1 tn pn wpn win spn sin delta idn gn lo hi val live dirty nx) = 0)
    (hr : tn ≤ 2147483647 ∧ pn ≤ 2147483647 ∧ wpn ≤ 63 ∧ win ≤ 30 ∧ spn ≤ 63 ∧ sin ≤ 83 ∧ idn ≤ 1048576 ∧ gn ≤ 1048576 ∧ nx ≤ 2147483648) (hf : Fits (RecM.mk lsn 1 tn pn wpn win spn sin delta idn gn lo hi val live dirty nx))
    (hli : ∀ l ∈ live, liveIn2 l) (hdi : ∀ l ∈ dirty, dirtyIn2 l) (hll : live.length ≤ 32) (hdl : dirty.length ≤ 16) :
    Calls Try.prog 33 #[.agg #[.int .i64 lsn, .int .i64 1, .int .i64 tn, .int .i64 pn, .int .i64 wpn, .int .i64 win, .int .i64 spn, .int .i64 sin, .int .i64 delta, .int .i64 idn, .int .i64 gn, .int .i64 lo, .int .i64 hi, .int .i64 val, .slice la live.length lc, .slice da dirty.length dc, .int .i64 nx]] w fun e w' => ∃ v, e = .returned (.tuple #[v, .int .i64 0]) ∧ OwnB w' w.heap.size v (bytesR (RecM.mk lsn 1 tn pn wpn win spn sin delta idn gn lo hi val live dirty nx)) ∧ Below w.heap.size w w' := by
  obtain ⟨f1, f2, f3, f4⟩ := hf
  simp only at f1 f2 f3 f4
  have fC : ∀ w, Lies w la (liveCs live) → Lies w da (dirtyCs dirty) → Calls Try.prog 34 #[.agg #[.int .i64 lsn, .int .i64 1, .int .i64 tn, .int .i64 pn, .int .i64 wpn, .int .i64 win, .int .i64 spn, .int .i64 sin, .int .i64 delta, .int .i64 idn, .int .i64 gn, .int .i64 lo, .int .i64 hi, .int .i64 val, .slice la live.length lc, .slice da dirty.length dc, .int .i64 nx]] w fun e w' => e = .returned (.int .i64 0) ∧ Below w.heap.size w w' := by
    intro w a b
    have := rCheck_any (RecM.mk lsn 1 tn pn wpn win spn sin delta idn gn lo hi val live dirty nx) la da lc dc w a b
    rw [he] at this
    exact this
  clear he
  have HFIN : Hid (([1] ++ [tn]).flatMap form = bytesR (RecM.mk lsn 1 tn pn wpn win spn sin delta idn gn lo hi val live dirty nx)) := by
    unfold Hid bytesR nums
    congr 1 <;> simp [show hTx 1 = true from rfl, show hPrev 1 = false from rfl, show hCtr 1 = false from rfl, show hFirst 1 = false from rfl, show hDelta 1 = false from rfl, show hPts 1 = false from rfl, firstNs, pointsNs]
  generalize bytesR (RecM.mk lsn 1 tn pn wpn win spn sin delta idn gn lo hi val live dirty nx) = fin at *
  have HL := hide hl
  have HD := hide hd
  have HLI := hide hli
  have HDI := hide hdi
  have HF := hide (And.intro f1 (And.intro f2 (And.intro f3 f4)))
  have HR := hide hr
  have HLL := hide (And.intro hll hdl)
  clear hl hd hli hdi f1 f2 f3 f4 hr hll hdl
  go_enter Try.func33, Try.ntmps33
  go_upto_region 1 with fail
  generalize hw0 : w.alloc (.cells #[.int .i64 lsn, .int .i64 1, .int .i64 tn, .int .i64 pn, .int .i64 wpn, .int .i64 win, .int .i64 spn, .int .i64 sin, .int .i64 delta, .int .i64 idn, .int .i64 gn, .int .i64 lo, .int .i64 hi, .int .i64 val, .slice la live.length lc, .slice da dirty.length dc, .int .i64 nx] 36) = w0
  have b0 : Below w.heap.size w w0 := by rw [← hw0]; exact alloc_below _ _
  have RB : Hid (RBox w0 w.heap.size 36 #[.int .i64 lsn, .int .i64 1, .int .i64 tn, .int .i64 pn, .int .i64 wpn, .int .i64 win, .int .i64 spn, .int .i64 sin, .int .i64 delta, .int .i64 idn, .int .i64 gn, .int .i64 lo, .int .i64 hi, .int .i64 val, .slice la live.length lc, .slice da dirty.length dc, .int .i64 nx]) := by rw [← hw0]; exact RBox.new _ _ _
  clear hw0
  generalize Value.agg #[.int .i64 lsn, .int .i64 1, .int .i64 tn, .int .i64 pn, .int .i64 wpn, .int .i64 win, .int .i64 spn, .int .i64 sin, .int .i64 delta, .int .i64 idn, .int .i64 gn, .int .i64 lo, .int .i64 hi, .int .i64 val, .slice la live.length lc, .slice da dirty.length dc, .int .i64 nx] = ra
  go_wp2_with (refine wpList_load36g RB.out rfl rfl rfl ?_)
  refine (fC _ (HL.out.below b0) (HD.out.below b0)).mono ?_
  rintro e w1 ⟨rfl, b1⟩
  have b2 := bnext b0 b1 (Nat.le_refl _)
  have Rb : Hid (Bq w1 (.slice none 0 0) w.heap.size [.int .i64 lsn, .int .i64 1, .int .i64 tn, .int .i64 pn, .int .i64 wpn, .int .i64 win, .int .i64 spn, .int .i64 sin, .int .i64 delta, .int .i64 idn, .int .i64 gn, .int .i64 lo, .int .i64 hi, .int .i64 val, .slice la live.length lc, .slice da dirty.length dc, .int .i64 nx]) := hide ⟨(RB.out.below b1).cells, fun q => by cases q⟩
  have PS : Hid (NSt w1.heap.size w1 (.slice none 0 0) w1 (.slice none 0 0) []) := hide ⟨PSt.start (Owns.nil _ _ _ _), by simp⟩
  clear RB b0 b1 fC
  have c1 := Rb.out.get 1 _ rfl
  go_wp2_with fail
  refine (rPutN [1] PS.out (Nat.le_refl _) (by first | rfl | simp) (by simp) (by have := HLL.out; simp <;> omega) rfl).mono ?_
  clear c1
  rintro e w2 ⟨v2, rfl, p2, PSn⟩
  replace Rb := hide (Rb.out.next p2)
  have PS := hide PSn
  clear p2 PSn
  have c1 := Rb.out.get 1 _ rfl
  have c9 := Rb.out.get 9 _ rfl
  have c10 := Rb.out.get 10 _ rfl
  have c11 := Rb.out.get 11 _ rfl
  have c12 := Rb.out.get 12 _ rfl
  have c13 := Rb.out.get 13 _ rfl
  go_upto_region 6 with fail
  clear c1 c9 c10 c11 c12 c13
  generalize hw3 : w2.alloc (.cells #[.int .i64 idn, .int .i64 gn, .int .i64 lo, .int .i64 hi, .int .i64 val] 30) = w3
  have b3 : Below w2.heap.size w2 w3 := by rw [← hw3]; exact alloc_below _ _
  have Db : Hid (Bq w3 v2 w2.heap.size [.int .i64 idn, .int .i64 gn, .int .i64 lo, .int .i64 hi, .int .i64 val]) := by rw [← hw3]; exact Bq.new PS.out.st.own #[.int .i64 idn, .int .i64 gn, .int .i64 lo, .int .i64 hi, .int .i64 val] 30
  replace Rb := hide (Rb.out.below b3)
  replace PS := hide (PS.out.below b3)
  clear hw3 b3
  have c1 := Rb.out.get 1 _ rfl
  have c2 := Rb.out.get 2 _ rfl
  go_wp2_with fail
  refine (rPutN [tn] PS.out (Nat.le_refl _) (by first | rfl | simp) (by have := HR.out; simp <;> omega) (by have := HLL.out; simp <;> omega) rfl).mono ?_
  clear c1 c2
  rintro e w4 ⟨v4, rfl, p4, PSn⟩
  replace Rb := hide (Rb.out.next p4)
  replace Db := hide (Db.out.next p4)
  have PS := hide PSn
  clear p4 PSn
  have bz := bnext b2 (PS.out.st.base (l := []) (Owns.nil _ _ _ _) (Nat.le_refl _)) (Nat.le_refl _)
  have oz := Owns.mono PS.out.st.own b2.size
  simp only [List.nil_append] at oz
  rw [HFIN.out] at oz
  have OZ := hide oz
  clear oz
  go_wp2_with fail
  exact bodyPost_ret (v := .tuple #[v4, .int .i64 0]) (by simp [results, Try.results33, go_sem]) rfl ⟨_, rfl, OZ.out, bz⟩
set_option maxHeartbeats 0 in
theorem rEnc_2 (lsn : Int) (tn pn wpn win spn sin : Nat) (delta : Int) (idn gn : Nat) (lo hi val : Int) (live : List LiveM) (dirty : List DirtyM) (nx : Nat) (la da : Option Addr) (lc dc : Nat) (w : World)
    (hl : Lies w la (liveCs live)) (hd : Lies w da (dirtyCs dirty)) (he : chkE (RecM.mk lsn 2 tn pn wpn win spn sin delta idn gn lo hi val live dirty nx) = 0)
    (hr : tn ≤ 2147483647 ∧ pn ≤ 2147483647 ∧ wpn ≤ 63 ∧ win ≤ 30 ∧ spn ≤ 63 ∧ sin ≤ 83 ∧ idn ≤ 1048576 ∧ gn ≤ 1048576 ∧ nx ≤ 2147483648) (hf : Fits (RecM.mk lsn 2 tn pn wpn win spn sin delta idn gn lo hi val live dirty nx))
    (hli : ∀ l ∈ live, liveIn2 l) (hdi : ∀ l ∈ dirty, dirtyIn2 l) (hll : live.length ≤ 32) (hdl : dirty.length ≤ 16) :
    Calls Try.prog 33 #[.agg #[.int .i64 lsn, .int .i64 2, .int .i64 tn, .int .i64 pn, .int .i64 wpn, .int .i64 win, .int .i64 spn, .int .i64 sin, .int .i64 delta, .int .i64 idn, .int .i64 gn, .int .i64 lo, .int .i64 hi, .int .i64 val, .slice la live.length lc, .slice da dirty.length dc, .int .i64 nx]] w fun e w' => ∃ v, e = .returned (.tuple #[v, .int .i64 0]) ∧ OwnB w' w.heap.size v (bytesR (RecM.mk lsn 2 tn pn wpn win spn sin delta idn gn lo hi val live dirty nx)) ∧ Below w.heap.size w w' := by
  obtain ⟨f1, f2, f3, f4⟩ := hf
  simp only at f1 f2 f3 f4
  have fC : ∀ w, Lies w la (liveCs live) → Lies w da (dirtyCs dirty) → Calls Try.prog 34 #[.agg #[.int .i64 lsn, .int .i64 2, .int .i64 tn, .int .i64 pn, .int .i64 wpn, .int .i64 win, .int .i64 spn, .int .i64 sin, .int .i64 delta, .int .i64 idn, .int .i64 gn, .int .i64 lo, .int .i64 hi, .int .i64 val, .slice la live.length lc, .slice da dirty.length dc, .int .i64 nx]] w fun e w' => e = .returned (.int .i64 0) ∧ Below w.heap.size w w' := by
    intro w a b
    have := rCheck_any (RecM.mk lsn 2 tn pn wpn win spn sin delta idn gn lo hi val live dirty nx) la da lc dc w a b
    rw [he] at this
    exact this
  clear he
  have HFIN : Hid (([2] ++ [wpn, win, spn, sin, idn, gn] ++ [sgn lo] ++ [sgn hi] ++ [sgn val]).flatMap form = bytesR (RecM.mk lsn 2 tn pn wpn win spn sin delta idn gn lo hi val live dirty nx)) := by
    unfold Hid bytesR nums
    congr 1 <;> simp [show hTx 2 = false from rfl, show hPrev 2 = false from rfl, show hCtr 2 = true from rfl, show hFirst 2 = true from rfl, show hDelta 2 = false from rfl, show hPts 2 = false from rfl, firstNs, pointsNs]
  generalize bytesR (RecM.mk lsn 2 tn pn wpn win spn sin delta idn gn lo hi val live dirty nx) = fin at *
  have HL := hide hl
  have HD := hide hd
  have HLI := hide hli
  have HDI := hide hdi
  have HF := hide (And.intro f1 (And.intro f2 (And.intro f3 f4)))
  have HR := hide hr
  have HLL := hide (And.intro hll hdl)
  clear hl hd hli hdi f1 f2 f3 f4 hr hll hdl
  go_enter Try.func33, Try.ntmps33
  go_upto_region 1 with fail
  generalize hw0 : w.alloc (.cells #[.int .i64 lsn, .int .i64 2, .int .i64 tn, .int .i64 pn, .int .i64 wpn, .int .i64 win, .int .i64 spn, .int .i64 sin, .int .i64 delta, .int .i64 idn, .int .i64 gn, .int .i64 lo, .int .i64 hi, .int .i64 val, .slice la live.length lc, .slice da dirty.length dc, .int .i64 nx] 36) = w0
  have b0 : Below w.heap.size w w0 := by rw [← hw0]; exact alloc_below _ _
  have RB : Hid (RBox w0 w.heap.size 36 #[.int .i64 lsn, .int .i64 2, .int .i64 tn, .int .i64 pn, .int .i64 wpn, .int .i64 win, .int .i64 spn, .int .i64 sin, .int .i64 delta, .int .i64 idn, .int .i64 gn, .int .i64 lo, .int .i64 hi, .int .i64 val, .slice la live.length lc, .slice da dirty.length dc, .int .i64 nx]) := by rw [← hw0]; exact RBox.new _ _ _
  clear hw0
  generalize Value.agg #[.int .i64 lsn, .int .i64 2, .int .i64 tn, .int .i64 pn, .int .i64 wpn, .int .i64 win, .int .i64 spn, .int .i64 sin, .int .i64 delta, .int .i64 idn, .int .i64 gn, .int .i64 lo, .int .i64 hi, .int .i64 val, .slice la live.length lc, .slice da dirty.length dc, .int .i64 nx] = ra
  go_wp2_with (refine wpList_load36g RB.out rfl rfl rfl ?_)
  refine (fC _ (HL.out.below b0) (HD.out.below b0)).mono ?_
  rintro e w1 ⟨rfl, b1⟩
  have b2 := bnext b0 b1 (Nat.le_refl _)
  have Rb : Hid (Bq w1 (.slice none 0 0) w.heap.size [.int .i64 lsn, .int .i64 2, .int .i64 tn, .int .i64 pn, .int .i64 wpn, .int .i64 win, .int .i64 spn, .int .i64 sin, .int .i64 delta, .int .i64 idn, .int .i64 gn, .int .i64 lo, .int .i64 hi, .int .i64 val, .slice la live.length lc, .slice da dirty.length dc, .int .i64 nx]) := hide ⟨(RB.out.below b1).cells, fun q => by cases q⟩
  have PS : Hid (NSt w1.heap.size w1 (.slice none 0 0) w1 (.slice none 0 0) []) := hide ⟨PSt.start (Owns.nil _ _ _ _), by simp⟩
  clear RB b0 b1 fC
  have c1 := Rb.out.get 1 _ rfl
  go_wp2_with fail
  refine (rPutN [2] PS.out (Nat.le_refl _) (by first | rfl | simp) (by simp) (by have := HLL.out; simp <;> omega) rfl).mono ?_
  clear c1
  rintro e w2 ⟨v2, rfl, p2, PSn⟩
  replace Rb := hide (Rb.out.next p2)
  have PS := hide PSn
  clear p2 PSn
  have c1 := Rb.out.get 1 _ rfl
  have c9 := Rb.out.get 9 _ rfl
  have c10 := Rb.out.get 10 _ rfl
  have c11 := Rb.out.get 11 _ rfl
  have c12 := Rb.out.get 12 _ rfl
  have c13 := Rb.out.get 13 _ rfl
  go_upto_region 6 with fail
  clear c1 c9 c10 c11 c12 c13
  generalize hw3 : w2.alloc (.cells #[.int .i64 idn, .int .i64 gn, .int .i64 lo, .int .i64 hi, .int .i64 val] 30) = w3
  have b3 : Below w2.heap.size w2 w3 := by rw [← hw3]; exact alloc_below _ _
  have Db : Hid (Bq w3 v2 w2.heap.size [.int .i64 idn, .int .i64 gn, .int .i64 lo, .int .i64 hi, .int .i64 val]) := by rw [← hw3]; exact Bq.new PS.out.st.own #[.int .i64 idn, .int .i64 gn, .int .i64 lo, .int .i64 hi, .int .i64 val] 30
  replace Rb := hide (Rb.out.below b3)
  replace PS := hide (PS.out.below b3)
  clear hw3 b3
  have c1 := Rb.out.get 1 _ rfl
  have c4 := Rb.out.get 4 _ rfl
  have c5 := Rb.out.get 5 _ rfl
  have c6 := Rb.out.get 6 _ rfl
  have c7 := Rb.out.get 7 _ rfl
  have d0 := Db.out.get 0 _ rfl
  have d1 := Db.out.get 1 _ rfl
  go_wp2_with fail
  refine (rPutN [wpn, win, spn, sin, idn, gn] PS.out (Nat.le_refl _) (by first | rfl | simp) (by have := HR.out; simp <;> omega) (by have := HLL.out; simp <;> omega) rfl).mono ?_
  clear c1 c4 c5 c6 c7 d0 d1
  rintro e w4 ⟨v4, rfl, p4, PSn⟩
  replace Rb := hide (Rb.out.next p4)
  replace Db := hide (Db.out.next p4)
  have PS := hide PSn
  clear p4 PSn
  have c1 := Rb.out.get 1 _ rfl
  go_upto_region 11 with fail
  clear c1
  go_upto_region 11 with fail
  have FX := hide (show w4.cell? ⟨w2.heap.size, 2, none⟩ = some (.int .i64 lo) ∧ w4.cell? ⟨w2.heap.size, 3, none⟩ = some (.int .i64 hi) ∧ w4.cell? ⟨w2.heap.size, 4, none⟩ = some (.int .i64 val) from ⟨Db.out.get 2 _ rfl, Db.out.get 3 _ rfl, Db.out.get 4 _ rfl⟩)
  replace Rb := hide (Rb.out.below (Below.refl _ _).drew)
  replace Db := hide (Db.out.below (Below.refl _ _).drew)
  replace PS := hide (PS.out.below (Below.refl _ _).drew)
  refine wp_region_held_drew (S := fun wq => wq.cell? ⟨w2.heap.size, 2, none⟩ = some (.int .i64 lo) ∧ wq.cell? ⟨w2.heap.size, 3, none⟩ = some (.int .i64 hi) ∧ wq.cell? ⟨w2.heap.size, 4, none⟩ = some (.int .i64 val)) (by kernel_rfl) FX.out (fun hS => ?_)
  generalize w4.drew = w5 at *
  clear FX
  refine take_at 0 (some 52) (v := ?_) rfl rfl (by kernel_rfl) (by kernel_rfl) (by kernel_rfl) (fun _ _ _ h => h) ⟨by rfl, ?_⟩ hS ?_
  rotate_left
  · intro wq hSw; go_simp; try rfl
  simp only [Act.put, List.setIfInBounds_toArray, List.set_cons_zero, List.set_cons_succ]
  refine take_at 1 (some 53) (v := ?_) rfl rfl (by kernel_rfl) (by kernel_rfl) (by kernel_rfl) (fun _ _ _ h => h) ⟨by rfl, ?_⟩ hS ?_
  rotate_left
  · intro wq hSw; go_simp; try rfl
  simp only [Act.put, List.setIfInBounds_toArray, List.set_cons_zero, List.set_cons_succ]
  refine take_at 2 (some 54) (v := ?_) rfl rfl (by kernel_rfl) (by kernel_rfl) (by kernel_rfl) (fun _ _ _ h => h) ⟨by rfl, ?_⟩ hS ?_
  rotate_left
  · intro wq hSw; go_simp; try rfl
  simp only [Act.put, List.setIfInBounds_toArray, List.set_cons_zero, List.set_cons_succ]
  refine take_at 3 (some 55) (v := ?_) rfl rfl (by kernel_rfl) (by kernel_rfl) (by kernel_rfl) (fun _ _ _ h => h) ⟨by rfl, ?_⟩ hS ?_
  rotate_left
  · intro wq hSw; obtain ⟨y0, y1, y2⟩ := hSw; go_simp; try rfl
  simp only [Act.put, List.setIfInBounds_toArray, List.set_cons_zero, List.set_cons_succ]
  refine take_at 5 (some 57) (v := ?_) rfl rfl (by kernel_rfl) (by kernel_rfl) (by kernel_rfl) (fun _ _ _ h => h) ⟨by rfl, ?_⟩ hS ?_
  rotate_left
  · intro wq hSw; go_simp; try rfl
  simp only [Act.put, List.setIfInBounds_toArray, List.set_cons_zero, List.set_cons_succ]
  refine take_at 6 (some 58) (v := ?_) rfl rfl (by kernel_rfl) (by kernel_rfl) (by kernel_rfl) (fun _ _ _ h => h) ⟨by rfl, ?_⟩ hS ?_
  rotate_left
  · intro wq hSw; go_simp; try rfl
  simp only [Act.put, List.setIfInBounds_toArray, List.set_cons_zero, List.set_cons_succ]
  refine take_at 7 (some 59) (v := ?_) rfl rfl (by kernel_rfl) (by kernel_rfl) (by kernel_rfl) (fun _ _ _ h => h) ⟨by rfl, ?_⟩ hS ?_
  rotate_left
  · intro wq hSw; obtain ⟨y0, y1, y2⟩ := hSw; go_simp; try rfl
  simp only [Act.put, List.setIfInBounds_toArray, List.set_cons_zero, List.set_cons_succ]
  refine take_at 9 (some 61) (v := ?_) rfl rfl (by kernel_rfl) (by kernel_rfl) (by kernel_rfl) (fun _ _ _ h => h) ⟨by rfl, ?_⟩ hS ?_
  rotate_left
  · intro wq hSw; go_simp; try rfl
  simp only [Act.put, List.setIfInBounds_toArray, List.set_cons_zero, List.set_cons_succ]
  refine take_at 10 (some 62) (v := ?_) rfl rfl (by kernel_rfl) (by kernel_rfl) (by kernel_rfl) (fun _ _ _ h => h) ⟨by rfl, ?_⟩ hS ?_
  rotate_left
  · intro wq hSw; obtain ⟨y0, y1, y2⟩ := hSw; go_simp; try rfl
  simp only [Act.put, List.setIfInBounds_toArray, List.set_cons_zero, List.set_cons_succ]
  refine wpAnyH_ready (rs := [4]) (by kernel_rfl) (by simp) ?_
  refine AllReadyH.cons rfl (fun K hK => ?_) AllReadyH.nil
  go_simp
  go_wp2_with fail
  refine (rSignN lo PS.out (Nat.le_refl _) HF.out.2.1 (by simp)).mono ?_
  rintro e w6 ⟨v6, rfl, p6, PSn⟩
  replace Rb := hide (Rb.out.next p6)
  replace Db := hide (Db.out.next p6)
  have PS := hide PSn
  clear p6 PSn
  go_wp2_with fail
  refine hK.out _ _ ⟨Db.out.get 2 _ rfl, Db.out.get 3 _ rfl, Db.out.get 4 _ rfl⟩ (fun hS => ?_)
  clear hK K
  (try simp only [Act.put, List.setIfInBounds_toArray, List.set_cons_zero, List.set_cons_succ])
  refine wpAnyH_ready (rs := [8]) (by kernel_rfl) (by simp) ?_
  refine AllReadyH.cons rfl (fun K hK => ?_) AllReadyH.nil
  go_simp
  go_wp2_with fail
  refine (rSignN hi PS.out (Nat.le_refl _) HF.out.2.2.1 (by simp)).mono ?_
  rintro e w7 ⟨v7, rfl, p7, PSn⟩
  replace Rb := hide (Rb.out.next p7)
  replace Db := hide (Db.out.next p7)
  have PS := hide PSn
  clear p7 PSn
  go_wp2_with fail
  refine hK.out _ _ ⟨Db.out.get 2 _ rfl, Db.out.get 3 _ rfl, Db.out.get 4 _ rfl⟩ (fun hS => ?_)
  clear hK K
  (try simp only [Act.put, List.setIfInBounds_toArray, List.set_cons_zero, List.set_cons_succ])
  refine wpAnyH_ready (rs := [11]) (by kernel_rfl) (by simp) ?_
  refine AllReadyH.cons rfl (fun K hK => ?_) AllReadyH.nil
  go_simp
  go_wp2_with fail
  refine (rSignN val PS.out (Nat.le_refl _) HF.out.2.2.2 (by simp)).mono ?_
  rintro e w8 ⟨v8, rfl, p8, PSn⟩
  replace Rb := hide (Rb.out.next p8)
  replace Db := hide (Db.out.next p8)
  have PS := hide PSn
  clear p8 PSn
  go_wp2_with fail
  refine hK.out _ _ ⟨Db.out.get 2 _ rfl, Db.out.get 3 _ rfl, Db.out.get 4 _ rfl⟩ (fun hS => ?_)
  clear hK K
  (try simp only [Act.put, List.setIfInBounds_toArray, List.set_cons_zero, List.set_cons_succ])
  refine take_at 12 (some 2) (v := ?_) rfl rfl (by kernel_rfl) (by kernel_rfl) (by kernel_rfl) (fun _ _ _ h => h) ⟨by rfl, ?_⟩ hS ?_
  rotate_left
  · intro wq hSw; go_simp; try rfl
  simp only [Act.put, List.setIfInBounds_toArray, List.set_cons_zero, List.set_cons_succ]
  refine take_at 13 (some 3) (v := ?_) rfl rfl (by kernel_rfl) (by kernel_rfl) (by kernel_rfl) (fun _ _ _ h => h) ⟨by rfl, ?_⟩ hS ?_
  rotate_left
  · intro wq hSw; go_simp; try rfl
  simp only [Act.put, List.setIfInBounds_toArray, List.set_cons_zero, List.set_cons_succ]
  refine wpAnyH_done (by kernel_rfl) ?_ _
  clear hS
  have bz := bnext b2 (PS.out.st.base (l := []) (Owns.nil _ _ _ _) (Nat.le_refl _)) (Nat.le_refl _)
  have oz := Owns.mono PS.out.st.own b2.size
  simp only [List.nil_append] at oz
  rw [HFIN.out] at oz
  have OZ := hide oz
  clear oz
  go_wp2_with fail
  exact bodyPost_ret (v := .tuple #[v8, .int .i64 0]) (by simp [results, Try.results33, go_sem]) rfl ⟨_, rfl, OZ.out, bz⟩
end Go.Proofs.Ytlibldioliicfaa
