import Derived.Test.YtblngphjoafidaaGreatChk2
namespace Go.Proofs.YtblngphjoafidaaGreat
open Go.RowKit Go.QK

set_option maxRecDepth 100000
set_option maxHeartbeats 0 in
theorem mayBe_any (r : RecM) (la da : Option Addr) (lc dc : Nat) (w : World) (hl : Lies w la (liveCs r.live)) (hd : Lies w da (dirtyCs r.dirty)) (hk1 : 1 ≤ r.kind) (hk8 : r.kind ≤ 8) :
    Calls Tryz.prog 42 #[.agg (recC r la lc da dc)] w fun e w' => e = .returned (.bool (okB r)) ∧ Below w.heap.size w w' := by
  obtain ⟨lsn, kind, tx, prev, wp, wi, sp, si, delta, id, grp, lo, hi, val, live, dirty, next⟩ := r
  unfold okB
  simp only [recC] at *
  have g0 := fun w => fieldsOf_any kind hk1 hk8 w
  unfold hasC at g0
  generalize hTx kind = h1 at *
  generalize hPrev kind = h2 at *
  generalize hCtr kind = h3 at *
  generalize hFirst kind = h4 at *
  generalize hDelta kind = h5 at *
  generalize hPts kind = h6 at *
  have f0 := fun w => fromI_any 0 lsn 2147483647 w
  have f1 := fun w => ahead_any prev lsn w
  have f2 := fun w => oneOf_any h1 tx 2147483647 w
  have f3 := fun w => oneOf_any h2 prev 2147483647 w
  have f4 := fun w => slotsMay_any h3 wp wi sp si w
  have f5 := fun w => oneOf_any h3 id 1048576 w
  have f6 := fun w => firstMay_any h4 id grp lo hi val w
  have f7 := fun w a b => pointsMay_any h6 live dirty la da lc dc next lsn w a b
  generalize fromB 0 lsn 2147483647 = q0 at *
  generalize aheadB prev lsn = q1 at *
  generalize oneB h1 tx 2147483647 = q2 at *
  generalize oneB h2 prev 2147483647 = q3 at *
  generalize slotsB h3 wp wi sp si = q4 at *
  generalize oneB h3 id 1048576 = q5 at *
  generalize firstB h4 grp lo hi val = q6 at *
  generalize pointsB h6 live dirty next lsn = q7 at *
  have HL := hide hl
  have HD := hide hd
  clear hl hd
  have ed : decide (delta = 0) = (delta == 0) := rfl
  rw [ed]
  clear ed
  go_enter Tryz.func42, Tryz.ntmps42
  go_wp2_with fail
  generalize hw0 : w.alloc (.cells #[.int .i64 lsn, .int .i64 kind, .int .i64 tx, .int .i64 prev, .int .i64 wp, .int .i64 wi, .int .i64 sp, .int .i64 si, .int .i64 delta, .int .i64 id, .int .i64 grp, .int .i64 lo, .int .i64 hi, .int .i64 val, .slice la live.length lc, .slice da dirty.length dc, .int .i64 next] 55) = w0
  have b0 : Below w.heap.size w w0 := by rw [← hw0]; exact alloc_below _ _
  have C : Cells w0 w.heap.size [.int .i64 lsn, .int .i64 kind, .int .i64 tx, .int .i64 prev, .int .i64 wp, .int .i64 wi, .int .i64 sp, .int .i64 si, .int .i64 delta, .int .i64 id, .int .i64 grp, .int .i64 lo, .int .i64 hi, .int .i64 val, .slice la live.length lc, .slice da dirty.length dc, .int .i64 next] := by rw [← hw0]; exact Cells.new _ _ _
  clear hw0
  generalize Value.agg #[.int .i64 lsn, .int .i64 kind, .int .i64 tx, .int .i64 prev, .int .i64 wp, .int .i64 wi, .int .i64 sp, .int .i64 si, .int .i64 delta, .int .i64 id, .int .i64 grp, .int .i64 lo, .int .i64 hi, .int .i64 val, .slice la live.length lc, .slice da dirty.length dc, .int .i64 next] = ra
  refine (g0 _).mono ?_
  rintro e w1 ⟨rfl, b1⟩
  replace C := C.below b1
  have b2 := bnext b0 b1 (Nat.le_refl _)
  clear b0 b1 g0
  obtain ⟨c0, _⟩ := C.get 0 _ rfl
  have hlt := C.1
  have hne : ¬ (w.heap.size = w1.heap.size) := by omega
  go_wp2_with fail
  generalize hw2 : w1.alloc (.cells #[.bool h1, .bool h2, .bool h3, .bool h4, .bool h5, .bool h6] 113) = w2
  have D : Cells w2 w1.heap.size [.bool h1, .bool h2, .bool h3, .bool h4, .bool h5, .bool h6] := by rw [← hw2]; exact Cells.new _ _ _
  have b3 : Below w.heap.size w w2 := by rw [← hw2]; exact b2.alloc b2.size _
  replace C := C.below (alloc_below w1 (.cells #[.bool h1, .bool h2, .bool h3, .bool h4, .bool h5, .bool h6] 113))
  rw [hw2] at C
  clear c0 hw2 b2
  generalize Value.agg #[.bool h1, .bool h2, .bool h3, .bool h4, .bool h5, .bool h6] = ha
  have k0 := (C.get 0 _ rfl).1
  have k2 := (C.get 2 _ rfl).1
  have k3 := (C.get 3 _ rfl).1
  have k4 := (C.get 4 _ rfl).1
  have k5 := (C.get 5 _ rfl).1
  have k6 := (C.get 6 _ rfl).1
  have k7 := (C.get 7 _ rfl).1
  have k8 := (C.get 8 _ rfl).1
  have k9 := (C.get 9 _ rfl).1
  have k10 := (C.get 10 _ rfl).1
  have k11 := (C.get 11 _ rfl).1
  have k12 := (C.get 12 _ rfl).1
  have k13 := (C.get 13 _ rfl).1
  have k14 := (C.get 14 _ rfl).1
  have k15 := (C.get 15 _ rfl).1
  have k16 := (C.get 16 _ rfl).1
  have m0 := (D.get 0 _ rfl).1
  have m1 := (D.get 1 _ rfl).1
  have m2 := (D.get 2 _ rfl).1
  have m3 := (D.get 3 _ rfl).1
  have m4 := (D.get 4 _ rfl).1
  have m5 := (D.get 5 _ rfl).1
  refine (f0 _).mono ?_
  rintro e w' ⟨rfl, rfl⟩
  cases q0
  · clear C D HL HD f7 hne hlt f0 f1 f2 f3 f4 f5 f6 k0 k2 k3 k4 k5 k6 k7 k9 k10 k11 k12 k13 k14 k15 k16 m0 m1 m2 m3 m4 m5
    go_wp2_with fail
    all_goals go_ret
    all_goals exact ⟨by simp, b3⟩
  · clear f0
    go_wp2_with fail
    refine (f1 _).mono ?_
    rintro e w' ⟨rfl, rfl⟩
    cases q1
    · clear C D HL HD f7 hne hlt f1 f2 f3 f4 f5 f6 k0 k2 k3 k4 k5 k6 k7 k9 k10 k11 k12 k13 k14 k15 k16 m0 m1 m2 m3 m4 m5
      go_wp2_with fail
      all_goals go_ret
      all_goals exact ⟨by simp, b3⟩
    · clear f1
      go_wp2_with fail
      refine (f2 _).mono ?_
      rintro e w' ⟨rfl, rfl⟩
      cases q2
      · clear C D HL HD f7 hne hlt f2 f3 f4 f5 f6 k0 k2 k3 k4 k5 k6 k7 k9 k10 k11 k12 k13 k14 k15 k16 m0 m1 m2 m3 m4 m5
        go_wp2_with fail
        all_goals go_ret
        all_goals exact ⟨by simp, b3⟩
      · clear f2
        go_wp2_with fail
        refine (f3 _).mono ?_
        rintro e w' ⟨rfl, rfl⟩
        cases q3
        · clear C D HL HD f7 hne hlt f3 f4 f5 f6 k0 k2 k3 k4 k5 k6 k7 k9 k10 k11 k12 k13 k14 k15 k16 m0 m1 m2 m3 m4 m5
          go_wp2_with fail
          all_goals go_ret
          all_goals exact ⟨by simp, b3⟩
        · clear f3
          go_wp2_with fail
          refine (f4 _).mono ?_
          rintro e w3 ⟨rfl, by_⟩
          replace C := C.below by_
          replace D := D.below by_
          have b4 := bnext b3 by_ (Nat.le_refl _)
          clear by_ b3
          clear k0 k2 k3 k4 k5 k6 k7 k8 k9 k10 k11 k12 k13 k14 k15 k16 m0 m1 m2 m3 m4 m5
          have k0 := (C.get 0 _ rfl).1
          have k2 := (C.get 2 _ rfl).1
          have k3 := (C.get 3 _ rfl).1
          have k4 := (C.get 4 _ rfl).1
          have k5 := (C.get 5 _ rfl).1
          have k6 := (C.get 6 _ rfl).1
          have k7 := (C.get 7 _ rfl).1
          have k8 := (C.get 8 _ rfl).1
          have k9 := (C.get 9 _ rfl).1
          have k10 := (C.get 10 _ rfl).1
          have k11 := (C.get 11 _ rfl).1
          have k12 := (C.get 12 _ rfl).1
          have k13 := (C.get 13 _ rfl).1
          have k14 := (C.get 14 _ rfl).1
          have k15 := (C.get 15 _ rfl).1
          have k16 := (C.get 16 _ rfl).1
          have m0 := (D.get 0 _ rfl).1
          have m1 := (D.get 1 _ rfl).1
          have m2 := (D.get 2 _ rfl).1
          have m3 := (D.get 3 _ rfl).1
          have m4 := (D.get 4 _ rfl).1
          have m5 := (D.get 5 _ rfl).1
          cases q4
          · clear C D HL HD f7 hne hlt f4 f5 f6 k0 k2 k3 k4 k5 k6 k7 k9 k10 k11 k12 k13 k14 k15 k16 m0 m1 m2 m3 m4 m5
            go_wp2_with fail
            all_goals go_ret
            all_goals exact ⟨by simp, b4⟩
          · clear f4
            go_wp2_with fail
            refine (f5 _).mono ?_
            rintro e w' ⟨rfl, rfl⟩
            cases q5
            · clear C D HL HD f7 hne hlt f5 f6 k0 k2 k3 k4 k5 k6 k7 k9 k10 k11 k12 k13 k14 k15 k16 m0 m1 m2 m3 m4 m5
              go_wp2_with fail
              all_goals go_ret
              all_goals exact ⟨by simp, b4⟩
            · clear f5
              go_wp2_with fail
              refine (f6 _).mono ?_
              rintro e w4 ⟨rfl, by_⟩
              replace C := C.below by_
              replace D := D.below by_
              have b5 := bnext b4 by_ (Nat.le_refl _)
              clear by_ b4
              clear k0 k2 k3 k4 k5 k6 k7 k8 k9 k10 k11 k12 k13 k14 k15 k16 m0 m1 m2 m3 m4 m5
              have k0 := (C.get 0 _ rfl).1
              have k2 := (C.get 2 _ rfl).1
              have k3 := (C.get 3 _ rfl).1
              have k4 := (C.get 4 _ rfl).1
              have k5 := (C.get 5 _ rfl).1
              have k6 := (C.get 6 _ rfl).1
              have k7 := (C.get 7 _ rfl).1
              have k8 := (C.get 8 _ rfl).1
              have k9 := (C.get 9 _ rfl).1
              have k10 := (C.get 10 _ rfl).1
              have k11 := (C.get 11 _ rfl).1
              have k12 := (C.get 12 _ rfl).1
              have k13 := (C.get 13 _ rfl).1
              have k14 := (C.get 14 _ rfl).1
              have k15 := (C.get 15 _ rfl).1
              have k16 := (C.get 16 _ rfl).1
              have m0 := (D.get 0 _ rfl).1
              have m1 := (D.get 1 _ rfl).1
              have m2 := (D.get 2 _ rfl).1
              have m3 := (D.get 3 _ rfl).1
              have m4 := (D.get 4 _ rfl).1
              have m5 := (D.get 5 _ rfl).1
              cases q6
              · clear C D HL HD f7 hne hlt f6 k0 k2 k3 k4 k5 k6 k7 k9 k10 k11 k12 k13 k14 k15 k16 m0 m1 m2 m3 m4 m5
                go_wp2_with fail
                all_goals go_ret
                all_goals exact ⟨by simp, b5⟩
              · clear f6
                cases h5
                · cases hz : (delta == 0)
                  · go_wp2_with fail
                    go_ret
                    exact ⟨by rw [hz]; simp, b5⟩
                  · go_wp2_with fail
                    refine (f7 _ (HL.out.below b5) (HD.out.below b5)).mono ?_
                    rintro e wz ⟨rfl, bz⟩
                    clear k0
                    go_wp2_with fail
                    go_ret
                    exact ⟨by rw [hz]; simp, bnext b5 bz (Nat.le_refl _)⟩
                · go_wp2_with fail
                  refine (f7 _ (HL.out.below b5) (HD.out.below b5)).mono ?_
                  rintro e wz ⟨rfl, bz⟩
                  clear k0
                  go_wp2_with fail
                  go_ret
                  exact ⟨by simp, bnext b5 bz (Nat.le_refl _)⟩

theorem check_any (r : RecM) (la da : Option Addr) (lc dc : Nat) (w : World) (hl : Lies w la (liveCs r.live)) (hd : Lies w da (dirtyCs r.dirty)) :
    Calls Tryz.prog 27 #[.agg (recC r la lc da dc)] w fun e w' => e = .returned (.int .i64 ((chkE r : Nat) : Int)) ∧ Below w.heap.size w w' := by
  unfold chkE
  have f1 := fun w => fromK_any 1 r.kind 8 w
  have hk : fromB 1 r.kind 8 = true → 1 ≤ r.kind ∧ r.kind ≤ 8 := by unfold fromB; simp
  generalize fromB 1 r.kind 8 = q1 at *
  have f2 := fun w a b h h' => mayBe_any r la da lc dc w a b h h'
  generalize okB r = q2 at *
  obtain ⟨lsn, kind, tx, prev, wp, wi, sp, si, delta, id, grp, lo, hi, val, live, dirty, next⟩ := r
  simp only [recC] at *
  have HL := hide hl
  have HD := hide hd
  clear hl hd
  cases q1
  · go_enter Tryz.func27, Tryz.ntmps27
    go_wp2_with fail
    refine (f1 _).mono ?_
    rintro e w' ⟨rfl, rfl⟩
    go_wp2_with fail
    go_ret
    exact ⟨by simp, (by repeat (first | exact Below.refl _ _ | refine Below.alloc ?_ (by simp <;> omega) _ | refine Below.setCell ?_ (by simp <;> omega) _))⟩
  · obtain ⟨k1, k8⟩ := hk rfl
    go_enter Tryz.func27, Tryz.ntmps27
    go_wp2_with fail
    refine (f1 _).mono ?_
    rintro e w' ⟨rfl, rfl⟩
    go_wp2_with fail
    refine (f2 _ (HL.out.below (alloc_below _ _)) (HD.out.below (alloc_below _ _)) k1 k8).mono ?_
    rintro e w1 ⟨rfl, b1⟩
    have b2 := bnext (alloc_below w _) b1 (Nat.le_refl _)
    clear b1
    cases q2
    · go_wp2_with fail
      go_ret
      exact ⟨by simp, b2⟩
    · go_wp2_with fail
      go_ret
      exact ⟨by simp, b2⟩
end Go.Proofs.YtblngphjoafidaaGreat
