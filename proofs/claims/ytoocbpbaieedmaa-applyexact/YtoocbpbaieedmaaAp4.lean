import Derived.Test.YtoocbpbaieedmaaAp3
namespace Go.Proofs.Ytoocbpbaieedmaa
open Go.RowKit Go.QK Quota
set_option maxRecDepth 100000
theorem ctrAt_nat (l : List Ctr) (i : Nat) (h : i < l.length) : ctrAt l (i : Int) = l[i] := by
  unfold ctrAt
  rw [Int.toNat_natCast, List.getD_eq_getElem?_getD, List.getElem?_eq_getElem h]
  rfl
theorem grpAt_nat (l : List Grp) (i : Nat) (h : i < l.length) : grpAt l (i : Int) = l[i] := by
  unfold grpAt
  rw [Int.toNat_natCast, List.getD_eq_getElem?_getD, List.getElem?_eq_getElem h]
  rfl
/-- Draws leave the memory. -/
theorem bel {B : Nat} {w w' : World} {n : Nat} (h : Below B w w') : Below B w (w'.drewN n) := below_drewN h n
set_option maxHeartbeats 8000000 in
theorem isC_any (p : Pg) (t : At) (r : Rc) (w : World) (h : PIn w p t) (hl : p.cs.length ≤ 1000000) : Calls Try.prog 37 #[pgV p t, recV r] w fun e w' => e = .returned (.bool (decide (isC p r))) ∧ Below w.heap.size w w' := by
  obtain ⟨num, lsn, cs, gs⟩ := p
  obtain ⟨rlsn, k, tx, prev, wp, wi, sp, si, delta, ⟨cid, cgrp, clo, chi, cval⟩, x, y, z⟩ := r
  obtain ⟨ta, tc, tb, td⟩ := t
  obtain ⟨E, hE⟩ : ∃ E, E = decide (isC ⟨num, lsn, cs, gs⟩ ⟨rlsn, k, tx, prev, wp, wi, sp, si, delta, ⟨cid, cgrp, clo, chi, cval⟩, x, y, z⟩) := ⟨_, rfl⟩
  rw [← hE]
  obtain ⟨lc, lg, -, -, cc, cg⟩ := h
  have HE := hide hE
  clear hE
  try dsimp only at cc cg lc lg
  simp only [recV, recA, pgV, pgA] at *
  try dsimp only at hl
  by_cases h0 : decide (0 < gs.length) = true
  · have e1 := hide (show E = false by rw [HE.out]; exact decide_eq_false (fun q => by have := of_decide_eq_true h0; have := q.1; dsimp only at this; omega))
    clear HE lc lg
    go_enter Try.func37, Try.ntmps37
    go_upto_region 1 with fail
    refine named (P := Code.wp _ _ _ _) ?_
    intro w2 hw2
    have b2 : Below w.heap.size w w2 := by rw [hw2]; exact bnext (alloc_below _ _) (alloc_below _ _) (Nat.le_refl _)
    have B2 := hide b2
    have c2 : Cells w2 w.heap.size [.int .i64 num, .int .i64 lsn, .slice ta cs.length tc, .slice tb gs.length td] := by rw [hw2]; exact (Cells.new w _ _).below (alloc_below _ _)
    have r2 : RBox w2 (w.heap.size + 1) 38 #[.int .i64 rlsn, .int .i64 k, .int .i64 tx, .int .i64 prev, .int .i64 wp, .int .i64 wi, .int .i64 sp, .int .i64 si, .int .i64 delta, .int .i64 cid, .int .i64 cgrp, .int .i64 clo, .int .i64 chi, .int .i64 cval, x, y, z] := by
      rw [hw2]
      have q := RBox.new (w.alloc (.cells #[.int .i64 num, .int .i64 lsn, .slice ta cs.length tc, .slice tb gs.length td] 40)) #[.int .i64 rlsn, .int .i64 k, .int .i64 tx, .int .i64 prev, .int .i64 wp, .int .i64 wi, .int .i64 sp, .int .i64 si, .int .i64 delta, .int .i64 cid, .int .i64 cgrp, .int .i64 clo, .int .i64 chi, .int .i64 cval, x, y, z] 38
      rw [World.size_alloc] at q
      exact q
    obtain ⟨f2, -⟩ := c2.get 2 _ rfl
    obtain ⟨f3, -⟩ := c2.get 3 _ rfl
    obtain ⟨g1, -⟩ := r2.cells.get 1 _ rfl
    obtain ⟨gA, -⟩ := r2.cells.get 5 _ rfl
    obtain ⟨gB, -⟩ := r2.cells.get 9 _ rfl
    clear c2 r2 hw2
    go_wp2_with (go_quiet (fail))
    exact bodyPost_ret (v := .bool false) (by simp [results, Try.results37, go_sem]) rfl ⟨by rw [e1.out], by first | exact B2.out | exact bel B2.out | (exact bel (bel B2.out))⟩
  · have h0' : decide (0 < gs.length) = false := by simpa using h0
    have n0 : gs.length = 0 := by have := of_decide_eq_false h0'; omega
    clear h0
    by_cases h2 : (k == 2) = true
    · have k2 : k = 2 := by simpa using h2
      by_cases h3 : (wi == (cs.length : Int)) = true
      · by_cases h5 : decide ((cs.length : Int) < 31) = true
        · have e1 := hide (show E = true by
            rw [HE.out]
            apply decide_eq_true
            show (gs.length = 0 ∧ if k = 2 then wi = (cs.length : Int) ∧ cs.length < 31 else _)
            rw [if_pos k2]
            exact ⟨n0, by simpa using h3, by have := of_decide_eq_true h5; omega⟩)
          have N0 := hide n0
          clear HE lc lg n0 k2
          go_enter Try.func37, Try.ntmps37
          go_upto_region 1 with fail
          refine named (P := Code.wp _ _ _ _) ?_
          intro w2 hw2
          have b2 : Below w.heap.size w w2 := by rw [hw2]; exact bnext (alloc_below _ _) (alloc_below _ _) (Nat.le_refl _)
          have B2 := hide b2
          have c2 : Cells w2 w.heap.size [.int .i64 num, .int .i64 lsn, .slice ta cs.length tc, .slice tb gs.length td] := by rw [hw2]; exact (Cells.new w _ _).below (alloc_below _ _)
          have r2 : RBox w2 (w.heap.size + 1) 38 #[.int .i64 rlsn, .int .i64 k, .int .i64 tx, .int .i64 prev, .int .i64 wp, .int .i64 wi, .int .i64 sp, .int .i64 si, .int .i64 delta, .int .i64 cid, .int .i64 cgrp, .int .i64 clo, .int .i64 chi, .int .i64 cval, x, y, z] := by
            rw [hw2]
            have q := RBox.new (w.alloc (.cells #[.int .i64 num, .int .i64 lsn, .slice ta cs.length tc, .slice tb gs.length td] 40)) #[.int .i64 rlsn, .int .i64 k, .int .i64 tx, .int .i64 prev, .int .i64 wp, .int .i64 wi, .int .i64 sp, .int .i64 si, .int .i64 delta, .int .i64 cid, .int .i64 cgrp, .int .i64 clo, .int .i64 chi, .int .i64 cval, x, y, z] 38
            rw [World.size_alloc] at q
            exact q
          obtain ⟨f2, -⟩ := c2.get 2 _ rfl
          obtain ⟨f3, -⟩ := c2.get 3 _ rfl
          obtain ⟨g1, -⟩ := r2.cells.get 1 _ rfl
          obtain ⟨gA, -⟩ := r2.cells.get 5 _ rfl
          obtain ⟨gB, -⟩ := r2.cells.get 9 _ rfl
          clear c2 r2 hw2
          go_wp2_with (go_quiet (fail))
          exact bodyPost_ret (v := .bool true) (by simp [results, Try.results37, go_sem]) rfl ⟨by rw [e1.out], by first | exact B2.out | exact bel B2.out | (exact bel (bel B2.out))⟩
        · have h5' : decide ((cs.length : Int) < 31) = false := by simpa using h5
          have e1 := hide (show E = false by
            rw [HE.out]
            apply decide_eq_false
            show ¬ (gs.length = 0 ∧ if k = 2 then wi = (cs.length : Int) ∧ cs.length < 31 else _)
            rw [if_pos k2]
            rintro ⟨_, _, q⟩
            exact h5 (decide_eq_true (by omega)))
          have N0 := hide n0
          clear HE lc lg n0 k2 h5
          go_enter Try.func37, Try.ntmps37
          go_upto_region 1 with fail
          refine named (P := Code.wp _ _ _ _) ?_
          intro w2 hw2
          have b2 : Below w.heap.size w w2 := by rw [hw2]; exact bnext (alloc_below _ _) (alloc_below _ _) (Nat.le_refl _)
          have B2 := hide b2
          have c2 : Cells w2 w.heap.size [.int .i64 num, .int .i64 lsn, .slice ta cs.length tc, .slice tb gs.length td] := by rw [hw2]; exact (Cells.new w _ _).below (alloc_below _ _)
          have r2 : RBox w2 (w.heap.size + 1) 38 #[.int .i64 rlsn, .int .i64 k, .int .i64 tx, .int .i64 prev, .int .i64 wp, .int .i64 wi, .int .i64 sp, .int .i64 si, .int .i64 delta, .int .i64 cid, .int .i64 cgrp, .int .i64 clo, .int .i64 chi, .int .i64 cval, x, y, z] := by
            rw [hw2]
            have q := RBox.new (w.alloc (.cells #[.int .i64 num, .int .i64 lsn, .slice ta cs.length tc, .slice tb gs.length td] 40)) #[.int .i64 rlsn, .int .i64 k, .int .i64 tx, .int .i64 prev, .int .i64 wp, .int .i64 wi, .int .i64 sp, .int .i64 si, .int .i64 delta, .int .i64 cid, .int .i64 cgrp, .int .i64 clo, .int .i64 chi, .int .i64 cval, x, y, z] 38
            rw [World.size_alloc] at q
            exact q
          obtain ⟨f2, -⟩ := c2.get 2 _ rfl
          obtain ⟨f3, -⟩ := c2.get 3 _ rfl
          obtain ⟨g1, -⟩ := r2.cells.get 1 _ rfl
          obtain ⟨gA, -⟩ := r2.cells.get 5 _ rfl
          obtain ⟨gB, -⟩ := r2.cells.get 9 _ rfl
          clear c2 r2 hw2
          go_wp2_with (go_quiet (fail))
          exact bodyPost_ret (v := .bool false) (by simp [results, Try.results37, go_sem]) rfl ⟨by rw [e1.out], by first | exact B2.out | exact bel B2.out | (exact bel (bel B2.out))⟩
      · have h3' : (wi == (cs.length : Int)) = false := by simpa using h3
        have e1 := hide (show E = false by
          rw [HE.out]
          apply decide_eq_false
          show ¬ (gs.length = 0 ∧ if k = 2 then wi = (cs.length : Int) ∧ cs.length < 31 else _)
          rw [if_pos k2]
          rintro ⟨_, q, _⟩
          exact h3 (by simpa using q))
        clear HE lc lg n0 k2 h3
        go_enter Try.func37, Try.ntmps37
        go_upto_region 1 with fail
        refine named (P := Code.wp _ _ _ _) ?_
        intro w2 hw2
        have b2 : Below w.heap.size w w2 := by rw [hw2]; exact bnext (alloc_below _ _) (alloc_below _ _) (Nat.le_refl _)
        have B2 := hide b2
        have c2 : Cells w2 w.heap.size [.int .i64 num, .int .i64 lsn, .slice ta cs.length tc, .slice tb gs.length td] := by rw [hw2]; exact (Cells.new w _ _).below (alloc_below _ _)
        have r2 : RBox w2 (w.heap.size + 1) 38 #[.int .i64 rlsn, .int .i64 k, .int .i64 tx, .int .i64 prev, .int .i64 wp, .int .i64 wi, .int .i64 sp, .int .i64 si, .int .i64 delta, .int .i64 cid, .int .i64 cgrp, .int .i64 clo, .int .i64 chi, .int .i64 cval, x, y, z] := by
          rw [hw2]
          have q := RBox.new (w.alloc (.cells #[.int .i64 num, .int .i64 lsn, .slice ta cs.length tc, .slice tb gs.length td] 40)) #[.int .i64 rlsn, .int .i64 k, .int .i64 tx, .int .i64 prev, .int .i64 wp, .int .i64 wi, .int .i64 sp, .int .i64 si, .int .i64 delta, .int .i64 cid, .int .i64 cgrp, .int .i64 clo, .int .i64 chi, .int .i64 cval, x, y, z] 38
          rw [World.size_alloc] at q
          exact q
        obtain ⟨f2, -⟩ := c2.get 2 _ rfl
        obtain ⟨f3, -⟩ := c2.get 3 _ rfl
        obtain ⟨g1, -⟩ := r2.cells.get 1 _ rfl
        obtain ⟨gA, -⟩ := r2.cells.get 5 _ rfl
        obtain ⟨gB, -⟩ := r2.cells.get 9 _ rfl
        clear c2 r2 hw2
        go_wp2_with (go_quiet (fail))
        exact bodyPost_ret (v := .bool false) (by simp [results, Try.results37, go_sem]) rfl ⟨by rw [e1.out], by first | exact B2.out | exact bel B2.out | (exact bel (bel B2.out))⟩
    · have h2' : (k == 2) = false := by simpa using h2
      have k2 : ¬ k = 2 := by simpa using h2
      clear h2
      by_cases h3 : decide (0 ≤ wi) = true
      · by_cases h4 : decide (wi < (cs.length : Int)) = true
        · obtain ⟨i, rfl⟩ : ∃ i : Nat, wi = (i : Int) := ⟨wi.toNat, by have := of_decide_eq_true h3; omega⟩
          have hi : i < cs.length := by have := of_decide_eq_true h4; omega
          obtain ⟨cb, co, rfl, clt, cel⟩ := Lies.rowAt ctrC 5 (fun _ => rfl) lc i hi (by decide)
          have q0 := cel 0 _ rfl
          have e1 := hide (show E = (cs[i].id == cid) by
            rw [HE.out]
            show _ = decide (cs[i].id = cid)
            apply decide_eq_decide.2
            show (gs.length = 0 ∧ if k = 2 then _ else 0 ≤ (i : Int) ∧ (i : Int) < cs.length ∧ (ctrAt cs (i : Int)).id = cid) ↔ _
            rw [if_neg k2, ctrAt_nat cs i hi]
            exact ⟨fun q => q.2.2.2, fun q => ⟨n0, by omega, by omega, q⟩⟩)
          obtain ⟨id0, hid0⟩ : ∃ z, z = cs[i].id := ⟨_, rfl⟩
          rw [← hid0] at q0 e1
          have Q0 := hide q0
          have CLT := hide clt
          have HI := hide hi
          clear HE lc lg n0 k2 cel q0 hid0 clt
          go_enter Try.func37, Try.ntmps37
          go_upto_region 1 with fail
          refine named (P := Code.wp _ _ _ _) ?_
          intro w2 hw2
          have b2 : Below w.heap.size w w2 := by rw [hw2]; exact bnext (alloc_below _ _) (alloc_below _ _) (Nat.le_refl _)
          have B2 := hide b2
          have c2 : Cells w2 w.heap.size [.int .i64 num, .int .i64 lsn, .slice (some ⟨cb, co, none⟩) cs.length tc, .slice tb gs.length td] := by rw [hw2]; exact (Cells.new w _ _).below (alloc_below _ _)
          have r2 : RBox w2 (w.heap.size + 1) 38 #[.int .i64 rlsn, .int .i64 k, .int .i64 tx, .int .i64 prev, .int .i64 wp, .int .i64 (i : Int), .int .i64 sp, .int .i64 si, .int .i64 delta, .int .i64 cid, .int .i64 cgrp, .int .i64 clo, .int .i64 chi, .int .i64 cval, x, y, z] := by
            rw [hw2]
            have q := RBox.new (w.alloc (.cells #[.int .i64 num, .int .i64 lsn, .slice (some ⟨cb, co, none⟩) cs.length tc, .slice tb gs.length td] 40)) #[.int .i64 rlsn, .int .i64 k, .int .i64 tx, .int .i64 prev, .int .i64 wp, .int .i64 (i : Int), .int .i64 sp, .int .i64 si, .int .i64 delta, .int .i64 cid, .int .i64 cgrp, .int .i64 clo, .int .i64 chi, .int .i64 cval, x, y, z] 38
            rw [World.size_alloc] at q
            exact q
          obtain ⟨f2, -⟩ := c2.get 2 _ rfl
          obtain ⟨f3, -⟩ := c2.get 3 _ rfl
          obtain ⟨g1, -⟩ := r2.cells.get 1 _ rfl
          obtain ⟨gA, -⟩ := r2.cells.get 5 _ rfl
          obtain ⟨gB, -⟩ := r2.cells.get 9 _ rfl
          clear c2 r2 hw2
          have q1 := (b2.cell (p := ⟨cb, co + i * 5 + 0, none⟩) CLT.out).trans Q0.out
          rw [Nat.add_zero] at q1
          clear b2 Q0 CLT
          go_wp2_with (go_quiet (fail))
          exact bodyPost_ret (v := .bool (id0 == cid)) (by simp [results, Try.results37, go_sem]) rfl ⟨by rw [e1.out], by first | exact B2.out | exact bel B2.out | (exact bel (bel B2.out))⟩
        · have h4' : decide (wi < (cs.length : Int)) = false := by simpa using h4
          have e1 := hide (show E = false by
            rw [HE.out]
            apply decide_eq_false
            show ¬ (gs.length = 0 ∧ if k = 2 then _ else 0 ≤ wi ∧ wi < cs.length ∧ _)
            rw [if_neg k2]
            rintro ⟨_, _, q, _⟩
            exact h4 (by simpa using q))
          clear HE lc lg n0 k2 h4
          go_enter Try.func37, Try.ntmps37
          go_upto_region 1 with fail
          refine named (P := Code.wp _ _ _ _) ?_
          intro w2 hw2
          have b2 : Below w.heap.size w w2 := by rw [hw2]; exact bnext (alloc_below _ _) (alloc_below _ _) (Nat.le_refl _)
          have B2 := hide b2
          have c2 : Cells w2 w.heap.size [.int .i64 num, .int .i64 lsn, .slice ta cs.length tc, .slice tb gs.length td] := by rw [hw2]; exact (Cells.new w _ _).below (alloc_below _ _)
          have r2 : RBox w2 (w.heap.size + 1) 38 #[.int .i64 rlsn, .int .i64 k, .int .i64 tx, .int .i64 prev, .int .i64 wp, .int .i64 wi, .int .i64 sp, .int .i64 si, .int .i64 delta, .int .i64 cid, .int .i64 cgrp, .int .i64 clo, .int .i64 chi, .int .i64 cval, x, y, z] := by
            rw [hw2]
            have q := RBox.new (w.alloc (.cells #[.int .i64 num, .int .i64 lsn, .slice ta cs.length tc, .slice tb gs.length td] 40)) #[.int .i64 rlsn, .int .i64 k, .int .i64 tx, .int .i64 prev, .int .i64 wp, .int .i64 wi, .int .i64 sp, .int .i64 si, .int .i64 delta, .int .i64 cid, .int .i64 cgrp, .int .i64 clo, .int .i64 chi, .int .i64 cval, x, y, z] 38
            rw [World.size_alloc] at q
            exact q
          obtain ⟨f2, -⟩ := c2.get 2 _ rfl
          obtain ⟨f3, -⟩ := c2.get 3 _ rfl
          obtain ⟨g1, -⟩ := r2.cells.get 1 _ rfl
          obtain ⟨gA, -⟩ := r2.cells.get 5 _ rfl
          obtain ⟨gB, -⟩ := r2.cells.get 9 _ rfl
          clear c2 r2 hw2
          go_wp2_with (go_quiet (fail))
          exact bodyPost_ret (v := .bool false) (by simp [results, Try.results37, go_sem]) rfl ⟨by rw [e1.out], by first | exact B2.out | exact bel B2.out | (exact bel (bel B2.out))⟩
      · have h3' : decide (0 ≤ wi) = false := by simpa using h3
        have e1 := hide (show E = false by
          rw [HE.out]
          apply decide_eq_false
          show ¬ (gs.length = 0 ∧ if k = 2 then _ else 0 ≤ wi ∧ wi < cs.length ∧ _)
          rw [if_neg k2]
          rintro ⟨_, q, _, _⟩
          exact h3 (by simpa using q))
        clear HE lc lg n0 k2 h3
        go_enter Try.func37, Try.ntmps37
        go_upto_region 1 with fail
        refine named (P := Code.wp _ _ _ _) ?_
        intro w2 hw2
        have b2 : Below w.heap.size w w2 := by rw [hw2]; exact bnext (alloc_below _ _) (alloc_below _ _) (Nat.le_refl _)
        have B2 := hide b2
        have c2 : Cells w2 w.heap.size [.int .i64 num, .int .i64 lsn, .slice ta cs.length tc, .slice tb gs.length td] := by rw [hw2]; exact (Cells.new w _ _).below (alloc_below _ _)
        have r2 : RBox w2 (w.heap.size + 1) 38 #[.int .i64 rlsn, .int .i64 k, .int .i64 tx, .int .i64 prev, .int .i64 wp, .int .i64 wi, .int .i64 sp, .int .i64 si, .int .i64 delta, .int .i64 cid, .int .i64 cgrp, .int .i64 clo, .int .i64 chi, .int .i64 cval, x, y, z] := by
          rw [hw2]
          have q := RBox.new (w.alloc (.cells #[.int .i64 num, .int .i64 lsn, .slice ta cs.length tc, .slice tb gs.length td] 40)) #[.int .i64 rlsn, .int .i64 k, .int .i64 tx, .int .i64 prev, .int .i64 wp, .int .i64 wi, .int .i64 sp, .int .i64 si, .int .i64 delta, .int .i64 cid, .int .i64 cgrp, .int .i64 clo, .int .i64 chi, .int .i64 cval, x, y, z] 38
          rw [World.size_alloc] at q
          exact q
        obtain ⟨f2, -⟩ := c2.get 2 _ rfl
        obtain ⟨f3, -⟩ := c2.get 3 _ rfl
        obtain ⟨g1, -⟩ := r2.cells.get 1 _ rfl
        obtain ⟨gA, -⟩ := r2.cells.get 5 _ rfl
        obtain ⟨gB, -⟩ := r2.cells.get 9 _ rfl
        clear c2 r2 hw2
        go_wp2_with (go_quiet (fail))
        exact bodyPost_ret (v := .bool false) (by simp [results, Try.results37, go_sem]) rfl ⟨by rw [e1.out], by first | exact B2.out | exact bel B2.out | (exact bel (bel B2.out))⟩
set_option maxHeartbeats 8000000 in
theorem isS_any (p : Pg) (t : At) (r : Rc) (w : World) (h : PIn w p t) (hl : p.gs.length ≤ 1000000) : Calls Try.prog 44 #[pgV p t, recV r] w fun e w' => e = .returned (.bool (decide (isS p r))) ∧ Below w.heap.size w w' := by
  obtain ⟨num, lsn, cs, gs⟩ := p
  obtain ⟨rlsn, k, tx, prev, wp, wi, sp, si, delta, ⟨cid, cgrp, clo, chi, cval⟩, x, y, z⟩ := r
  obtain ⟨ta, tc, tb, td⟩ := t
  obtain ⟨E, hE⟩ : ∃ E, E = decide (isS ⟨num, lsn, cs, gs⟩ ⟨rlsn, k, tx, prev, wp, wi, sp, si, delta, ⟨cid, cgrp, clo, chi, cval⟩, x, y, z⟩) := ⟨_, rfl⟩
  rw [← hE]
  obtain ⟨lc, lg, -, -, cc, cg⟩ := h
  have HE := hide hE
  clear hE
  try dsimp only at cc cg lc lg
  simp only [recV, recA, pgV, pgA] at *
  try dsimp only at hl
  by_cases h3 : decide (0 ≤ si) = true
  · have n3 := of_decide_eq_true h3
    by_cases h4 : decide (si < (gs.length : Int)) = true
    · have n4 := of_decide_eq_true h4
      by_cases h0 : decide (0 < cs.length) = true
      · skip
        have e1 := hide (show E = false by
          rw [HE.out]
          apply decide_eq_false
          show ¬ (cs.length = 0 ∧ if 0 ≤ si ∧ si < (gs.length : Int) then (k = 2 → (grpAt gs si).id = cgrp) else k = 2 ∧ si = (gs.length : Int) ∧ gs.length < 84)
          rintro ⟨q, _⟩
          have := of_decide_eq_true h0
          omega)
        clear HE lc lg n3 n4
        go_enter Try.func44, Try.ntmps44
        go_upto_region 1 with fail
        refine named (P := Code.wp _ _ _ _) ?_
        intro w2 hw2
        have b2 : Below w.heap.size w w2 := by rw [hw2]; exact bnext (alloc_below _ _) (alloc_below _ _) (Nat.le_refl _)
        have B2 := hide b2
        have c2 : Cells w2 w.heap.size [.int .i64 num, .int .i64 lsn, .slice ta cs.length tc, .slice tb gs.length td] := by rw [hw2]; exact (Cells.new w _ _).below (alloc_below _ _)
        have r2 : RBox w2 (w.heap.size + 1) 38 #[.int .i64 rlsn, .int .i64 k, .int .i64 tx, .int .i64 prev, .int .i64 wp, .int .i64 wi, .int .i64 sp, .int .i64 si, .int .i64 delta, .int .i64 cid, .int .i64 cgrp, .int .i64 clo, .int .i64 chi, .int .i64 cval, x, y, z] := by
          rw [hw2]
          have q := RBox.new (w.alloc (.cells #[.int .i64 num, .int .i64 lsn, .slice ta cs.length tc, .slice tb gs.length td] 40)) #[.int .i64 rlsn, .int .i64 k, .int .i64 tx, .int .i64 prev, .int .i64 wp, .int .i64 wi, .int .i64 sp, .int .i64 si, .int .i64 delta, .int .i64 cid, .int .i64 cgrp, .int .i64 clo, .int .i64 chi, .int .i64 cval, x, y, z] 38
          rw [World.size_alloc] at q
          exact q
        obtain ⟨f2, -⟩ := c2.get 2 _ rfl
        obtain ⟨f3, -⟩ := c2.get 3 _ rfl
        obtain ⟨g1, -⟩ := r2.cells.get 1 _ rfl
        obtain ⟨gA, -⟩ := r2.cells.get 7 _ rfl
        obtain ⟨gB, -⟩ := r2.cells.get 10 _ rfl
        clear c2 r2 hw2
        clear b2
        go_wp2_with (go_quiet (fail))
        exact bodyPost_ret (v := .bool false) (by simp [results, Try.results44, go_sem]) rfl ⟨by rw [e1.out], by first | exact B2.out | exact bel B2.out | (exact bel (bel B2.out))⟩
      · have h0' : decide (0 < cs.length) = false := by simpa using h0
        have n0 : cs.length = 0 := by have := of_decide_eq_false h0'; omega
        clear h0
        by_cases h2 : (k == 2) = true
        · have k2 : k = 2 := by simpa using h2
          have k2' : (k != 2) = false := by rw [k2]; rfl
          obtain ⟨i, rfl⟩ : ∃ i : Nat, si = (i : Int) := ⟨si.toNat, by omega⟩
          have hi : i < gs.length := by omega
          obtain ⟨cb, co, rfl, clt, cel⟩ := Lies.rowAt grpC 2 (fun _ => rfl) lg i hi (by decide)
          have q0 := cel 0 _ rfl
          have e1 := hide (show E = (gs[i].id == cgrp) by
            rw [HE.out]
            show _ = decide (gs[i].id = cgrp)
            apply decide_eq_decide.2
            show (cs.length = 0 ∧ if 0 ≤ (i : Int) ∧ (i : Int) < (gs.length : Int) then (k = 2 → (grpAt gs (i : Int)).id = cgrp) else _) ↔ _
            rw [if_pos ⟨by omega, by omega⟩, grpAt_nat gs i hi]
            exact ⟨fun q => q.2 k2, fun q => ⟨n0, fun _ => q⟩⟩)
          obtain ⟨id0, hid0⟩ : ∃ z, z = gs[i].id := ⟨_, rfl⟩
          rw [← hid0] at q0 e1
          have Q0 := hide q0
          have CLT := hide clt
          have N0 := hide n0
          clear HE lc lg n0 k2 cel q0 hid0 clt n3 n4
          go_enter Try.func44, Try.ntmps44
          go_upto_region 1 with fail
          refine named (P := Code.wp _ _ _ _) ?_
          intro w2 hw2
          have b2 : Below w.heap.size w w2 := by rw [hw2]; exact bnext (alloc_below _ _) (alloc_below _ _) (Nat.le_refl _)
          have B2 := hide b2
          have c2 : Cells w2 w.heap.size [.int .i64 num, .int .i64 lsn, .slice ta cs.length tc, .slice (some ⟨cb, co, none⟩) gs.length td] := by rw [hw2]; exact (Cells.new w _ _).below (alloc_below _ _)
          have r2 : RBox w2 (w.heap.size + 1) 38 #[.int .i64 rlsn, .int .i64 k, .int .i64 tx, .int .i64 prev, .int .i64 wp, .int .i64 wi, .int .i64 sp, .int .i64 (i : Int), .int .i64 delta, .int .i64 cid, .int .i64 cgrp, .int .i64 clo, .int .i64 chi, .int .i64 cval, x, y, z] := by
            rw [hw2]
            have q := RBox.new (w.alloc (.cells #[.int .i64 num, .int .i64 lsn, .slice ta cs.length tc, .slice (some ⟨cb, co, none⟩) gs.length td] 40)) #[.int .i64 rlsn, .int .i64 k, .int .i64 tx, .int .i64 prev, .int .i64 wp, .int .i64 wi, .int .i64 sp, .int .i64 (i : Int), .int .i64 delta, .int .i64 cid, .int .i64 cgrp, .int .i64 clo, .int .i64 chi, .int .i64 cval, x, y, z] 38
            rw [World.size_alloc] at q
            exact q
          obtain ⟨f2, -⟩ := c2.get 2 _ rfl
          obtain ⟨f3, -⟩ := c2.get 3 _ rfl
          obtain ⟨g1, -⟩ := r2.cells.get 1 _ rfl
          obtain ⟨gA, -⟩ := r2.cells.get 7 _ rfl
          obtain ⟨gB, -⟩ := r2.cells.get 10 _ rfl
          clear c2 r2 hw2
          have q1 := (b2.cell (p := ⟨cb, co + i * 2 + 0, none⟩) CLT.out).trans Q0.out
          rw [Nat.add_zero] at q1
          clear b2 Q0 CLT
          go_wp2_with (go_quiet (fail))
          exact bodyPost_ret (v := .bool (id0 == cgrp)) (by simp [results, Try.results44, go_sem]) rfl ⟨by rw [e1.out], by first | exact B2.out | exact bel B2.out | (exact bel (bel B2.out))⟩
        · have k2 : ¬ k = 2 := by simpa using h2
          have k2' : (k != 2) = true := by simpa using k2
          have e1 := hide (show E = true by
            rw [HE.out]
            apply decide_eq_true
            show (cs.length = 0 ∧ if 0 ≤ si ∧ si < (gs.length : Int) then (k = 2 → (grpAt gs si).id = cgrp) else k = 2 ∧ si = (gs.length : Int) ∧ gs.length < 84)
            rw [if_pos ⟨n3, n4⟩]
            exact ⟨n0, fun q => absurd q k2⟩)
          clear HE lc lg n3 n4 n0 k2 h2
          go_enter Try.func44, Try.ntmps44
          go_upto_region 1 with fail
          refine named (P := Code.wp _ _ _ _) ?_
          intro w2 hw2
          have b2 : Below w.heap.size w w2 := by rw [hw2]; exact bnext (alloc_below _ _) (alloc_below _ _) (Nat.le_refl _)
          have B2 := hide b2
          have c2 : Cells w2 w.heap.size [.int .i64 num, .int .i64 lsn, .slice ta cs.length tc, .slice tb gs.length td] := by rw [hw2]; exact (Cells.new w _ _).below (alloc_below _ _)
          have r2 : RBox w2 (w.heap.size + 1) 38 #[.int .i64 rlsn, .int .i64 k, .int .i64 tx, .int .i64 prev, .int .i64 wp, .int .i64 wi, .int .i64 sp, .int .i64 si, .int .i64 delta, .int .i64 cid, .int .i64 cgrp, .int .i64 clo, .int .i64 chi, .int .i64 cval, x, y, z] := by
            rw [hw2]
            have q := RBox.new (w.alloc (.cells #[.int .i64 num, .int .i64 lsn, .slice ta cs.length tc, .slice tb gs.length td] 40)) #[.int .i64 rlsn, .int .i64 k, .int .i64 tx, .int .i64 prev, .int .i64 wp, .int .i64 wi, .int .i64 sp, .int .i64 si, .int .i64 delta, .int .i64 cid, .int .i64 cgrp, .int .i64 clo, .int .i64 chi, .int .i64 cval, x, y, z] 38
            rw [World.size_alloc] at q
            exact q
          obtain ⟨f2, -⟩ := c2.get 2 _ rfl
          obtain ⟨f3, -⟩ := c2.get 3 _ rfl
          obtain ⟨g1, -⟩ := r2.cells.get 1 _ rfl
          obtain ⟨gA, -⟩ := r2.cells.get 7 _ rfl
          obtain ⟨gB, -⟩ := r2.cells.get 10 _ rfl
          clear c2 r2 hw2
          clear b2
          go_wp2_with (go_quiet (fail))
          exact bodyPost_ret (v := .bool true) (by simp [results, Try.results44, go_sem]) rfl ⟨by rw [e1.out], by first | exact B2.out | exact bel B2.out | (exact bel (bel B2.out))⟩
    · have h4' : decide (si < (gs.length : Int)) = false := by simpa using h4
      have n4 := of_decide_eq_false h4'
      clear h4
      by_cases h0 : decide (0 < cs.length) = true
      · skip
        have e1 := hide (show E = false by
          rw [HE.out]
          apply decide_eq_false
          show ¬ (cs.length = 0 ∧ if 0 ≤ si ∧ si < (gs.length : Int) then (k = 2 → (grpAt gs si).id = cgrp) else k = 2 ∧ si = (gs.length : Int) ∧ gs.length < 84)
          rintro ⟨q, _⟩
          have := of_decide_eq_true h0
          omega)
        clear HE lc lg n3 n4
        go_enter Try.func44, Try.ntmps44
        go_upto_region 1 with fail
        refine named (P := Code.wp _ _ _ _) ?_
        intro w2 hw2
        have b2 : Below w.heap.size w w2 := by rw [hw2]; exact bnext (alloc_below _ _) (alloc_below _ _) (Nat.le_refl _)
        have B2 := hide b2
        have c2 : Cells w2 w.heap.size [.int .i64 num, .int .i64 lsn, .slice ta cs.length tc, .slice tb gs.length td] := by rw [hw2]; exact (Cells.new w _ _).below (alloc_below _ _)
        have r2 : RBox w2 (w.heap.size + 1) 38 #[.int .i64 rlsn, .int .i64 k, .int .i64 tx, .int .i64 prev, .int .i64 wp, .int .i64 wi, .int .i64 sp, .int .i64 si, .int .i64 delta, .int .i64 cid, .int .i64 cgrp, .int .i64 clo, .int .i64 chi, .int .i64 cval, x, y, z] := by
          rw [hw2]
          have q := RBox.new (w.alloc (.cells #[.int .i64 num, .int .i64 lsn, .slice ta cs.length tc, .slice tb gs.length td] 40)) #[.int .i64 rlsn, .int .i64 k, .int .i64 tx, .int .i64 prev, .int .i64 wp, .int .i64 wi, .int .i64 sp, .int .i64 si, .int .i64 delta, .int .i64 cid, .int .i64 cgrp, .int .i64 clo, .int .i64 chi, .int .i64 cval, x, y, z] 38
          rw [World.size_alloc] at q
          exact q
        obtain ⟨f2, -⟩ := c2.get 2 _ rfl
        obtain ⟨f3, -⟩ := c2.get 3 _ rfl
        obtain ⟨g1, -⟩ := r2.cells.get 1 _ rfl
        obtain ⟨gA, -⟩ := r2.cells.get 7 _ rfl
        obtain ⟨gB, -⟩ := r2.cells.get 10 _ rfl
        clear c2 r2 hw2
        clear b2
        go_wp2_with (go_quiet (fail))
        exact bodyPost_ret (v := .bool false) (by simp [results, Try.results44, go_sem]) rfl ⟨by rw [e1.out], by first | exact B2.out | exact bel B2.out | (exact bel (bel B2.out))⟩
      · have h0' : decide (0 < cs.length) = false := by simpa using h0
        have n0 : cs.length = 0 := by have := of_decide_eq_false h0'; omega
        clear h0
        by_cases h2 : (k == 2) = true
        · have k2 : k = 2 := by simpa using h2
          have k2' : (k != 2) = false := by rw [k2]; rfl
          by_cases h5 : (si == (gs.length : Int)) = true
          · have n5 : si = (gs.length : Int) := by simpa using h5
            by_cases h6 : decide ((gs.length : Int) < 84) = true
            · skip
              have e1 := hide (show E = true by
                rw [HE.out]
                apply decide_eq_true
                show (cs.length = 0 ∧ if 0 ≤ si ∧ si < (gs.length : Int) then (k = 2 → (grpAt gs si).id = cgrp) else k = 2 ∧ si = (gs.length : Int) ∧ gs.length < 84)
                rw [if_neg (fun q => n4 q.2)]
                exact ⟨n0, k2, n5, by have := of_decide_eq_true h6; omega⟩)
              clear HE lc lg n3 n4 n0 k2 n5
              go_enter Try.func44, Try.ntmps44
              go_upto_region 1 with fail
              refine named (P := Code.wp _ _ _ _) ?_
              intro w2 hw2
              have b2 : Below w.heap.size w w2 := by rw [hw2]; exact bnext (alloc_below _ _) (alloc_below _ _) (Nat.le_refl _)
              have B2 := hide b2
              have c2 : Cells w2 w.heap.size [.int .i64 num, .int .i64 lsn, .slice ta cs.length tc, .slice tb gs.length td] := by rw [hw2]; exact (Cells.new w _ _).below (alloc_below _ _)
              have r2 : RBox w2 (w.heap.size + 1) 38 #[.int .i64 rlsn, .int .i64 k, .int .i64 tx, .int .i64 prev, .int .i64 wp, .int .i64 wi, .int .i64 sp, .int .i64 si, .int .i64 delta, .int .i64 cid, .int .i64 cgrp, .int .i64 clo, .int .i64 chi, .int .i64 cval, x, y, z] := by
                rw [hw2]
                have q := RBox.new (w.alloc (.cells #[.int .i64 num, .int .i64 lsn, .slice ta cs.length tc, .slice tb gs.length td] 40)) #[.int .i64 rlsn, .int .i64 k, .int .i64 tx, .int .i64 prev, .int .i64 wp, .int .i64 wi, .int .i64 sp, .int .i64 si, .int .i64 delta, .int .i64 cid, .int .i64 cgrp, .int .i64 clo, .int .i64 chi, .int .i64 cval, x, y, z] 38
                rw [World.size_alloc] at q
                exact q
              obtain ⟨f2, -⟩ := c2.get 2 _ rfl
              obtain ⟨f3, -⟩ := c2.get 3 _ rfl
              obtain ⟨g1, -⟩ := r2.cells.get 1 _ rfl
              obtain ⟨gA, -⟩ := r2.cells.get 7 _ rfl
              obtain ⟨gB, -⟩ := r2.cells.get 10 _ rfl
              clear c2 r2 hw2
              clear b2
              go_wp2_with (go_quiet (fail))
              exact bodyPost_ret (v := .bool true) (by simp [results, Try.results44, go_sem]) rfl ⟨by rw [e1.out], by first | exact B2.out | exact bel B2.out | (exact bel (bel B2.out))⟩
            · have h6' : decide ((gs.length : Int) < 84) = false := by simpa using h6
              have e1 := hide (show E = false by
                rw [HE.out]
                apply decide_eq_false
                show ¬ (cs.length = 0 ∧ if 0 ≤ si ∧ si < (gs.length : Int) then (k = 2 → (grpAt gs si).id = cgrp) else k = 2 ∧ si = (gs.length : Int) ∧ gs.length < 84)
                rw [if_neg (fun q => n4 q.2)]
                rintro ⟨_, _, _, q⟩
                exact h6 (decide_eq_true (by omega)))
              clear HE lc lg n3 n4 n0 k2 n5 h6
              go_enter Try.func44, Try.ntmps44
              go_upto_region 1 with fail
              refine named (P := Code.wp _ _ _ _) ?_
              intro w2 hw2
              have b2 : Below w.heap.size w w2 := by rw [hw2]; exact bnext (alloc_below _ _) (alloc_below _ _) (Nat.le_refl _)
              have B2 := hide b2
              have c2 : Cells w2 w.heap.size [.int .i64 num, .int .i64 lsn, .slice ta cs.length tc, .slice tb gs.length td] := by rw [hw2]; exact (Cells.new w _ _).below (alloc_below _ _)
              have r2 : RBox w2 (w.heap.size + 1) 38 #[.int .i64 rlsn, .int .i64 k, .int .i64 tx, .int .i64 prev, .int .i64 wp, .int .i64 wi, .int .i64 sp, .int .i64 si, .int .i64 delta, .int .i64 cid, .int .i64 cgrp, .int .i64 clo, .int .i64 chi, .int .i64 cval, x, y, z] := by
                rw [hw2]
                have q := RBox.new (w.alloc (.cells #[.int .i64 num, .int .i64 lsn, .slice ta cs.length tc, .slice tb gs.length td] 40)) #[.int .i64 rlsn, .int .i64 k, .int .i64 tx, .int .i64 prev, .int .i64 wp, .int .i64 wi, .int .i64 sp, .int .i64 si, .int .i64 delta, .int .i64 cid, .int .i64 cgrp, .int .i64 clo, .int .i64 chi, .int .i64 cval, x, y, z] 38
                rw [World.size_alloc] at q
                exact q
              obtain ⟨f2, -⟩ := c2.get 2 _ rfl
              obtain ⟨f3, -⟩ := c2.get 3 _ rfl
              obtain ⟨g1, -⟩ := r2.cells.get 1 _ rfl
              obtain ⟨gA, -⟩ := r2.cells.get 7 _ rfl
              obtain ⟨gB, -⟩ := r2.cells.get 10 _ rfl
              clear c2 r2 hw2
              clear b2
              go_wp2_with (go_quiet (fail))
              exact bodyPost_ret (v := .bool false) (by simp [results, Try.results44, go_sem]) rfl ⟨by rw [e1.out], by first | exact B2.out | exact bel B2.out | (exact bel (bel B2.out))⟩
          · have h5' : (si == (gs.length : Int)) = false := by simpa using h5
            have e1 := hide (show E = false by
              rw [HE.out]
              apply decide_eq_false
              show ¬ (cs.length = 0 ∧ if 0 ≤ si ∧ si < (gs.length : Int) then (k = 2 → (grpAt gs si).id = cgrp) else k = 2 ∧ si = (gs.length : Int) ∧ gs.length < 84)
              rw [if_neg (fun q => n4 q.2)]
              rintro ⟨_, _, q, _⟩
              exact h5 (by simpa using q))
            clear HE lc lg n3 n4 n0 k2 h5
            go_enter Try.func44, Try.ntmps44
            go_upto_region 1 with fail
            refine named (P := Code.wp _ _ _ _) ?_
            intro w2 hw2
            have b2 : Below w.heap.size w w2 := by rw [hw2]; exact bnext (alloc_below _ _) (alloc_below _ _) (Nat.le_refl _)
            have B2 := hide b2
            have c2 : Cells w2 w.heap.size [.int .i64 num, .int .i64 lsn, .slice ta cs.length tc, .slice tb gs.length td] := by rw [hw2]; exact (Cells.new w _ _).below (alloc_below _ _)
            have r2 : RBox w2 (w.heap.size + 1) 38 #[.int .i64 rlsn, .int .i64 k, .int .i64 tx, .int .i64 prev, .int .i64 wp, .int .i64 wi, .int .i64 sp, .int .i64 si, .int .i64 delta, .int .i64 cid, .int .i64 cgrp, .int .i64 clo, .int .i64 chi, .int .i64 cval, x, y, z] := by
              rw [hw2]
              have q := RBox.new (w.alloc (.cells #[.int .i64 num, .int .i64 lsn, .slice ta cs.length tc, .slice tb gs.length td] 40)) #[.int .i64 rlsn, .int .i64 k, .int .i64 tx, .int .i64 prev, .int .i64 wp, .int .i64 wi, .int .i64 sp, .int .i64 si, .int .i64 delta, .int .i64 cid, .int .i64 cgrp, .int .i64 clo, .int .i64 chi, .int .i64 cval, x, y, z] 38
              rw [World.size_alloc] at q
              exact q
            obtain ⟨f2, -⟩ := c2.get 2 _ rfl
            obtain ⟨f3, -⟩ := c2.get 3 _ rfl
            obtain ⟨g1, -⟩ := r2.cells.get 1 _ rfl
            obtain ⟨gA, -⟩ := r2.cells.get 7 _ rfl
            obtain ⟨gB, -⟩ := r2.cells.get 10 _ rfl
            clear c2 r2 hw2
            clear b2
            go_wp2_with (go_quiet (fail))
            exact bodyPost_ret (v := .bool false) (by simp [results, Try.results44, go_sem]) rfl ⟨by rw [e1.out], by first | exact B2.out | exact bel B2.out | (exact bel (bel B2.out))⟩
        · have k2 : ¬ k = 2 := by simpa using h2
          have k2' : (k != 2) = true := by simpa using k2
          have e1 := hide (show E = false by
            rw [HE.out]
            apply decide_eq_false
            show ¬ (cs.length = 0 ∧ if 0 ≤ si ∧ si < (gs.length : Int) then (k = 2 → (grpAt gs si).id = cgrp) else k = 2 ∧ si = (gs.length : Int) ∧ gs.length < 84)
            rw [if_neg (fun q => n4 q.2)]
            exact fun q => k2 q.2.1)
          clear HE lc lg n3 n4 n0 k2 h2
          go_enter Try.func44, Try.ntmps44
          go_upto_region 1 with fail
          refine named (P := Code.wp _ _ _ _) ?_
          intro w2 hw2
          have b2 : Below w.heap.size w w2 := by rw [hw2]; exact bnext (alloc_below _ _) (alloc_below _ _) (Nat.le_refl _)
          have B2 := hide b2
          have c2 : Cells w2 w.heap.size [.int .i64 num, .int .i64 lsn, .slice ta cs.length tc, .slice tb gs.length td] := by rw [hw2]; exact (Cells.new w _ _).below (alloc_below _ _)
          have r2 : RBox w2 (w.heap.size + 1) 38 #[.int .i64 rlsn, .int .i64 k, .int .i64 tx, .int .i64 prev, .int .i64 wp, .int .i64 wi, .int .i64 sp, .int .i64 si, .int .i64 delta, .int .i64 cid, .int .i64 cgrp, .int .i64 clo, .int .i64 chi, .int .i64 cval, x, y, z] := by
            rw [hw2]
            have q := RBox.new (w.alloc (.cells #[.int .i64 num, .int .i64 lsn, .slice ta cs.length tc, .slice tb gs.length td] 40)) #[.int .i64 rlsn, .int .i64 k, .int .i64 tx, .int .i64 prev, .int .i64 wp, .int .i64 wi, .int .i64 sp, .int .i64 si, .int .i64 delta, .int .i64 cid, .int .i64 cgrp, .int .i64 clo, .int .i64 chi, .int .i64 cval, x, y, z] 38
            rw [World.size_alloc] at q
            exact q
          obtain ⟨f2, -⟩ := c2.get 2 _ rfl
          obtain ⟨f3, -⟩ := c2.get 3 _ rfl
          obtain ⟨g1, -⟩ := r2.cells.get 1 _ rfl
          obtain ⟨gA, -⟩ := r2.cells.get 7 _ rfl
          obtain ⟨gB, -⟩ := r2.cells.get 10 _ rfl
          clear c2 r2 hw2
          clear b2
          go_wp2_with (go_quiet (fail))
          exact bodyPost_ret (v := .bool false) (by simp [results, Try.results44, go_sem]) rfl ⟨by rw [e1.out], by first | exact B2.out | exact bel B2.out | (exact bel (bel B2.out))⟩
  · have h3' : decide (0 ≤ si) = false := by simpa using h3
    have n3 := of_decide_eq_false h3'
    clear h3
    by_cases h0 : decide (0 < cs.length) = true
    · skip
      have e1 := hide (show E = false by
        rw [HE.out]
        apply decide_eq_false
        show ¬ (cs.length = 0 ∧ if 0 ≤ si ∧ si < (gs.length : Int) then (k = 2 → (grpAt gs si).id = cgrp) else k = 2 ∧ si = (gs.length : Int) ∧ gs.length < 84)
        rintro ⟨q, _⟩
        have := of_decide_eq_true h0
        omega)
      clear HE lc lg n3
      go_enter Try.func44, Try.ntmps44
      go_upto_region 1 with fail
      refine named (P := Code.wp _ _ _ _) ?_
      intro w2 hw2
      have b2 : Below w.heap.size w w2 := by rw [hw2]; exact bnext (alloc_below _ _) (alloc_below _ _) (Nat.le_refl _)
      have B2 := hide b2
      have c2 : Cells w2 w.heap.size [.int .i64 num, .int .i64 lsn, .slice ta cs.length tc, .slice tb gs.length td] := by rw [hw2]; exact (Cells.new w _ _).below (alloc_below _ _)
      have r2 : RBox w2 (w.heap.size + 1) 38 #[.int .i64 rlsn, .int .i64 k, .int .i64 tx, .int .i64 prev, .int .i64 wp, .int .i64 wi, .int .i64 sp, .int .i64 si, .int .i64 delta, .int .i64 cid, .int .i64 cgrp, .int .i64 clo, .int .i64 chi, .int .i64 cval, x, y, z] := by
        rw [hw2]
        have q := RBox.new (w.alloc (.cells #[.int .i64 num, .int .i64 lsn, .slice ta cs.length tc, .slice tb gs.length td] 40)) #[.int .i64 rlsn, .int .i64 k, .int .i64 tx, .int .i64 prev, .int .i64 wp, .int .i64 wi, .int .i64 sp, .int .i64 si, .int .i64 delta, .int .i64 cid, .int .i64 cgrp, .int .i64 clo, .int .i64 chi, .int .i64 cval, x, y, z] 38
        rw [World.size_alloc] at q
        exact q
      obtain ⟨f2, -⟩ := c2.get 2 _ rfl
      obtain ⟨f3, -⟩ := c2.get 3 _ rfl
      obtain ⟨g1, -⟩ := r2.cells.get 1 _ rfl
      obtain ⟨gA, -⟩ := r2.cells.get 7 _ rfl
      obtain ⟨gB, -⟩ := r2.cells.get 10 _ rfl
      clear c2 r2 hw2
      clear b2
      go_wp2_with (go_quiet (fail))
      exact bodyPost_ret (v := .bool false) (by simp [results, Try.results44, go_sem]) rfl ⟨by rw [e1.out], by first | exact B2.out | exact bel B2.out | (exact bel (bel B2.out))⟩
    · have h0' : decide (0 < cs.length) = false := by simpa using h0
      have n0 : cs.length = 0 := by have := of_decide_eq_false h0'; omega
      clear h0
      by_cases h2 : (k == 2) = true
      · have k2 : k = 2 := by simpa using h2
        have k2' : (k != 2) = false := by rw [k2]; rfl
        by_cases h5 : (si == (gs.length : Int)) = true
        · have n5 : si = (gs.length : Int) := by simpa using h5
          by_cases h6 : decide ((gs.length : Int) < 84) = true
          · skip
            have e1 := hide (show E = true by
              rw [HE.out]
              apply decide_eq_true
              show (cs.length = 0 ∧ if 0 ≤ si ∧ si < (gs.length : Int) then (k = 2 → (grpAt gs si).id = cgrp) else k = 2 ∧ si = (gs.length : Int) ∧ gs.length < 84)
              rw [if_neg (fun q => n3 q.1)]
              exact ⟨n0, k2, n5, by have := of_decide_eq_true h6; omega⟩)
            clear HE lc lg n3 n0 k2 n5
            go_enter Try.func44, Try.ntmps44
            go_upto_region 1 with fail
            refine named (P := Code.wp _ _ _ _) ?_
            intro w2 hw2
            have b2 : Below w.heap.size w w2 := by rw [hw2]; exact bnext (alloc_below _ _) (alloc_below _ _) (Nat.le_refl _)
            have B2 := hide b2
            have c2 : Cells w2 w.heap.size [.int .i64 num, .int .i64 lsn, .slice ta cs.length tc, .slice tb gs.length td] := by rw [hw2]; exact (Cells.new w _ _).below (alloc_below _ _)
            have r2 : RBox w2 (w.heap.size + 1) 38 #[.int .i64 rlsn, .int .i64 k, .int .i64 tx, .int .i64 prev, .int .i64 wp, .int .i64 wi, .int .i64 sp, .int .i64 si, .int .i64 delta, .int .i64 cid, .int .i64 cgrp, .int .i64 clo, .int .i64 chi, .int .i64 cval, x, y, z] := by
              rw [hw2]
              have q := RBox.new (w.alloc (.cells #[.int .i64 num, .int .i64 lsn, .slice ta cs.length tc, .slice tb gs.length td] 40)) #[.int .i64 rlsn, .int .i64 k, .int .i64 tx, .int .i64 prev, .int .i64 wp, .int .i64 wi, .int .i64 sp, .int .i64 si, .int .i64 delta, .int .i64 cid, .int .i64 cgrp, .int .i64 clo, .int .i64 chi, .int .i64 cval, x, y, z] 38
              rw [World.size_alloc] at q
              exact q
            obtain ⟨f2, -⟩ := c2.get 2 _ rfl
            obtain ⟨f3, -⟩ := c2.get 3 _ rfl
            obtain ⟨g1, -⟩ := r2.cells.get 1 _ rfl
            obtain ⟨gA, -⟩ := r2.cells.get 7 _ rfl
            obtain ⟨gB, -⟩ := r2.cells.get 10 _ rfl
            clear c2 r2 hw2
            clear b2
            go_wp2_with (go_quiet (fail))
            exact bodyPost_ret (v := .bool true) (by simp [results, Try.results44, go_sem]) rfl ⟨by rw [e1.out], by first | exact B2.out | exact bel B2.out | (exact bel (bel B2.out))⟩
          · have h6' : decide ((gs.length : Int) < 84) = false := by simpa using h6
            have e1 := hide (show E = false by
              rw [HE.out]
              apply decide_eq_false
              show ¬ (cs.length = 0 ∧ if 0 ≤ si ∧ si < (gs.length : Int) then (k = 2 → (grpAt gs si).id = cgrp) else k = 2 ∧ si = (gs.length : Int) ∧ gs.length < 84)
              rw [if_neg (fun q => n3 q.1)]
              rintro ⟨_, _, _, q⟩
              exact h6 (decide_eq_true (by omega)))
            clear HE lc lg n3 n0 k2 n5 h6
            go_enter Try.func44, Try.ntmps44
            go_upto_region 1 with fail
            refine named (P := Code.wp _ _ _ _) ?_
            intro w2 hw2
            have b2 : Below w.heap.size w w2 := by rw [hw2]; exact bnext (alloc_below _ _) (alloc_below _ _) (Nat.le_refl _)
            have B2 := hide b2
            have c2 : Cells w2 w.heap.size [.int .i64 num, .int .i64 lsn, .slice ta cs.length tc, .slice tb gs.length td] := by rw [hw2]; exact (Cells.new w _ _).below (alloc_below _ _)
            have r2 : RBox w2 (w.heap.size + 1) 38 #[.int .i64 rlsn, .int .i64 k, .int .i64 tx, .int .i64 prev, .int .i64 wp, .int .i64 wi, .int .i64 sp, .int .i64 si, .int .i64 delta, .int .i64 cid, .int .i64 cgrp, .int .i64 clo, .int .i64 chi, .int .i64 cval, x, y, z] := by
              rw [hw2]
              have q := RBox.new (w.alloc (.cells #[.int .i64 num, .int .i64 lsn, .slice ta cs.length tc, .slice tb gs.length td] 40)) #[.int .i64 rlsn, .int .i64 k, .int .i64 tx, .int .i64 prev, .int .i64 wp, .int .i64 wi, .int .i64 sp, .int .i64 si, .int .i64 delta, .int .i64 cid, .int .i64 cgrp, .int .i64 clo, .int .i64 chi, .int .i64 cval, x, y, z] 38
              rw [World.size_alloc] at q
              exact q
            obtain ⟨f2, -⟩ := c2.get 2 _ rfl
            obtain ⟨f3, -⟩ := c2.get 3 _ rfl
            obtain ⟨g1, -⟩ := r2.cells.get 1 _ rfl
            obtain ⟨gA, -⟩ := r2.cells.get 7 _ rfl
            obtain ⟨gB, -⟩ := r2.cells.get 10 _ rfl
            clear c2 r2 hw2
            clear b2
            go_wp2_with (go_quiet (fail))
            exact bodyPost_ret (v := .bool false) (by simp [results, Try.results44, go_sem]) rfl ⟨by rw [e1.out], by first | exact B2.out | exact bel B2.out | (exact bel (bel B2.out))⟩
        · have h5' : (si == (gs.length : Int)) = false := by simpa using h5
          have e1 := hide (show E = false by
            rw [HE.out]
            apply decide_eq_false
            show ¬ (cs.length = 0 ∧ if 0 ≤ si ∧ si < (gs.length : Int) then (k = 2 → (grpAt gs si).id = cgrp) else k = 2 ∧ si = (gs.length : Int) ∧ gs.length < 84)
            rw [if_neg (fun q => n3 q.1)]
            rintro ⟨_, _, q, _⟩
            exact h5 (by simpa using q))
          clear HE lc lg n3 n0 k2 h5
          go_enter Try.func44, Try.ntmps44
          go_upto_region 1 with fail
          refine named (P := Code.wp _ _ _ _) ?_
          intro w2 hw2
          have b2 : Below w.heap.size w w2 := by rw [hw2]; exact bnext (alloc_below _ _) (alloc_below _ _) (Nat.le_refl _)
          have B2 := hide b2
          have c2 : Cells w2 w.heap.size [.int .i64 num, .int .i64 lsn, .slice ta cs.length tc, .slice tb gs.length td] := by rw [hw2]; exact (Cells.new w _ _).below (alloc_below _ _)
          have r2 : RBox w2 (w.heap.size + 1) 38 #[.int .i64 rlsn, .int .i64 k, .int .i64 tx, .int .i64 prev, .int .i64 wp, .int .i64 wi, .int .i64 sp, .int .i64 si, .int .i64 delta, .int .i64 cid, .int .i64 cgrp, .int .i64 clo, .int .i64 chi, .int .i64 cval, x, y, z] := by
            rw [hw2]
            have q := RBox.new (w.alloc (.cells #[.int .i64 num, .int .i64 lsn, .slice ta cs.length tc, .slice tb gs.length td] 40)) #[.int .i64 rlsn, .int .i64 k, .int .i64 tx, .int .i64 prev, .int .i64 wp, .int .i64 wi, .int .i64 sp, .int .i64 si, .int .i64 delta, .int .i64 cid, .int .i64 cgrp, .int .i64 clo, .int .i64 chi, .int .i64 cval, x, y, z] 38
            rw [World.size_alloc] at q
            exact q
          obtain ⟨f2, -⟩ := c2.get 2 _ rfl
          obtain ⟨f3, -⟩ := c2.get 3 _ rfl
          obtain ⟨g1, -⟩ := r2.cells.get 1 _ rfl
          obtain ⟨gA, -⟩ := r2.cells.get 7 _ rfl
          obtain ⟨gB, -⟩ := r2.cells.get 10 _ rfl
          clear c2 r2 hw2
          clear b2
          go_wp2_with (go_quiet (fail))
          exact bodyPost_ret (v := .bool false) (by simp [results, Try.results44, go_sem]) rfl ⟨by rw [e1.out], by first | exact B2.out | exact bel B2.out | (exact bel (bel B2.out))⟩
      · have k2 : ¬ k = 2 := by simpa using h2
        have k2' : (k != 2) = true := by simpa using k2
        have e1 := hide (show E = false by
          rw [HE.out]
          apply decide_eq_false
          show ¬ (cs.length = 0 ∧ if 0 ≤ si ∧ si < (gs.length : Int) then (k = 2 → (grpAt gs si).id = cgrp) else k = 2 ∧ si = (gs.length : Int) ∧ gs.length < 84)
          rw [if_neg (fun q => n3 q.1)]
          exact fun q => k2 q.2.1)
        clear HE lc lg n3 n0 k2 h2
        go_enter Try.func44, Try.ntmps44
        go_upto_region 1 with fail
        refine named (P := Code.wp _ _ _ _) ?_
        intro w2 hw2
        have b2 : Below w.heap.size w w2 := by rw [hw2]; exact bnext (alloc_below _ _) (alloc_below _ _) (Nat.le_refl _)
        have B2 := hide b2
        have c2 : Cells w2 w.heap.size [.int .i64 num, .int .i64 lsn, .slice ta cs.length tc, .slice tb gs.length td] := by rw [hw2]; exact (Cells.new w _ _).below (alloc_below _ _)
        have r2 : RBox w2 (w.heap.size + 1) 38 #[.int .i64 rlsn, .int .i64 k, .int .i64 tx, .int .i64 prev, .int .i64 wp, .int .i64 wi, .int .i64 sp, .int .i64 si, .int .i64 delta, .int .i64 cid, .int .i64 cgrp, .int .i64 clo, .int .i64 chi, .int .i64 cval, x, y, z] := by
          rw [hw2]
          have q := RBox.new (w.alloc (.cells #[.int .i64 num, .int .i64 lsn, .slice ta cs.length tc, .slice tb gs.length td] 40)) #[.int .i64 rlsn, .int .i64 k, .int .i64 tx, .int .i64 prev, .int .i64 wp, .int .i64 wi, .int .i64 sp, .int .i64 si, .int .i64 delta, .int .i64 cid, .int .i64 cgrp, .int .i64 clo, .int .i64 chi, .int .i64 cval, x, y, z] 38
          rw [World.size_alloc] at q
          exact q
        obtain ⟨f2, -⟩ := c2.get 2 _ rfl
        obtain ⟨f3, -⟩ := c2.get 3 _ rfl
        obtain ⟨g1, -⟩ := r2.cells.get 1 _ rfl
        obtain ⟨gA, -⟩ := r2.cells.get 7 _ rfl
        obtain ⟨gB, -⟩ := r2.cells.get 10 _ rfl
        clear c2 r2 hw2
        clear b2
        go_wp2_with (go_quiet (fail))
        exact bodyPost_ret (v := .bool false) (by simp [results, Try.results44, go_sem]) rfl ⟨by rw [e1.out], by first | exact B2.out | exact bel B2.out | (exact bel (bel B2.out))⟩
end Go.Proofs.Ytoocbpbaieedmaa
