import Derived.Test.YtoocbpbaieedmaaAp2
namespace Go.Proofs.Ytoocbpbaieedmaa
open Go.RowKit Go.QK Quota
set_option maxRecDepth 100000
set_option maxHeartbeats 4000000 in
theorem back_any (p : Pg) (t : At) (w : World) : Calls Try.prog 13 #[pgV p t] w fun e w' => e = .returned (pgV p t) ∧ Below w.heap.size w w' := by
  obtain ⟨num, lsn, cs, gs⟩ := p
  obtain ⟨ta, tc, tb, td⟩ := t
  simp only [pgV, pgA] at *
  go_enter Try.func13, Try.ntmps13
  go_wp2_with fail
  refine bodyPost_ret (v := .agg #[.int .i64 num, .int .i64 lsn, .slice ta cs.length tc, .slice tb gs.length td]) (by simp [results, Try.results13, go_sem]) rfl ⟨rfl, ?_⟩
  first | exact bnext (alloc_below _ _) (alloc_below _ _) (Nat.le_refl _) | (refine Below.trans (alloc_below _ _) ?_; skip)
abbrev fv (n b : Nat) : Value := .func (.func n) #[] #[ptr b]
def fnOf (k : Int) : Nat := if k = 2 then 39 else if k = 3 then 41 else 42
theorem changeOf_any (r : Rc) (w : World) : Calls Try.prog 32 #[recV r] w fun e w' => e = .returned (fv (fnOf r.k) w.heap.size) ∧ w' = w.alloc (.cells (recA r) 38) := by
  obtain ⟨F, hF⟩ : ∃ F, F = fnOf r.k := ⟨_, rfl⟩
  rw [← hF]
  obtain ⟨lsn, k, tx, prev, wp, wi, sp, si, delta, ⟨cid, cgrp, clo, chi, cval⟩, x, y, z⟩ := r
  simp only [recV, recA] at *
  by_cases h2 : (k == 2) = true
  · have e := hide (show F = 39 by rw [hF]; unfold fnOf; rw [if_pos (by simpa using h2)])
    clear hF
    go_enter Try.func32, Try.ntmps32
    go_wp2_with fail
    exact bodyPost_ret (v := fv 39 w.heap.size) (by simp [results, Try.results32, go_sem]) rfl ⟨by rw [e.out], rfl⟩
  · have h2' : (k == 2) = false := by simpa using h2
    have n2 : ¬ k = 2 := by simpa using h2
    clear h2
    by_cases h3 : (k == 3) = true
    · have e := hide (show F = 41 by rw [hF]; unfold fnOf; rw [if_neg n2, if_pos (by simpa using h3)])
      clear hF n2
      go_enter Try.func32, Try.ntmps32
      go_wp2_with fail
      exact bodyPost_ret (v := fv 41 w.heap.size) (by simp [results, Try.results32, go_sem]) rfl ⟨by rw [e.out], rfl⟩
    · have h3' : (k == 3) = false := by simpa using h3
      have e := hide (show F = 42 by rw [hF]; unfold fnOf; rw [if_neg n2, if_neg (by simpa using h3)])
      clear hF n2 h3
      go_enter Try.func32, Try.ntmps32
      go_wp2_with fail
      exact bodyPost_ret (v := fv 42 w.heap.size) (by simp [results, Try.results32, go_sem]) rfl ⟨by rw [e.out], rfl⟩
theorem clo39_any (r : Rc) (b : Nat) (n : Int) (w : World) (hb : RBox w b 38 (recA r)) (hr : r.Fit) (hn : I64 n) : Calls Try.prog 39 #[.int .i64 n, ptr b] w fun e w' => e = .returned (.tuple #[.int .i64 (fitV (n + r.c.val)), .int .i64 (fitE (n + r.c.val))]) ∧ Below w.heap.size w w' := by
  obtain ⟨g0, -⟩ := hb.cells.get 13 _ rfl
  have K := add_any n r.c.val w hn hr.v
  clear hb hr hn
  go_enter Try.func39, Try.ntmps39
  go_wp2_with fail
  refine K.mono ?_
  rintro e w1 ⟨rfl, h1⟩
  have H1 := hide h1
  clear h1
  go_wp2_with fail
  exact bodyPost_ret (v := .tuple #[.int .i64 (fitV (n + r.c.val)), .int .i64 (fitE (n + r.c.val))]) (by simp [results, Try.results39, go_sem]) rfl ⟨rfl, H1.out⟩
theorem clo41_any (r : Rc) (b : Nat) (n : Int) (w : World) (hb : RBox w b 38 (recA r)) (hr : r.Fit) (hn : I64 n) : Calls Try.prog 41 #[.int .i64 n, ptr b] w fun e w' => e = .returned (.tuple #[.int .i64 (fitV (n + r.delta)), .int .i64 (fitE (n + r.delta))]) ∧ Below w.heap.size w w' := by
  obtain ⟨g0, -⟩ := hb.cells.get 8 _ rfl
  have K := add_any n r.delta w hn hr.d
  clear hb hr hn
  go_enter Try.func41, Try.ntmps41
  go_wp2_with fail
  refine K.mono ?_
  rintro e w1 ⟨rfl, h1⟩
  have H1 := hide h1
  clear h1
  go_wp2_with fail
  exact bodyPost_ret (v := .tuple #[.int .i64 (fitV (n + r.delta)), .int .i64 (fitE (n + r.delta))]) (by simp [results, Try.results41, go_sem]) rfl ⟨rfl, H1.out⟩
theorem clo42_any (r : Rc) (b : Nat) (n : Int) (w : World) (hb : RBox w b 38 (recA r)) (hr : r.Fit) (hn : I64 n) : Calls Try.prog 42 #[.int .i64 n, ptr b] w fun e w' => e = .returned (.tuple #[.int .i64 (fitV (n - r.delta)), .int .i64 (fitE (n - r.delta))]) ∧ Below w.heap.size w w' := by
  obtain ⟨g0, -⟩ := hb.cells.get 8 _ rfl
  have K := sub_any n r.delta w hn hr.d
  clear hb hr hn
  go_enter Try.func42, Try.ntmps42
  go_wp2_with fail
  refine K.mono ?_
  rintro e w1 ⟨rfl, h1⟩
  have H1 := hide h1
  clear h1
  go_wp2_with fail
  exact bodyPost_ret (v := .tuple #[.int .i64 (fitV (n - r.delta)), .int .i64 (fitE (n - r.delta))]) (by simp [results, Try.results42, go_sem]) rfl ⟨rfl, H1.out⟩
set_option maxHeartbeats 4000000 in
theorem turn39_any (r : Rc) (b g o : Nat) (n : Int) (w : World) (hb : RBox w b 38 (recA r)) (hr : r.Fit) (hn : I64 n) (hg : w.cell? ⟨g, o, none⟩ = some (.int .i64 n)) (hz : w.frozen? ⟨g, o, none⟩ = false) (hlt : g < w.heap.size) :
    Calls Try.prog 38 #[.pointer (some ⟨g, o, none⟩), fv 39 b] w fun e w' => e = .returned (.int .i64 (fitE (n + r.c.val))) ∧ (I64 (n + r.c.val) → ∃ wm, Below w.heap.size w wm ∧ w' = wm.setCell ⟨g, o, none⟩ (.int .i64 (n + r.c.val))) ∧ (¬ I64 (n + r.c.val) → Below w.heap.size w w') := by
  have K := clo39_any r b n w hb hr hn
  obtain ⟨M, hM⟩ : ∃ M, M = n + r.c.val := ⟨_, rfl⟩
  rw [← hM] at K ⊢
  have HB := hide hb
  clear hb hr hn hM
  by_cases hm : I64 M
  · have e1 : fitE M = 0 := fitE_zero.2 hm
    have e2 : fitV M = M := by unfold fitV; rw [if_pos (fitB_true.2 hm)]
    rw [e1]
    rw [e1, e2] at K
    clear e1 e2
    go_enter Try.func38, Try.ntmps38
    go_wp2_with fail
    refine K.mono ?_
    rintro e w1 ⟨rfl, h1⟩
    have g1 : w1.cell? ⟨g, o, none⟩ = some (.int .i64 n) := (h1.cell (p := ⟨g, o, none⟩) hlt).trans hg
    have z1 : w1.frozen? ⟨g, o, none⟩ = false := (h1.frozen (p := ⟨g, o, none⟩) hlt).trans hz
    have H1 := hide h1
    have HM := hide hm
    clear h1 hg hz hm
    go_wp2_with fail
    exact bodyPost_ret (v := .int .i64 0) (by simp [results, Try.results38, go_sem]) rfl ⟨rfl, fun _ => ⟨w1, H1.out, rfl⟩, fun q => absurd HM.out q⟩
  · have e1 : fitE M = 10 := by unfold fitE; rw [if_neg (by rw [fitB_true]; exact hm)]
    rw [e1]
    rw [e1] at K
    clear e1
    have HM := hide hm
    clear hm
    go_enter Try.func38, Try.ntmps38
    go_wp2_with fail
    refine K.mono ?_
    rintro e w1 ⟨rfl, h1⟩
    have H1 := hide h1
    clear h1
    go_wp2_with fail
    exact bodyPost_ret (v := .int .i64 10) (by simp [results, Try.results38, go_sem]) rfl ⟨rfl, fun q => absurd q HM.out, fun _ => H1.out⟩
set_option maxHeartbeats 4000000 in
theorem turn41_any (r : Rc) (b g o : Nat) (n : Int) (w : World) (hb : RBox w b 38 (recA r)) (hr : r.Fit) (hn : I64 n) (hg : w.cell? ⟨g, o, none⟩ = some (.int .i64 n)) (hz : w.frozen? ⟨g, o, none⟩ = false) (hlt : g < w.heap.size) :
    Calls Try.prog 38 #[.pointer (some ⟨g, o, none⟩), fv 41 b] w fun e w' => e = .returned (.int .i64 (fitE (n + r.delta))) ∧ (I64 (n + r.delta) → ∃ wm, Below w.heap.size w wm ∧ w' = wm.setCell ⟨g, o, none⟩ (.int .i64 (n + r.delta))) ∧ (¬ I64 (n + r.delta) → Below w.heap.size w w') := by
  have K := clo41_any r b n w hb hr hn
  obtain ⟨M, hM⟩ : ∃ M, M = n + r.delta := ⟨_, rfl⟩
  rw [← hM] at K ⊢
  have HB := hide hb
  clear hb hr hn hM
  by_cases hm : I64 M
  · have e1 : fitE M = 0 := fitE_zero.2 hm
    have e2 : fitV M = M := by unfold fitV; rw [if_pos (fitB_true.2 hm)]
    rw [e1]
    rw [e1, e2] at K
    clear e1 e2
    go_enter Try.func38, Try.ntmps38
    go_wp2_with fail
    refine K.mono ?_
    rintro e w1 ⟨rfl, h1⟩
    have g1 : w1.cell? ⟨g, o, none⟩ = some (.int .i64 n) := (h1.cell (p := ⟨g, o, none⟩) hlt).trans hg
    have z1 : w1.frozen? ⟨g, o, none⟩ = false := (h1.frozen (p := ⟨g, o, none⟩) hlt).trans hz
    have H1 := hide h1
    have HM := hide hm
    clear h1 hg hz hm
    go_wp2_with fail
    exact bodyPost_ret (v := .int .i64 0) (by simp [results, Try.results38, go_sem]) rfl ⟨rfl, fun _ => ⟨w1, H1.out, rfl⟩, fun q => absurd HM.out q⟩
  · have e1 : fitE M = 10 := by unfold fitE; rw [if_neg (by rw [fitB_true]; exact hm)]
    rw [e1]
    rw [e1] at K
    clear e1
    have HM := hide hm
    clear hm
    go_enter Try.func38, Try.ntmps38
    go_wp2_with fail
    refine K.mono ?_
    rintro e w1 ⟨rfl, h1⟩
    have H1 := hide h1
    clear h1
    go_wp2_with fail
    exact bodyPost_ret (v := .int .i64 10) (by simp [results, Try.results38, go_sem]) rfl ⟨rfl, fun q => absurd q HM.out, fun _ => H1.out⟩
set_option maxHeartbeats 4000000 in
theorem turn42_any (r : Rc) (b g o : Nat) (n : Int) (w : World) (hb : RBox w b 38 (recA r)) (hr : r.Fit) (hn : I64 n) (hg : w.cell? ⟨g, o, none⟩ = some (.int .i64 n)) (hz : w.frozen? ⟨g, o, none⟩ = false) (hlt : g < w.heap.size) :
    Calls Try.prog 38 #[.pointer (some ⟨g, o, none⟩), fv 42 b] w fun e w' => e = .returned (.int .i64 (fitE (n - r.delta))) ∧ (I64 (n - r.delta) → ∃ wm, Below w.heap.size w wm ∧ w' = wm.setCell ⟨g, o, none⟩ (.int .i64 (n - r.delta))) ∧ (¬ I64 (n - r.delta) → Below w.heap.size w w') := by
  have K := clo42_any r b n w hb hr hn
  obtain ⟨M, hM⟩ : ∃ M, M = n - r.delta := ⟨_, rfl⟩
  rw [← hM] at K ⊢
  have HB := hide hb
  clear hb hr hn hM
  by_cases hm : I64 M
  · have e1 : fitE M = 0 := fitE_zero.2 hm
    have e2 : fitV M = M := by unfold fitV; rw [if_pos (fitB_true.2 hm)]
    rw [e1]
    rw [e1, e2] at K
    clear e1 e2
    go_enter Try.func38, Try.ntmps38
    go_wp2_with fail
    refine K.mono ?_
    rintro e w1 ⟨rfl, h1⟩
    have g1 : w1.cell? ⟨g, o, none⟩ = some (.int .i64 n) := (h1.cell (p := ⟨g, o, none⟩) hlt).trans hg
    have z1 : w1.frozen? ⟨g, o, none⟩ = false := (h1.frozen (p := ⟨g, o, none⟩) hlt).trans hz
    have H1 := hide h1
    have HM := hide hm
    clear h1 hg hz hm
    go_wp2_with fail
    exact bodyPost_ret (v := .int .i64 0) (by simp [results, Try.results38, go_sem]) rfl ⟨rfl, fun _ => ⟨w1, H1.out, rfl⟩, fun q => absurd HM.out q⟩
  · have e1 : fitE M = 10 := by unfold fitE; rw [if_neg (by rw [fitB_true]; exact hm)]
    rw [e1]
    rw [e1] at K
    clear e1
    have HM := hide hm
    clear hm
    go_enter Try.func38, Try.ntmps38
    go_wp2_with fail
    refine K.mono ?_
    rintro e w1 ⟨rfl, h1⟩
    have H1 := hide h1
    clear h1
    go_wp2_with fail
    exact bodyPost_ret (v := .int .i64 10) (by simp [results, Try.results38, go_sem]) rfl ⟨rfl, fun q => absurd q HM.out, fun _ => H1.out⟩
theorem turn_any (r : Rc) (b g o : Nat) (n : Int) (w : World) (hb : RBox w b 38 (recA r)) (hr : r.Fit) (hn : I64 n) (hg : w.cell? ⟨g, o, none⟩ = some (.int .i64 n)) (hz : w.frozen? ⟨g, o, none⟩ = false) (hlt : g < w.heap.size) :
    Calls Try.prog 38 #[.pointer (some ⟨g, o, none⟩), fv (fnOf r.k) b] w fun e w' => e = .returned (.int .i64 (fitE (mv r n))) ∧ (I64 (mv r n) → ∃ wm, Below w.heap.size w wm ∧ w' = wm.setCell ⟨g, o, none⟩ (.int .i64 (mv r n))) ∧ (¬ I64 (mv r n) → Below w.heap.size w w') := by
  unfold fnOf mv
  by_cases h2 : r.k = 2
  · rw [if_pos h2, if_pos h2]
    exact turn39_any r b g o n w hb hr hn hg hz hlt
  · rw [if_neg h2, if_neg h2]
    by_cases h3 : r.k = 3
    · rw [if_pos h3, if_pos h3]
      exact turn41_any r b g o n w hb hr hn hg hz hlt
    · rw [if_neg h3, if_neg h3]
      exact turn42_any r b g o n w hb hr hn hg hz hlt
end Go.Proofs.Ytoocbpbaieedmaa
