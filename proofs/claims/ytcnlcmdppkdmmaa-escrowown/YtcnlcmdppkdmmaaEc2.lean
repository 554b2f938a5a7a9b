import Derived.Test.YtcnlcmdppkdmmaaEc1
namespace Go.Proofs.Ytcnlcmdppkdmmaa
open Go.RowKit Go.QK Quota Go.Maps

def newE (lo hi v : Int) : Int := if hi < lo then 11 else if lo ≤ v ∧ v ≤ hi then 0 else 110
theorem new_ok {lo hi v : Int} (h : newE lo hi v = 0) (h1 : I64 lo) (h2 : I64 hi) : (Esc.mk lo hi v []).Ok := by
  unfold newE at h
  split at h
  · cases h
  · split at h
    · rename_i h3
      exact ⟨h1, h2, by simp [Esc.low, sumF]; omega, by simp [Esc.high, sumF]; omega, List.Pairwise.nil, nofun, nofun⟩
    · cases h

set_option maxHeartbeats 1000000 in
theorem new_no (lo hi v : Int) (w : World) (h : newE lo hi v ≠ 0) :
    Calls Try.prog 31 #[rng lo hi, .int .i64 v] w fun r w' => r = .returned (.tuple #[.pointer none, .int .i64 (newE lo hi v)]) ∧ Below w.heap.size w w' := by
  by_cases h1 : hi < lo
  · have e1 : newE lo hi v = 11 := by unfold newE; rw [if_pos h1]
    have e2 : chkE lo hi = 11 := by unfold chkE; rw [if_pos h1]
    rw [e1]
    clear h e1 h1
    go_enter Try.func31, Try.ntmps31
    go_wp2_with fail
    refine (check_any lo hi _).mono ?_
    rintro r w1 ⟨rfl, hb⟩
    have HB := hide (below1 hb)
    rw [e2]
    clear hb e2
    go_wp2_with fail
    go_ret2
    exact ⟨rfl, HB.out⟩
  · have e1 : newE lo hi v = 110 := by
      unfold newE at h ⊢
      rw [if_neg h1] at h ⊢
      split at h
      · exact absurd rfl h
      · rename_i h2
        rw [if_neg h2]
    have e2 : chkE lo hi = 0 := by unfold chkE; rw [if_neg h1]
    have e3 : hasB lo hi v = false := by
      unfold newE at h
      rw [if_neg h1] at h
      unfold hasB
      by_cases q : lo ≤ v <;> by_cases q2 : v ≤ hi <;> simp [q, q2] at h ⊢
    rw [e1]
    clear h e1 h1
    go_enter Try.func31, Try.ntmps31
    go_wp2_with fail
    refine (check_any lo hi _).mono ?_
    rintro r w1 ⟨rfl, hb⟩
    have HB := hide (below1 hb)
    obtain ⟨c0, c1, _, _, hz⟩ := keep1 hb
    rw [e2]
    clear hb e2
    go_wp2_with fail
    refine (has_any lo hi v _).mono ?_
    rintro r w2 ⟨rfl, hb⟩
    have HB := hide (HB.out.trans (hb.mono HB.out.size))
    rw [e3]
    clear hb e3 c0 c1
    go_wp2_with fail
    go_ret2
    exact ⟨rfl, HB.out⟩

set_option maxHeartbeats 1000000 in
theorem new_yes (lo hi v : Int) (w : World) (h : newE lo hi v = 0) (i1 : I64 lo) (i2 : I64 hi) :
    Calls Try.prog 31 #[rng lo hi, .int .i64 v] w fun r w' => ∃ b m, r = .returned (.tuple #[ptr b, .int .i64 0]) ∧ Below w.heap.size w w' ∧ PE w' b m ⟨lo, hi, v, []⟩ ∧ w.heap.size ≤ b ∧ w.heap.size ≤ m := by
  have ok := hide (new_ok h i1 i2)
  have h1 : ¬ hi < lo := by intro q; simp [newE, q] at h
  have h2 : lo ≤ v ∧ v ≤ hi := by
    unfold newE at h
    rw [if_neg h1] at h
    split at h
    · assumption
    · cases h
  have e2 : chkE lo hi = 0 := by unfold chkE; rw [if_neg h1]
  have e3 : hasB lo hi v = true := by simp [hasB, h2.1, h2.2]
  have hmm := @run_makeMap Try.prog
  clear h h1 h2 i1 i2
  go_enter Try.func31, Try.ntmps31
  go_wp2_with fail
  refine (check_any lo hi _).mono ?_
  rintro r w1 ⟨rfl, hb⟩
  have HB := hide (below1 hb)
  obtain ⟨c0, c1, _, _, hz⟩ := keep1 hb
  rw [e2]
  clear e2
  go_wp2_with fail
  refine (has_any lo hi v _).mono ?_
  rintro r w2 ⟨rfl, hb2⟩
  have HB2 := hide (HB.out.trans (hb2.mono HB.out.size))
  obtain ⟨c0, c1, _, _, hz⟩ := keep1 (hb.trans (hb2.mono hb.size))
  rw [e3]
  clear e3 hb hb2 HB
  go_wp2_with fail
  go_ret2
  have s := HB2.out.size
  refine ⟨w2.heap.size + 1, w2.heap.size, by simp, ?_, ⟨?_, ?_, ok.out⟩, by omega, s⟩
  · exact (HB2.out.alloc s _).alloc (by simp; omega) _
  · have := Cells.new (w2.alloc (.map #[] 0)) #[.int .i64 lo, .int .i64 hi, .int .i64 v, .int .i64 v, .int .i64 v, .map (some w2.heap.size)] 79
    simpa [escC, Esc.low, Esc.high, sumF] using this
  · exact (World.ownsMap_made w2 _ _ _).alloc _

end Go.Proofs.Ytcnlcmdppkdmmaa
