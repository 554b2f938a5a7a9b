import Derived.Test.YtcnlcmdppkdmmaaEc17
namespace Go.Proofs.Ytcnlcmdppkdmmaa
open Go.RowKit Go.QK Quota Go.Maps
set_option maxRecDepth 100000

theorem holdB_append (L M : Nets) (t : Int) : holdB (L ++ M) t = (holdB L t || holdB M t) := by unfold holdB; rw [List.any_append]
theorem netV_append (L M : Nets) (t : Int) : netV (L ++ M) t = if holdB L t then netV L t else netV M t := by
  induction L with
  | nil => simp [holdB]
  | cons p r ih =>
    rw [List.cons_append, netV_cons, netV_cons, holdB_cons, ih]
    by_cases h : p.1 = t <;> simp [h]
theorem delN_append (L M : Nets) (t : Int) : delN (L ++ M) t = delN L t ++ delN M t := by unfold delN; rw [List.filter_append]
theorem Rise.take {L : Nets} (h : Rise L) (k : Nat) : Rise (L.take k) := List.Pairwise.sublist (List.take_sublist k L) h
theorem front_not {L : Nets} (h : Rise L) {k : Nat} (hk : k < L.length) : holdB (L.take k) L[k].1 = false := by
  unfold holdB
  rw [List.any_eq_false]
  intro p hp
  obtain ⟨i, hi, rfl⟩ := List.getElem_of_mem hp
  rw [List.getElem_take]
  have hi' : i < k := by simp at hi; omega
  have := List.pairwise_iff_getElem.1 h i k (by omega) hk hi'
  simp
  omega
theorem netV_hit {L : Nets} (h : Rise L) {k : Nat} (hk : k < L.length) {t : Int} (ht : L[k].1 = t) : netV (L.take (k + 1)) t = L[k].2 ∧ delN (L.take (k + 1)) t = delN (L.take k) t := by
  have h1 := front_not h hk
  rw [ht] at h1
  rw [List.take_succ_eq_append_getElem hk, netV_append, h1, delN_append]
  refine ⟨?_, ?_⟩
  · rw [netV_cons, if_pos ht]; rfl
  · unfold delN
    simp [ht]
theorem netV_miss {L : Nets} {k : Nat} (hk : k < L.length) {t : Int} (ht : ¬ L[k].1 = t) : netV (L.take (k + 1)) t = netV (L.take k) t ∧ delN (L.take (k + 1)) t = delN (L.take k) t ++ [L[k]] := by
  rw [List.take_succ_eq_append_getElem hk, netV_append, delN_append]
  refine ⟨?_, ?_⟩
  · split
    · rfl
    · rename_i q
      rw [netV_cons, if_neg ht, netV_none (L := L.take k) (holdB_false (by simpa using q))]
      rfl
  · unfold delN
    simp [ht]

/-- The bounds are left, somewhere among the first k sets. -/
def outF (e : Esc) (t d : Int) (k : Nat) : Bool := (List.range k).any (fun j => decide (e.base + pS (delN e.nets t) j + netV e.nets t + d < e.lo) || decide (e.hi < e.base + pS (delN e.nets t) j + netV e.nets t + d))
theorem outF_succ (e : Esc) (t d : Int) (k : Nat) : outF e t d (k + 1) = (outF e t d k || (decide (e.base + pS (delN e.nets t) k + netV e.nets t + d < e.lo) || decide (e.hi < e.base + pS (delN e.nets t) k + netV e.nets t + d))) := by
  unfold outF
  rw [List.range_succ, List.any_append]
  simp only [List.any_cons, List.any_nil, Bool.or_false]
theorem outF_end {e : Esc} (ok : e.Ok) (t d : Int) : outF e t d (2 ^ (delN e.nets t).length) = decide (mLow e t d < e.lo ∨ e.hi < mHigh e t d) := by
  obtain ⟨a, b⟩ := delN_low ok t
  have b1 := ok.b1
  have b2 := ok.b2
  have k0 := low_nonpos (delN e.nets t)
  have m1 : mLow e t d = e.base + lowS (delN e.nets t) + neg0 (netV e.nets t + d) := by unfold mLow Esc.low; rw [a]; omega
  have m2 : mHigh e t d = e.base + highS (delN e.nets t) + pos0 (netV e.nets t + d) := by unfold mHigh Esc.high; rw [b]; omega
  have c1 : e.lo ≤ e.base + lowS (delN e.nets t) := by unfold Esc.low at b1; rw [a]; unfold neg0; omega
  have c2 : e.base + highS (delN e.nets t) ≤ e.hi := by unfold Esc.high at b2; rw [b]; unfold pos0; omega
  rw [Bool.eq_iff_iff, decide_eq_true_iff]
  constructor
  · intro h
    unfold outF at h
    obtain ⟨j, hj, q⟩ := List.any_eq_true.1 h
    have bt := pS_between (delN e.nets t) j
    simp at q
    rw [m1, m2]
    unfold neg0 pos0
    omega
  · intro h
    unfold outF
    rw [List.any_eq_true]
    rw [m1, m2] at h
    rcases h with h | h
    · refine ⟨maskOf (fun z => decide (z < 0)) (delN e.nets t), List.mem_range.2 (maskOf_lt _ _), ?_⟩
      rw [pS_low]
      have : e.base + lowS (delN e.nets t) + netV e.nets t + d < e.lo := by unfold neg0 at h; omega
      simp [this]
    · refine ⟨maskOf (fun z => decide (0 < z)) (delN e.nets t), List.mem_range.2 (maskOf_lt _ _), ?_⟩
      rw [pS_high]
      have : e.hi < e.base + highS (delN e.nets t) + netV e.nets t + d := by unfold pos0 at h; omega
      simp [this]
theorem others_in {e : Esc} (ok : e.Ok) (t : Int) (j : Nat) : e.lo ≤ e.base + pS (delN e.nets t) j ∧ e.base + pS (delN e.nets t) j ≤ e.hi := by
  obtain ⟨a, b⟩ := delN_low ok t
  have b1 := ok.b1
  have b2 := ok.b2
  have bt := pS_between (delN e.nets t) j
  unfold Esc.low at b1
  unfold Esc.high at b2
  unfold neg0 at a
  unfold pos0 at b
  omega
theorem mayE_in {e : Esc} {t d : Int} (h1 : 1 ≤ t) (h2 : t ≤ 8) : mayE e t d = if decide (mLow e t d < e.lo ∨ e.hi < mHigh e t d) then 110 else if fitB (netV e.nets t + d) then 0 else 10 := by
  unfold mayE
  rw [if_neg (by omega)]
  simp only [decide_eq_true_iff]
end Go.Proofs.Ytcnlcmdppkdmmaa
