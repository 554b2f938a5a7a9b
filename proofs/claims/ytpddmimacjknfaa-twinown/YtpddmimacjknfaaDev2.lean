import Derived.Test.YtpddmimacjknfaaDev1
namespace Go.Proofs.Ytpddmimacjknfaa
open Go.RowKit Go.QK

theorem quo64 (p : Nat) : (p : Int).tdiv 64 = ((p / 64 : Nat) : Int) := by rw [Int.tdiv_eq_ediv_of_nonneg (by omega)]; omega
theorem rem64 (p : Nat) : (p : Int).tmod 64 = ((p % 64 : Nat) : Int) := by rw [Int.tmod_eq_emod_of_nonneg (by omega)]; omega

theorem keptN_no {keep : List Nat} {k : Nat} (h : ¬ k / 64 < keep.length) : keptN keep k = false := by simp [keptN, h]
theorem keptN_yes {keep : List Nat} {k : Nat} (h : k / 64 < keep.length) : keptN keep k = decide (keep.getD (k / 64) 0 / 2 ^ (k % 64) % 2 = 1) := by simp [keptN, h]

theorem bit_eq (x r : Nat) (hx : x < 18446744073709551616) : (bits .and .u64 ((x : Int) / 2 ^ r) 1 == 1) = decide (x / 2 ^ r % 2 = 1) := by
  have e : (x : Int) / 2 ^ r = ((x / 2 ^ r : Nat) : Int) := by simp
  rw [e, and1_u64 _ (Nat.lt_of_le_of_lt (Nat.div_le_self _ _) hx)]
  by_cases q : x / 2 ^ r % 2 = 1
  · rw [q]; rfl
  · rw [decide_eq_false q, beq_eq_false_iff_ne]
    omega

set_option maxRecDepth 100000 in
theorem keeps_any (a : Option Addr) (keep : List Nat) (c k : Nat) (w : World) (hs : Seen .u64 w a (ints keep)) (hk : k ≤ 1000000) (hw : ∀ x ∈ keep, x < 18446744073709551616) :
    Calls Try.prog 88 #[.slice a keep.length c, .int .i64 (k : Int)] w fun e w' => e = .returned (.bool (keptN keep k)) ∧ w' = w := by
  have e1 := quo64 k
  have e2 := rem64 k
  have hq : k / 64 ≤ 1000000 := by omega
  have hq' : wrap64 ((k / 64 : Nat) : Int) = ((k / 64 : Nat) : Int) := by unfold wrap64; omega
  by_cases h : k / 64 < keep.length
  · rw [keptN_yes h]
    obtain ⟨b, off, rfl, hb, hc⟩ := Seen.at hs (i := k / 64) (by simpa using h)
    rw [ints_getD] at hc
    have hx : keep.getD (k / 64) 0 < 18446744073709551616 := by
      have := hw keep[k / 64] (List.getElem_mem h)
      simpa [h] using this
    have hr : k % 64 < 64 := Nat.mod_lt _ (by decide)
    have e3 := hide (bit_eq (keep.getD (k / 64) 0) (k % 64) hx)
    have h' : ((k / 64 : Nat) : Int) < (keep.length : Int) := by omega
    generalize keep.getD (k / 64) 0 = x at *
    generalize k / 64 = q at *
    generalize k % 64 = r at *
    clear hs hw
    generalize keep.length = n at *
    go_enter Try.func88, Try.ntmps88
    go_wp2_with fail
    go_ret
    exact ⟨by rw [← e3.out]; rfl, rfl⟩
  · rw [keptN_no h]
    have h' : ¬ (((k / 64 : Nat) : Int) < (keep.length : Int)) := by omega
    generalize k / 64 = q at *
    generalize keep.length = n at *
    go_enter Try.func88, Try.ntmps88
    go_wp2_with fail
    go_ret
    exact ⟨rfl, rfl⟩

/-- A loss as it is handed on. -/
def lossV (a : Option Addr) (n c : Nat) (to off : Int) : Value := .agg #[.slice a n c, .int .i64 to, .int .i64 off]

set_option maxRecDepth 100000 in
theorem kept_any (a : Option Addr) (keep : List Nat) (c k : Nat) (to off : Int) (w : World) (hs : Seen .u64 w a (ints keep)) (hk : k ≤ 1000000) (hw : ∀ x ∈ keep, x < 18446744073709551616) :
    Calls Try.prog 85 #[.agg #[.slice a keep.length c, .int .i64 to, .int .i64 off], .int .i64 (k : Int)] w fun e w' => e = .returned (.bool (keptN keep k)) ∧ Below w.heap.size w w' := by
  have e1 := quo64 k
  have e2 := rem64 k
  have hq : k / 64 ≤ 1000000 := by omega
  have hq' : wrap64 ((k / 64 : Nat) : Int) = ((k / 64 : Nat) : Int) := by unfold wrap64; omega
  by_cases h : k / 64 < keep.length
  · rw [keptN_yes h]
    obtain ⟨b, off', rfl, hb, hc⟩ := Seen.at (hs.below (alloc_below w (.cells #[.slice a keep.length c, .int .i64 to, .int .i64 off] 44))) (i := k / 64) (by simpa using h)
    rw [ints_getD] at hc
    have hx : keep.getD (k / 64) 0 < 18446744073709551616 := by
      have := hw keep[k / 64] (List.getElem_mem h)
      simpa [h] using this
    have hr : k % 64 < 64 := Nat.mod_lt _ (by decide)
    have e3 := hide (bit_eq (keep.getD (k / 64) 0) (k % 64) hx)
    have h' : ((k / 64 : Nat) : Int) < (keep.length : Int) := by omega
    generalize keep.getD (k / 64) 0 = x at *
    generalize k / 64 = q at *
    generalize k % 64 = r at *
    clear hs hw
    generalize keep.length = n at *
    go_enter Try.func85, Try.ntmps85
    go_wp2_with fail
    go_ret
    exact ⟨by rw [← e3.out]; rfl, alloc_below _ _⟩
  · rw [keptN_no h]
    have h' : ¬ (((k / 64 : Nat) : Int) < (keep.length : Int)) := by omega
    generalize k / 64 = q at *
    generalize keep.length = n at *
    go_enter Try.func85, Try.ntmps85
    go_wp2_with fail
    go_ret
    exact ⟨rfl, alloc_below _ _⟩

set_option maxRecDepth 100000 in
theorem leaves_any (l : Loss) (a : Option Addr) (c k : Nat) (w : World) (hs : Seen .u64 w a (ints l.keep)) (hk : k ≤ 1000000) (ok : l.Ok) :
    Calls Try.prog 84 #[.agg #[.slice a l.keep.length c, .int .i64 l.torn, .int .i64 l.off], .int .i64 (k : Int)] w fun e w' => e = .returned (.int .i64 ((leavesN l k : Nat) : Int)) ∧ Below w.heap.size w w' := by
  have K := hide (keeps_any a l.keep c k _ (hs.below (alloc_below w (.cells #[.slice a l.keep.length c, .int .i64 l.torn, .int .i64 l.off] 44))) hk ok.keep)
  obtain ⟨keep, to, off⟩ := l
  dsimp only at *
  unfold leavesN
  dsimp only
  cases hq : keptN keep k with
  | true =>
    rw [if_pos rfl]
    have HQ := hide hq
    clear hq
    go_enter Try.func84, Try.ntmps84
    go_wp2_with fail
    refine K.out.mono ?_
    rintro e w' ⟨rfl, rfl⟩
    rw [HQ.out]
    go_wp2_with fail
    go_ret
    exact ⟨rfl, alloc_below _ _⟩
  | false =>
    rw [if_neg (by decide)]
    have HQ := hide hq
    clear hq
    by_cases ht : (k : Int) = to
    · rw [if_pos ht]
      have ht' : ((k : Int) == to) = true := by simp [ht]
      have HT := hide ht
      clear ht
      go_enter Try.func84, Try.ntmps84
      go_wp2_with fail
      refine K.out.mono ?_
      rintro e w' ⟨rfl, rfl⟩
      rw [HQ.out]
      go_wp2_with fail
      all_goals
        go_ret
        refine ⟨?_, alloc_below _ _⟩
        show Ending.returned (Value.int IntKind.i64 _) = Ending.returned (Value.int IntKind.i64 _)
        congr 2
        first | omega | (rename_i q1 q2; revert q1; split <;> omega) | (rename_i q1; revert q1; split <;> omega)
    · rw [if_neg ht]
      have ht' : ((k : Int) == to) = false := by simpa using ht
      go_enter Try.func84, Try.ntmps84
      go_wp2_with fail
      refine K.out.mono ?_
      rintro e w' ⟨rfl, rfl⟩
      rw [HQ.out]
      go_wp2_with fail
      go_ret
      exact ⟨rfl, alloc_below _ _⟩
end Go.Proofs.Ytpddmimacjknfaa
