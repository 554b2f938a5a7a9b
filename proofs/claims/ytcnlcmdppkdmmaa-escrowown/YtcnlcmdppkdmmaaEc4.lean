import Derived.Test.YtcnlcmdppkdmmaaEc3
namespace Go.Proofs.Ytcnlcmdppkdmmaa
open Go.RowKit Go.QK Quota Go.Maps

/-! What May answers: P10.3. -/
def mLow (e : Esc) (tx d : Int) : Int := e.low - neg0 (netV e.nets tx) + neg0 (netV e.nets tx + d)
def mHigh (e : Esc) (tx d : Int) : Int := e.high - pos0 (netV e.nets tx) + pos0 (netV e.nets tx + d)
def mayE (e : Esc) (tx d : Int) : Int :=
  if tx < 1 ∨ 2147483647 < tx then 130
  else if mLow e tx d < e.lo ∨ e.hi < mHigh e tx d then 110
  else if fitB (netV e.nets tx + d) then 0 else 10
def addN (e : Esc) (tx d : Int) : Esc := if mayE e tx d = 0 then { e with nets := putN tx (netV e.nets tx + d) e.nets } else e
def wN (e : Esc) (tx d : Int) : Int := if mayE e tx d = 0 then netV e.nets tx + d else 0
def wL (e : Esc) (tx d : Int) : Int := if mayE e tx d = 0 then mLow e tx d else 0
def wH (e : Esc) (tx d : Int) : Int := if mayE e tx d = 0 then mHigh e tx d else 0

theorem Esc.Ok.net {e : Esc} (h : e.Ok) (tx : Int) : I64 (netV e.nets tx) := by
  by_cases q : holdB e.nets tx = true
  · exact h.all _ (netV_mem q)
  · rw [netV_none (holdB_false (by simpa using q))]
    unfold I64; omega
/-- The worst cases of the others. -/
theorem Esc.Ok.others {e : Esc} (h : e.Ok) (tx : Int) : I64 (e.low - neg0 (netV e.nets tx)) ∧ I64 (e.high - pos0 (netV e.nets tx)) ∧ e.low - neg0 (netV e.nets tx) ≤ e.high - pos0 (netV e.nets tx) := by
  have h1 := sumF_del neg0 (by simp [neg0]) tx h.rise
  have h2 := sumF_del pos0 (by simp [pos0]) tx h.rise
  have k := low_nonpos (delN e.nets tx)
  have k1 := low_nonpos e.nets
  have a := h.i1
  have b := h.i2
  have c := h.b1
  have d := h.b2
  unfold I64 at *
  unfold Esc.low Esc.high at *
  simp only [lowS, highS] at *
  unfold neg0 pos0 at *
  omega
theorem Esc.Ok.rng {e : Esc} (h : e.Ok) : I64 e.low ∧ I64 e.high ∧ e.low ≤ e.high ∧ I64 e.base := by
  have k1 := low_nonpos e.nets
  have a := h.i1
  have b := h.i2
  have c := h.b1
  have d := h.b2
  unfold I64 at *
  unfold Esc.low Esc.high at *
  omega

/-- The parts of a net that fits, of one that does not. -/
theorem parts_one (n : Int) : lows [n] = neg0 n ∧ highs [n] = pos0 n := by
  simp only [lows, highs, neg0, pos0]
  split <;> omega
theorem parts_two {h d : Int} (hh : I64 h) (hd : I64 d) (hn : ¬ I64 (h + d)) : lows [h, d] = neg0 (h + d) ∧ highs [h, d] = pos0 (h + d) := by
  unfold I64 at *
  simp only [lows, highs, neg0, pos0]
  split <;> split <;> omega

/-- What weigh comes to, by its parts. -/
def prt (h d : Int) : List Int := if fitB (h + d) then [h + d] else [h, d]
theorem prt_sum {h d : Int} (hh : I64 h) (hd : I64 d) : lows (prt h d) = neg0 (h + d) ∧ highs (prt h d) = pos0 (h + d) := by
  unfold prt
  by_cases q : fitB (h + d) = true
  · rw [if_pos q]; exact parts_one _
  · rw [if_neg q]; exact parts_two hh hd (fitB_false.1 (by simpa using q))
theorem prt_all {h d : Int} (hh : I64 h) (hd : I64 d) : All (prt h d) ∧ (prt h d).length ≤ 2 := by
  unfold prt
  split
  · rename_i q
    exact ⟨fun x hx => by simp at hx; subst hx; exact fitB_true.1 q, by simp⟩
  · exact ⟨fun x hx => by simp at hx; rcases hx with rfl | rfl <;> assumption, by simp⟩

/-- Beyond 64 bits, or beyond the bounds: then the bounds are left. -/
theorem mayE_bounds {e : Esc} (ok : e.Ok) {tx d : Int} (hd : I64 d) {r : Bool}
    (hr : r = (!(rchB (e.low - neg0 (netV e.nets tx)) (e.high - pos0 (netV e.nets tx)) (prt (netV e.nets tx) d)) || !(inB (rchL (e.low - neg0 (netV e.nets tx)) (e.high - pos0 (netV e.nets tx)) (prt (netV e.nets tx) d)) (rchH (e.low - neg0 (netV e.nets tx)) (e.high - pos0 (netV e.nets tx)) (prt (netV e.nets tx) d)) e.lo e.hi))) :
    r = decide (mLow e tx d < e.lo ∨ e.hi < mHigh e tx d) := by
  have hn := ok.net tx
  obtain ⟨s1, s2⟩ := prt_sum hn hd
  obtain ⟨o1, o2, o3⟩ := ok.others tx
  have i1 := ok.i1
  have i2 := ok.i2
  subst hr
  generalize hA : e.low - neg0 (netV e.nets tx) = A at *
  generalize hB : e.high - pos0 (netV e.nets tx) = B at *
  have m1 : mLow e tx d = A + neg0 (netV e.nets tx + d) := by unfold mLow; omega
  have m2 : mHigh e tx d = B + pos0 (netV e.nets tx + d) := by unfold mHigh; omega
  rw [m1, m2]
  unfold rchB rchL rchH rchB okW
  rw [s1, s2]
  generalize hN : netV e.nets tx + d = n at *
  have p1 : neg0 n ≤ 0 ∧ 0 ≤ pos0 n ∧ (neg0 n = 0 ∨ pos0 n = 0) := by unfold neg0 pos0; omega
  unfold I64 at *
  unfold fitB inB hasB
  generalize neg0 n = x at *
  generalize pos0 n = y at *
  by_cases q1 : -9223372036854775808 ≤ A + x ∧ A + x ≤ 9223372036854775807 <;> by_cases q2 : -9223372036854775808 ≤ A + y ∧ A + y ≤ 9223372036854775807 <;> by_cases q3 : -9223372036854775808 ≤ B + x ∧ B + x ≤ 9223372036854775807 <;> by_cases q4 : -9223372036854775808 ≤ B + y ∧ B + y ≤ 9223372036854775807 <;>
    by_cases g1 : A + x < e.lo <;> by_cases g2 : e.hi < B + y <;> simp [q1, q2, q3, q4, g1, g2] <;> omega
end Go.Proofs.Ytcnlcmdppkdmmaa
