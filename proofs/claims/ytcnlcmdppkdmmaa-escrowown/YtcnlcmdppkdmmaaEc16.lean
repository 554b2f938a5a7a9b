import Derived.Test.YtcnlcmdppkdmmaaEc15
namespace Go.Proofs.Ytcnlcmdppkdmmaa
open Go.RowKit Go.QK Quota Go.Maps
set_option maxRecDepth 100000

/-! Every outcome lies between low and high, which are outcomes. -/
theorem pS_between (L : Nets) (s : Nat) : lowS L ≤ pS L s ∧ pS L s ≤ highS L := by
  induction L generalizing s with
  | nil => simp [pS, sumF]
  | cons p r ih =>
    have := ih (s / 2)
    simp only [lowS, highS, pS, sumF, neg0, pos0] at *
    split <;> omega
def maskOf (f : Int → Bool) : Nets → Nat
  | [] => 0
  | p :: r => (if f p.2 then 1 else 0) + 2 * maskOf f r
theorem maskOf_lt (f : Int → Bool) (L : Nets) : maskOf f L < 2 ^ L.length := by
  induction L with
  | nil => simp [maskOf]
  | cons p r ih =>
    simp only [maskOf, List.length_cons, Nat.pow_succ]
    split <;> omega
theorem pS_mask (f : Int → Bool) (L : Nets) : pS L (maskOf f L) = sumF (fun z => if f z then z else 0) L := by
  induction L with
  | nil => rfl
  | cons p r ih =>
    simp only [maskOf, pS, sumF]
    by_cases h : f p.2 = true
    · simp only [h, if_true]
      rw [if_pos (by omega), show (1 + 2 * maskOf f r) / 2 = maskOf f r by omega, ih]
    · simp only [h]
      rw [if_neg (by simp), show (((if false = true then 1 else 0) + 2 * maskOf f r) / 2) = maskOf f r by simp, ih]
      simp
theorem sumF_congr {f g : Int → Int} (L : Nets) (h : ∀ z, f z = g z) : sumF f L = sumF g L := by
  induction L with
  | nil => rfl
  | cons p r ih => simp only [sumF, ih, h]
theorem pS_low (L : Nets) : pS L (maskOf (fun z => decide (z < 0)) L) = lowS L := by
  rw [pS_mask]
  apply sumF_congr
  intro z
  unfold neg0
  by_cases h : z < 0 <;> simp [h] <;> omega
theorem pS_high (L : Nets) : pS L (maskOf (fun z => decide (0 < z)) L) = highS L := by
  rw [pS_mask]
  apply sumF_congr
  intro z
  unfold pos0
  by_cases h : 0 < z <;> simp [h] <;> omega
theorem mask_all (L : Nets) : maskOf (fun _ => true) L = 2 ^ L.length - 1 := by
  induction L with
  | nil => rfl
  | cons p r ih =>
    have := Nat.two_pow_pos r.length
    simp only [maskOf, if_true, List.length_cons, Nat.pow_succ]
    omega
theorem pS_all (L : Nets) : pS L (2 ^ L.length - 1) = allS L := by
  rw [← mask_all, pS_mask]
  apply sumF_congr
  intro z
  simp

def lowF (e : Esc) (k : Nat) : Bool := (List.range k).any (fun j => !decide (e.low < e.base + pS e.nets j))
def highF (e : Esc) (k : Nat) : Bool := (List.range k).any (fun j => !decide (e.base + pS e.nets j < e.high))
theorem lowF_succ (e : Esc) (k : Nat) : lowF e (k + 1) = (lowF e k || !decide (e.low < e.base + pS e.nets k)) := by
  unfold lowF
  rw [List.range_succ, List.any_append]
  simp only [List.any_cons, List.any_nil, Bool.or_false]
theorem highF_succ (e : Esc) (k : Nat) : highF e (k + 1) = (highF e k || !decide (e.base + pS e.nets k < e.high)) := by
  unfold highF
  rw [List.range_succ, List.any_append]
  simp only [List.any_cons, List.any_nil, Bool.or_false]
theorem lowF_end (e : Esc) : lowF e (2 ^ e.nets.length) = true := by
  unfold lowF
  rw [List.any_eq_true]
  refine ⟨maskOf (fun z => decide (z < 0)) e.nets, List.mem_range.2 (maskOf_lt _ _), ?_⟩
  rw [pS_low]
  simp [Esc.low]
theorem highF_end (e : Esc) : highF e (2 ^ e.nets.length) = true := by
  unfold highF
  rw [List.any_eq_true]
  refine ⟨maskOf (fun z => decide (0 < z)) e.nets, List.mem_range.2 (maskOf_lt _ _), ?_⟩
  rw [pS_high]
  simp [Esc.high]

/-- How the law stands: the escrow, its nets, its worst cases and bounds. -/
structure OSt (w wr : World) (b m I J : Nat) (e : Esc) (a : Option Addr) : Prop where
  pe : PE wr b m e
  row : Lies wr a (rowsC netC e.nets)
  bi : Box wr I (.int .i64 e.low) (.int .i64 e.high)
  bj : Box wr J (.int .i64 e.lo) (.int .i64 e.hi)
  bel : Below w.heap.size w wr
theorem OSt.below {w wr wr' : World} {b m I J : Nat} {e : Esc} {a : Option Addr} (h : OSt w wr b m I J e a) (hb : Below wr.heap.size wr wr') : OSt w wr' b m I J e a :=
  ⟨h.pe.below hb, h.row.below hb, h.bi.below hb, h.bj.below hb, h.bel.trans (hb.mono h.bel.size)⟩
end Go.Proofs.Ytcnlcmdppkdmmaa
