import Derived.Test.YtblngphjoafidaaGreatChk2
import Derived.Test.YtblngphjoafidaaGreatRChk
namespace Go.Proofs.YtblngphjoafidaaGreat
open Go.RowKit Go.QK
set_option maxRecDepth 100000
set_option linter.unusedSimpArgs false
theorem ok_1 (lsn tx prev wp wi sp si delta id grp lo hi val next : Int) (live : List LiveM) (dirty : List DirtyM) : (fromB 0 lsn 2147483647 && (noneB live dirty next && (fromB 1 tx 2147483647 && (prev == 0) && apartB (RecM.mk lsn 1 tx prev wp wi sp si delta id grp lo hi val live dirty next)))) = okB (RecM.mk lsn 1 tx prev wp wi sp si delta id grp lo hi val live dirty next) := by
  have hp : ∀ h, pointsB false live dirty next h = noneB live dirty next := fun h => rfl
  simp only [okB, oneB, slotsB, slotB, firstB, apartB, slots2B, show hTx 1 = true from rfl, show hPrev 1 = false from rfl, show hCtr 1 = false from rfl, show hFirst 1 = false from rfl, show hDelta 1 = false from rfl, show hPts 1 = false from rfl, cond_true, cond_false, hp]
  generalize noneB live dirty next = qN
  generalize pointsB true live dirty next lsn = qQ
  cases qN <;> cases qQ <;> rw [Bool.eq_iff_iff] <;> simp only [fromB, aheadB, Bool.and_eq_true, Bool.or_eq_true, decide_eq_true_eq, beq_iff_eq, Bool.false_eq_true, and_false, false_and] <;> first | omega | (simp; done) | (simp; omega)
theorem ok_2 (lsn tx prev wp wi sp si delta id grp lo hi val next : Int) (live : List LiveM) (dirty : List DirtyM) : (fromB 0 lsn 2147483647 && (noneB live dirty next && ((tx == 0) && (prev == 0) && (delta == 0) && slots2B (RecM.mk lsn 2 tx prev wp wi sp si delta id grp lo hi val live dirty next) && fromB 1 id 1048576 && fromB 1 grp 1048576 && (decide (lo ≤ val) && decide (val ≤ hi))))) = okB (RecM.mk lsn 2 tx prev wp wi sp si delta id grp lo hi val live dirty next) := by
  have hp : ∀ h, pointsB false live dirty next h = noneB live dirty next := fun h => rfl
  simp only [okB, oneB, slotsB, slotB, firstB, apartB, slots2B, show hTx 2 = false from rfl, show hPrev 2 = false from rfl, show hCtr 2 = true from rfl, show hFirst 2 = true from rfl, show hDelta 2 = false from rfl, show hPts 2 = false from rfl, cond_true, cond_false, hp]
  generalize noneB live dirty next = qN
  generalize pointsB true live dirty next lsn = qQ
  cases qN <;> cases qQ <;> rw [Bool.eq_iff_iff] <;> simp only [fromB, aheadB, Bool.and_eq_true, Bool.or_eq_true, decide_eq_true_eq, beq_iff_eq, Bool.false_eq_true, and_false, false_and] <;> first | omega | (simp; done) | (simp; omega)
theorem ok_3 (lsn tx prev wp wi sp si delta id grp lo hi val next : Int) (live : List LiveM) (dirty : List DirtyM) : (fromB 0 lsn 2147483647 && (noneB live dirty next && (fromB 1 tx 2147483647 && (fromB 1 prev 2147483647 && ((lsn == 0) || decide (prev < lsn))) && slots2B (RecM.mk lsn 3 tx prev wp wi sp si delta id grp lo hi val live dirty next) && fromB 1 id 1048576 && ((id == id) && (grp == 0) && (lo == 0) && (hi == 0) && (val == 0))))) = okB (RecM.mk lsn 3 tx prev wp wi sp si delta id grp lo hi val live dirty next) := by
  have hp : ∀ h, pointsB false live dirty next h = noneB live dirty next := fun h => rfl
  simp only [okB, oneB, slotsB, slotB, firstB, apartB, slots2B, show hTx 3 = true from rfl, show hPrev 3 = true from rfl, show hCtr 3 = true from rfl, show hFirst 3 = false from rfl, show hDelta 3 = true from rfl, show hPts 3 = false from rfl, cond_true, cond_false, hp]
  generalize noneB live dirty next = qN
  generalize pointsB true live dirty next lsn = qQ
  cases qN <;> cases qQ <;> rw [Bool.eq_iff_iff] <;> simp only [fromB, aheadB, Bool.and_eq_true, Bool.or_eq_true, decide_eq_true_eq, beq_iff_eq, Bool.false_eq_true, and_false, false_and] <;> first | omega | (simp; done) | (simp; omega)
theorem ok_4 (lsn tx prev wp wi sp si delta id grp lo hi val next : Int) (live : List LiveM) (dirty : List DirtyM) : (fromB 0 lsn 2147483647 && (noneB live dirty next && (fromB 1 tx 2147483647 && (fromB 1 prev 2147483647 && ((lsn == 0) || decide (prev < lsn))) && slots2B (RecM.mk lsn 4 tx prev wp wi sp si delta id grp lo hi val live dirty next) && fromB 1 id 1048576 && ((id == id) && (grp == 0) && (lo == 0) && (hi == 0) && (val == 0))))) = okB (RecM.mk lsn 4 tx prev wp wi sp si delta id grp lo hi val live dirty next) := by
  have hp : ∀ h, pointsB false live dirty next h = noneB live dirty next := fun h => rfl
  simp only [okB, oneB, slotsB, slotB, firstB, apartB, slots2B, show hTx 4 = true from rfl, show hPrev 4 = true from rfl, show hCtr 4 = true from rfl, show hFirst 4 = false from rfl, show hDelta 4 = true from rfl, show hPts 4 = false from rfl, cond_true, cond_false, hp]
  generalize noneB live dirty next = qN
  generalize pointsB true live dirty next lsn = qQ
  cases qN <;> cases qQ <;> rw [Bool.eq_iff_iff] <;> simp only [fromB, aheadB, Bool.and_eq_true, Bool.or_eq_true, decide_eq_true_eq, beq_iff_eq, Bool.false_eq_true, and_false, false_and] <;> first | omega | (simp; done) | (simp; omega)
theorem ok_5 (lsn tx prev wp wi sp si delta id grp lo hi val next : Int) (live : List LiveM) (dirty : List DirtyM) : (fromB 0 lsn 2147483647 && (noneB live dirty next && (fromB 1 tx 2147483647 && (fromB 1 prev 2147483647 && ((lsn == 0) || decide (prev < lsn))) && apartB (RecM.mk lsn 5 tx prev wp wi sp si delta id grp lo hi val live dirty next)))) = okB (RecM.mk lsn 5 tx prev wp wi sp si delta id grp lo hi val live dirty next) := by
  have hp : ∀ h, pointsB false live dirty next h = noneB live dirty next := fun h => rfl
  simp only [okB, oneB, slotsB, slotB, firstB, apartB, slots2B, show hTx 5 = true from rfl, show hPrev 5 = true from rfl, show hCtr 5 = false from rfl, show hFirst 5 = false from rfl, show hDelta 5 = false from rfl, show hPts 5 = false from rfl, cond_true, cond_false, hp]
  generalize noneB live dirty next = qN
  generalize pointsB true live dirty next lsn = qQ
  cases qN <;> cases qQ <;> rw [Bool.eq_iff_iff] <;> simp only [fromB, aheadB, Bool.and_eq_true, Bool.or_eq_true, decide_eq_true_eq, beq_iff_eq, Bool.false_eq_true, and_false, false_and] <;> first | omega | (simp; done) | (simp; omega)
theorem ok_6 (lsn tx prev wp wi sp si delta id grp lo hi val next : Int) (live : List LiveM) (dirty : List DirtyM) : (fromB 0 lsn 2147483647 && (noneB live dirty next && (fromB 1 tx 2147483647 && (fromB 1 prev 2147483647 && ((lsn == 0) || decide (prev < lsn))) && apartB (RecM.mk lsn 6 tx prev wp wi sp si delta id grp lo hi val live dirty next)))) = okB (RecM.mk lsn 6 tx prev wp wi sp si delta id grp lo hi val live dirty next) := by
  have hp : ∀ h, pointsB false live dirty next h = noneB live dirty next := fun h => rfl
  simp only [okB, oneB, slotsB, slotB, firstB, apartB, slots2B, show hTx 6 = true from rfl, show hPrev 6 = true from rfl, show hCtr 6 = false from rfl, show hFirst 6 = false from rfl, show hDelta 6 = false from rfl, show hPts 6 = false from rfl, cond_true, cond_false, hp]
  generalize noneB live dirty next = qN
  generalize pointsB true live dirty next lsn = qQ
  cases qN <;> cases qQ <;> rw [Bool.eq_iff_iff] <;> simp only [fromB, aheadB, Bool.and_eq_true, Bool.or_eq_true, decide_eq_true_eq, beq_iff_eq, Bool.false_eq_true, and_false, false_and] <;> first | omega | (simp; done) | (simp; omega)
theorem ok_7 (lsn tx prev wp wi sp si delta id grp lo hi val next : Int) (live : List LiveM) (dirty : List DirtyM) : (fromB 0 lsn 2147483647 && (noneB live dirty next && (fromB 1 tx 2147483647 && (fromB 1 prev 2147483647 && ((lsn == 0) || decide (prev < lsn))) && apartB (RecM.mk lsn 7 tx prev wp wi sp si delta id grp lo hi val live dirty next)))) = okB (RecM.mk lsn 7 tx prev wp wi sp si delta id grp lo hi val live dirty next) := by
  have hp : ∀ h, pointsB false live dirty next h = noneB live dirty next := fun h => rfl
  simp only [okB, oneB, slotsB, slotB, firstB, apartB, slots2B, show hTx 7 = true from rfl, show hPrev 7 = true from rfl, show hCtr 7 = false from rfl, show hFirst 7 = false from rfl, show hDelta 7 = false from rfl, show hPts 7 = false from rfl, cond_true, cond_false, hp]
  generalize noneB live dirty next = qN
  generalize pointsB true live dirty next lsn = qQ
  cases qN <;> cases qQ <;> rw [Bool.eq_iff_iff] <;> simp only [fromB, aheadB, Bool.and_eq_true, Bool.or_eq_true, decide_eq_true_eq, beq_iff_eq, Bool.false_eq_true, and_false, false_and] <;> first | omega | (simp; done) | (simp; omega)
theorem ok_8 (lsn tx prev wp wi sp si delta id grp lo hi val next : Int) (live : List LiveM) (dirty : List DirtyM) : (fromB 0 lsn 2147483647 && (((tx == 0) && (prev == 0) && apartB (RecM.mk lsn 8 tx prev wp wi sp si delta id grp lo hi val live dirty next) && pointsB true live dirty next lsn))) = okB (RecM.mk lsn 8 tx prev wp wi sp si delta id grp lo hi val live dirty next) := by
  have hp : ∀ h, pointsB false live dirty next h = noneB live dirty next := fun h => rfl
  simp only [okB, oneB, slotsB, slotB, firstB, apartB, slots2B, show hTx 8 = false from rfl, show hPrev 8 = false from rfl, show hCtr 8 = false from rfl, show hFirst 8 = false from rfl, show hDelta 8 = false from rfl, show hPts 8 = true from rfl, cond_true, cond_false, hp]
  generalize noneB live dirty next = qN
  generalize pointsB true live dirty next lsn = qQ
  cases qN <;> cases qQ <;> rw [Bool.eq_iff_iff] <;> simp only [fromB, aheadB, Bool.and_eq_true, Bool.or_eq_true, decide_eq_true_eq, beq_iff_eq, Bool.false_eq_true, and_false, false_and] <;> first | omega | (simp; done) | (simp; omega)
end Go.Proofs.YtblngphjoafidaaGreat
