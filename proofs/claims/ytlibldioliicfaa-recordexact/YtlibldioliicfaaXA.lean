import Derived.Test.YtlibldioliicfaaChk2
import Derived.Test.YtlibldioliicfaaLit
import Derived.BigQuiet
import Derived.Deep.QuietTactic
import Derived.Deep.DeepCutAuto
import Derived.Test.YtlibldioliicfaaBig2
namespace Go.Proofs.Ytlibldioliicfaa
open Go.RowKit Go.QK
set_option maxRecDepth 100000
theorem within_any (n lo hi : Int) (w : World) : Calls Try.prog 81 #[.int .i64 n, .int .i64 lo, .int .i64 hi] w fun e w' => e = .returned (.bool (fromB lo n hi)) ∧ w' = w := by
  unfold fromB
  by_cases h : lo ≤ n
  · go_enter Try.func81, Try.ntmps81
    go_wp2_with fail
    go_ret
    exact ⟨by simp [h], rfl⟩
  · go_enter Try.func81, Try.ntmps81
    go_wp2_with fail
    go_ret
    exact ⟨by simp; omega, rfl⟩
def noneB (live : List LiveM) (dirty : List DirtyM) (next : Int) : Bool := decide (next = 0) && decide (live.length = 0) && decide (dirty.length = 0)
theorem none_any (ls : List LiveM) (ds : List DirtyM) (la da : Option Addr) (lc dc : Nat) (next : Int) (w : World) :
    Calls Try.prog 82 #[.agg #[.slice la ls.length lc, .slice da ds.length dc, .int .i64 next]] w fun e w' => e = .returned (.bool (noneB ls ds next)) ∧ Below w.heap.size w w' := by
  have e1 : decide (next = 0) = (next == 0) := rfl
  have e2 : decide (ls.length = 0) = ((ls.length : Int) == 0) := by by_cases h : ls.length = 0 <;> simp [h]
  have e3 : decide (ds.length = 0) = ((ds.length : Int) == 0) := by by_cases h : ds.length = 0 <;> simp [h]
  unfold noneB
  rw [e1, e2, e3]
  clear e1 e2 e3
  cases h1 : (next == 0)
  · go_enter Try.func82, Try.ntmps82
    go_wp2_with fail
    go_ret
    exact ⟨by simp, alloc_below _ _⟩
  · cases h2 : ((ls.length : Int) == 0)
    · go_enter Try.func82, Try.ntmps82
      go_wp2_with fail
      go_ret
      exact ⟨by simp, alloc_below _ _⟩
    · go_enter Try.func82, Try.ntmps82
      go_wp2_with fail
      go_ret
      exact ⟨by simp, alloc_below _ _⟩
/-- The fields that slots and counters have are zero. -/
def apartB (r : RecM) : Bool := decide (r.wp = 0 ∧ r.wi = 0 ∧ r.sp = 0 ∧ r.si = 0 ∧ r.id = 0 ∧ r.grp = 0 ∧ r.lo = 0 ∧ r.hi = 0 ∧ r.val = 0 ∧ r.delta = 0)
theorem apart_any (r : RecM) (la da : Option Addr) (lc dc : Nat) (w : World) : Calls Try.prog 83 #[.agg (recC r la lc da dc)] w fun e w' => e = .returned (.bool (apartB r)) ∧ Below w.heap.size w w' := by
  obtain ⟨lsn, kind, tx, prev, wp, wi, sp, si, delta, id, grp, lo, hi, val, live, dirty, next⟩ := r
  unfold apartB
  simp only [recC]
  go_enter Try.func83, Try.ntmps83
  go_wp2_with fail
  all_goals go_ret
  all_goals exact ⟨by first | (simp; done) | (simp; omega) | (simp_all; done) | (simp_all; rfl), alloc_below _ _⟩
def slots2B (r : RecM) : Bool := fromB 0 r.wp 63 && fromB 0 r.wi 30 && fromB 0 r.sp 63 && fromB 0 r.si 83 && decide (r.wp ≠ r.sp)
theorem slots_any (r : RecM) (la da : Option Addr) (lc dc : Nat) (w : World) : Calls Try.prog 84 #[.agg (recC r la lc da dc)] w fun e w' => e = .returned (.bool (slots2B r)) ∧ Below w.heap.size w w' := by
  obtain ⟨lsn, kind, tx, prev, wp, wi, sp, si, delta, id, grp, lo, hi, val, live, dirty, next⟩ := r
  unfold slots2B
  simp only [recC]
  have f1 := fun w => within_any wp 0 63 w
  have f2 := fun w => within_any wi 0 30 w
  have f3 := fun w => within_any sp 0 63 w
  have f4 := fun w => within_any si 0 83 w
  generalize fromB 0 wp 63 = q1 at *
  generalize fromB 0 wi 30 = q2 at *
  generalize fromB 0 sp 63 = q3 at *
  generalize fromB 0 si 83 = q4 at *
  go_enter Try.func84, Try.ntmps84
  go_wp2_with fail
  generalize hw0 : w.alloc (.cells #[.int .i64 lsn, .int .i64 kind, .int .i64 tx, .int .i64 prev, .int .i64 wp, .int .i64 wi, .int .i64 sp, .int .i64 si, .int .i64 delta, .int .i64 id, .int .i64 grp, .int .i64 lo, .int .i64 hi, .int .i64 val, .slice la live.length lc, .slice da dirty.length dc, .int .i64 next] 36) = w0
  have B0 : Below w.heap.size w w0 := by rw [← hw0]; exact alloc_below _ _
  have C : Cells w0 w.heap.size (#[.int .i64 lsn, .int .i64 kind, .int .i64 tx, .int .i64 prev, .int .i64 wp, .int .i64 wi, .int .i64 sp, .int .i64 si, .int .i64 delta, .int .i64 id, .int .i64 grp, .int .i64 lo, .int .i64 hi, .int .i64 val, .slice la live.length lc, .slice da dirty.length dc, .int .i64 next]).toList := by rw [← hw0]; exact Cells.new _ _ _
  clear hw0
  generalize Value.agg #[.int .i64 lsn, .int .i64 kind, .int .i64 tx, .int .i64 prev, .int .i64 wp, .int .i64 wi, .int .i64 sp, .int .i64 si, .int .i64 delta, .int .i64 id, .int .i64 grp, .int .i64 lo, .int .i64 hi, .int .i64 val, .slice la live.length lc, .slice da dirty.length dc, .int .i64 next] = va
  have k4 := (C.get 4 _ rfl).1
  have k5 := (C.get 5 _ rfl).1
  have k6 := (C.get 6 _ rfl).1
  have k7 := (C.get 7 _ rfl).1
  clear C
  refine (f1 _).mono ?_
  rintro e w' ⟨rfl, rfl⟩
  cases q1
  · go_wp2_with fail
    go_ret
    exact ⟨by simp, B0⟩
  · go_wp2_with fail
    refine (f2 _).mono ?_
    rintro e w' ⟨rfl, rfl⟩
    cases q2
    · go_wp2_with fail
      go_ret
      exact ⟨by simp, B0⟩
    · go_wp2_with fail
      refine (f3 _).mono ?_
      rintro e w' ⟨rfl, rfl⟩
      cases q3
      · go_wp2_with fail
        go_ret
        exact ⟨by simp, B0⟩
      · go_wp2_with fail
        refine (f4 _).mono ?_
        rintro e w' ⟨rfl, rfl⟩
        cases q4
        · go_wp2_with fail
          go_ret
          exact ⟨by simp, B0⟩
        · go_wp2_with fail
          go_ret
          exact ⟨by simp [bne]; rfl, B0⟩
theorem bdrewN {B : Nat} {a w : World} (h : Below B a w) (n : Nat) : Below B a (w.drewN n) := ⟨h.os, h.tape, h.output, h.size, h.block⟩
end Go.Proofs.Ytlibldioliicfaa
namespace Go.Proofs.Ytlibldioliicfaa
open Go.RowKit Go.QK
set_option maxRecDepth 100000
set_option linter.unusedSimpArgs false
theorem ok_1 (lsn tx prev wp wi sp si delta id grp lo hi val next : Int) (live : List LiveM) (dirty : List DirtyM) : (fromB 0 lsn 2147483647 && (noneB live dirty next && (fromB 1 tx 2147483647 && (prev == 0) && apartB (RecM.mk lsn 1 tx prev wp wi sp si delta id grp lo hi val live dirty next)))) = okB (RecM.mk lsn 1 tx prev wp wi sp si delta id grp lo hi val live dirty next) := by
  have hp : ∀ h, pointsB false live dirty next h = noneB live dirty next := fun h => rfl
  simp only [okB, oneB, slotsB, slotB, firstB, apartB, slots2B, show hTx 1 = true from rfl, show hPrev 1 = false from rfl, show hCtr 1 = false from rfl, show hFirst 1 = false from rfl, show hDelta 1 = false from rfl, show hPts 1 = false from rfl, cond_true, cond_false, hp]
  generalize noneB live dirty next = qN
  generalize pointsB true live dirty next lsn = qQ
  cases qN <;> cases qQ <;> rw [Bool.eq_iff_iff] <;> simp only [fromB, aheadB, Bool.and_eq_true, Bool.or_eq_true, decide_eq_true_eq, beq_iff_eq, Bool.false_eq_true, and_false, false_and] <;> first | omega | (simp; done) | (simp; omega)
theorem ok_2 (lsn tx prev wp wi sp si delta id grp lo hi val next : Int) (live : List LiveM) (dirty : List DirtyM) : (fromB 0 lsn 2147483647 && (noneB live dirty next && ((tx == 0) && (prev == 0) && (delta == 0) && slots2B (RecM.mk lsn 2 tx prev wp wi sp si delta id grp lo hi val live dirty next) && fromB 1 id 1048576 && fromB 1 grp 1048576 && (decide (lo ≤ val) && decide (val ≤ hi))))) = okB (RecM.mk lsn 2 tx prev wp wi sp si delta id grp lo hi val live dirty next) := by
  have hp : ∀ h, pointsB false live dirty next h = noneB live dirty next := fun h => rfl
  simp only [okB, oneB, slotsB, slotB, firstB, apartB, slots2B, show hTx 2 = false from rfl, show hPrev 2 = false from rfl, show hCtr 2 = true from rfl, show hFirst 2 = true from rfl, show hDelta 2 = false from rfl, show hPts 2 = false from rfl, cond_true, cond_false, hp]
  generalize noneB live dirty next = qN
  generalize pointsB true live dirty next lsn = qQ
  cases qN <;> cases qQ <;> rw [Bool.eq_iff_iff] <;> simp only [fromB, aheadB, Bool.and_eq_true, Bool.or_eq_true, decide_eq_true_eq, beq_iff_eq, Bool.false_eq_true, and_false, false_and] <;> first | omega | (simp; done) | (simp; omega)
theorem ok_3 (lsn tx prev wp wi sp si delta id grp lo hi val next : Int) (live : List LiveM) (dirty : List DirtyM) : (fromB 0 lsn 2147483647 && (noneB live dirty next && (fromB 1 tx 2147483647 && (fromB 1 prev 2147483647 && ((lsn == 0) || decide (prev < lsn))) && slots2B (RecM.mk lsn 3 tx prev wp wi sp si delta id grp lo hi val live dirty next) && fromB 1 id 1048576 && ((id == id) && (grp == 0) && (lo == 0) && (hi == 0) && (val == 0))))) = okB (RecM.mk lsn 3 tx prev wp wi sp si delta id grp lo hi val live dirty next) := by
  have hp : ∀ h, pointsB false live dirty next h = noneB live dirty next := fun h => rfl
  simp only [okB, oneB, slotsB, slotB, firstB, apartB, slots2B, show hTx 3 = true from rfl, show hPrev 3 = true from rfl, show hCtr 3 = true from rfl, show hFirst 3 = false from rfl, show hDelta 3 = true from rfl, show hPts 3 = false from rfl, cond_true, cond_false, hp]
  generalize noneB live dirty next = qN
  generalize pointsB true live dirty next lsn = qQ
  cases qN <;> cases qQ <;> rw [Bool.eq_iff_iff] <;> simp only [fromB, aheadB, Bool.and_eq_true, Bool.or_eq_true, decide_eq_true_eq, beq_iff_eq, Bool.false_eq_true, and_false, false_and] <;> first | omega | (simp; done) | (simp; omega)
theorem ok_4 (lsn tx prev wp wi sp si delta id grp lo hi val next : Int) (live : List LiveM) (dirty : List DirtyM) : (fromB 0 lsn 2147483647 && (noneB live dirty next && (fromB 1 tx 2147483647 && (fromB 1 prev 2147483647 && ((lsn == 0) || decide (prev < lsn))) && slots2B (RecM.mk lsn 4 tx prev wp wi sp si delta id grp lo hi val live dirty next) && fromB 1 id 1048576 && ((id == id) && (grp == 0) && (lo == 0) && (hi == 0) && (val == 0))))) = okB (RecM.mk lsn 4 tx prev wp wi sp si delta id grp lo hi val live dirty next) := by
  have hp : ∀ h, pointsB false live dirty next h = noneB live dirty next := fun h => rfl
  simp only [okB, oneB, slotsB, slotB, firstB, apartB, slots2B, show hTx 4 = true from rfl, show hPrev 4 = true from rfl, show hCtr 4 = true from rfl, show hFirst 4 = false from rfl, show hDelta 4 = true from rfl, show hPts 4 = false from rfl, cond_true, cond_false, hp]
  generalize noneB live dirty next = qN
  generalize pointsB true live dirty next lsn = qQ
  cases qN <;> cases qQ <;> rw [Bool.eq_iff_iff] <;> simp only [fromB, aheadB, Bool.and_eq_true, Bool.or_eq_true, decide_eq_true_eq, beq_iff_eq, Bool.false_eq_true, and_false, false_and] <;> first | omega | (simp; done) | (simp; omega)
theorem ok_5 (lsn tx prev wp wi sp si delta id grp lo hi val next : Int) (live : List LiveM) (dirty : List DirtyM) : (fromB 0 lsn 2147483647 && (noneB live dirty next && (fromB 1 tx 2147483647 && (fromB 1 prev 2147483647 && ((lsn == 0) || decide (prev < lsn))) && apartB (RecM.mk lsn 5 tx prev wp wi sp si delta id grp lo hi val live dirty next)))) = okB (RecM.mk lsn 5 tx prev wp wi sp si delta id grp lo hi val live dirty next) := by
  have hp : ∀ h, pointsB false live dirty next h = noneB live dirty next := fun h => rfl
  simp only [okB, oneB, slotsB, slotB, firstB, apartB, slots2B, show hTx 5 = true from rfl, show hPrev 5 = true from rfl, show hCtr 5 = false from rfl, show hFirst 5 = false from rfl, show hDelta 5 = false from rfl, show hPts 5 = false from rfl, cond_true, cond_false, hp]
  generalize noneB live dirty next = qN
  generalize pointsB true live dirty next lsn = qQ
  cases qN <;> cases qQ <;> rw [Bool.eq_iff_iff] <;> simp only [fromB, aheadB, Bool.and_eq_true, Bool.or_eq_true, decide_eq_true_eq, beq_iff_eq, Bool.false_eq_true, and_false, false_and] <;> first | omega | (simp; done) | (simp; omega)
theorem ok_6 (lsn tx prev wp wi sp si delta id grp lo hi val next : Int) (live : List LiveM) (dirty : List DirtyM) : (fromB 0 lsn 2147483647 && (noneB live dirty next && (fromB 1 tx 2147483647 && (fromB 1 prev 2147483647 && ((lsn == 0) || decide (prev < lsn))) && apartB (RecM.mk lsn 6 tx prev wp wi sp si delta id grp lo hi val live dirty next)))) = okB (RecM.mk lsn 6 tx prev wp wi sp si delta id grp lo hi val live dirty next) := by
  have hp : ∀ h, pointsB false live dirty next h = noneB live dirty next := fun h => rfl
  simp only [okB, oneB, slotsB, slotB, firstB, apartB, slots2B, show hTx 6 = true from rfl, show hPrev 6 = true from rfl, show hCtr 6 = false from rfl, show hFirst 6 = false from rfl, show hDelta 6 = false from rfl, show hPts 6 = false from rfl, cond_true, cond_false, hp]
  generalize noneB live dirty next = qN
  generalize pointsB true live dirty next lsn = qQ
  cases qN <;> cases qQ <;> rw [Bool.eq_iff_iff] <;> simp only [fromB, aheadB, Bool.and_eq_true, Bool.or_eq_true, decide_eq_true_eq, beq_iff_eq, Bool.false_eq_true, and_false, false_and] <;> first | omega | (simp; done) | (simp; omega)
theorem ok_7 (lsn tx prev wp wi sp si delta id grp lo hi val next : Int) (live : List LiveM) (dirty : List DirtyM) : (fromB 0 lsn 2147483647 && (noneB live dirty next && (fromB 1 tx 2147483647 && (fromB 1 prev 2147483647 && ((lsn == 0) || decide (prev < lsn))) && apartB (RecM.mk lsn 7 tx prev wp wi sp si delta id grp lo hi val live dirty next)))) = okB (RecM.mk lsn 7 tx prev wp wi sp si delta id grp lo hi val live dirty next) := by
  have hp : ∀ h, pointsB false live dirty next h = noneB live dirty next := fun h => rfl
  simp only [okB, oneB, slotsB, slotB, firstB, apartB, slots2B, show hTx 7 = true from rfl, show hPrev 7 = true from rfl, show hCtr 7 = false from rfl, show hFirst 7 = false from rfl, show hDelta 7 = false from rfl, show hPts 7 = false from rfl, cond_true, cond_false, hp]
  generalize noneB live dirty next = qN
  generalize pointsB true live dirty next lsn = qQ
  cases qN <;> cases qQ <;> rw [Bool.eq_iff_iff] <;> simp only [fromB, aheadB, Bool.and_eq_true, Bool.or_eq_true, decide_eq_true_eq, beq_iff_eq, Bool.false_eq_true, and_false, false_and] <;> first | omega | (simp; done) | (simp; omega)
theorem ok_8 (lsn tx prev wp wi sp si delta id grp lo hi val next : Int) (live : List LiveM) (dirty : List DirtyM) : (fromB 0 lsn 2147483647 && (((tx == 0) && (prev == 0) && apartB (RecM.mk lsn 8 tx prev wp wi sp si delta id grp lo hi val live dirty next) && pointsB true live dirty next lsn))) = okB (RecM.mk lsn 8 tx prev wp wi sp si delta id grp lo hi val live dirty next) := by
  have hp : ∀ h, pointsB false live dirty next h = noneB live dirty next := fun h => rfl
  simp only [okB, oneB, slotsB, slotB, firstB, apartB, slots2B, show hTx 8 = false from rfl, show hPrev 8 = false from rfl, show hCtr 8 = false from rfl, show hFirst 8 = false from rfl, show hDelta 8 = false from rfl, show hPts 8 = true from rfl, cond_true, cond_false, hp]
  generalize noneB live dirty next = qN
  generalize pointsB true live dirty next lsn = qQ
  cases qN <;> cases qQ <;> rw [Bool.eq_iff_iff] <;> simp only [fromB, aheadB, Bool.and_eq_true, Bool.or_eq_true, decide_eq_true_eq, beq_iff_eq, Bool.false_eq_true, and_false, false_and] <;> first | omega | (simp; done) | (simp; omega)
end Go.Proofs.Ytlibldioliicfaa
namespace Go.Proofs.Ytlibldioliicfaa
open Go.RowKit Go.QK
set_option maxRecDepth 100000
set_option maxHeartbeats 0 in
theorem rLive_any (ls : List LiveM) (a : Option Addr) (c : Nat) (next : Int) (w : World) (hs : Lies w a (liveCs ls)) (h1 : 1 ≤ next) (h2 : next ≤ 2147483648) :
    Calls Try.prog 90 #[.slice a ls.length c, .int .i64 next] w fun e w' => e = .returned (.bool (decide (ls.length ≤ 32) && liveB next 0 1 ls)) ∧ Below w.heap.size w w' := by
  by_cases hl : ls.length ≤ 32
  · have hg : decide ((32 : Int) < (ls.length : Int)) = false := by simp; omega
    have hr : (decide (ls.length ≤ 32) && liveB next 0 1 ls) = liveB next 0 1 ls := by simp [hl]
    rw [hr]
    clear hr
    generalize hR : liveB next 0 1 ls = R
    have HR := hide hR
    clear hR
    go_enter Try.func90, Try.ntmps90
    go_wp2_with fail
    go_loopw [5] (fun i wr => ∃ (k : Nat) (m : Int), i = .int .i64 (k : Int) ∧ k ≤ ls.length ∧ 1 ≤ m ∧ (k = 0 → m = 1) ∧ (∀ j (h : j < ls.length), k = j + 1 → m = ls[j].tx + 1) ∧ R = liveB next 0 m (ls.drop k) ∧ Below w.heap.size w wr) (fun i _ => (ls.length + 1 - (intOf i).toNat))
    case atStart => exact ⟨0, 1, rfl, Nat.zero_le _, by omega, fun _ => rfl, fun j h e => (by omega), HR.out.symm, Below.refl _ _⟩
    case round =>
      clear HR
      obtain ⟨k, m, rfl, hk, hm1, hM, hP, hB, hb⟩ := hrel
      have HJ := hide hm1
      clear hm1
      have HB := hide hB
      have HM := hide hM
      have HP := hide hP
      clear hB hM hP
      by_cases hlt : k < ls.length
      · have hg1 : decide ((k : Int) < (ls.length : Int)) = true := by simp; omega
        rcases k with _ | j
        · have hd : liveB next 0 m (ls.drop 0) = (fromB m ls[0].tx (next - 1) && recB ls[0].last 0 && !(ls[0].com && ls[0].und) && liveB next 0 (ls[0].tx + 1) (ls.drop (0 + 1))) := by rw [List.drop_eq_getElem_cons hlt]; rfl
          rw [hd] at HB
          clear hd
          have hr : fromB m ls[0].tx (next - 1) = (fromB 1 ls[0].tx 2147483647 && !decide (next ≤ ls[0].tx)) := by
            rw [HM.out rfl]
            unfold fromB
            rw [Bool.eq_iff_iff]
            simp
            omega
          rw [hr] at HB
          clear hr
          clear HP HM HJ
          have hr : recB ls[0].last 0 = fromB 1 ls[0].last 2147483647 := by unfold recB aheadB; simp
          rw [hr] at HB
          clear hr
          obtain ⟨b, off, rfl, hbl, k0, k1, k2, k3⟩ := (hs.below hb).liveAt 0 hlt
          simp only [Nat.zero_mul, Nat.add_zero] at k0 k1 k2 k3
          clear hs
          have hb1 : Below w.heap.size w (wr.alloc (.cells #[.int .i64 ls[0].tx, .int .i64 ls[0].last, .bool ls[0].com, .bool ls[0].und] 63)) := hb.alloc hb.size _
          have HN : ∃ x, ls[0].tx = x := ⟨_, rfl⟩
          obtain ⟨x, hx⟩ := HN
          have HN : Hid (x + (1 : Int) = ls[0].tx + (1 : Int)) := hide (by rw [hx])
          rw [hx] at HB k0 hb1
          clear hx
          generalize ls[0].last = y at *
          generalize ls[0].com = p at *
          generalize ls[0].und = q at *
          have HQ : Hid (fromB 1 x 2147483647 = true → 1 ≤ x + 1) := hide (by unfold fromB; simp; omega)
          have ⟨q1, hq1⟩ : ∃ g, fromB 1 x 2147483647 = g := ⟨_, rfl⟩
          have ⟨q2, hq2⟩ : ∃ g, fromB 1 y 2147483647 = g := ⟨_, rfl⟩
          rw [hq1, hq2] at HB
          have ⟨g, hg⟩ : ∃ g, decide (next ≤ x) = g := ⟨_, rfl⟩
          rw [hg] at HB
          cases q1
          · go_upto_region 7 with fail
            go_quiet ((go_at_call 81; exact Calls.quiet_of_same (within_any _ _ _ _)))
            go_wp2_with fail
            go_ret
            exact ⟨by rw [HB.out]; simp, bdrewN hb1 _⟩
          · cases g
            · cases q2
              · go_upto_region 7 with fail
                go_quiet ((go_at_call 81; exact Calls.quiet_of_same (within_any _ _ _ _)))
                go_wp2_with fail
                go_ret
                exact ⟨by rw [HB.out]; simp, bdrewN hb1 _⟩
              · cases p
                · go_upto_region 7 with fail
                  go_quiet ((go_at_call 81; exact Calls.quiet_of_same (within_any _ _ _ _)))
                  go_wp2_with fail
                  go_roundw
                  case rel => exact ⟨0 + 1, x + 1, by go_num, hlt, HQ.out hq1, by intro h; omega, (fun i h e => by (have e1 : i = 0 := (by omega)); cases e1; exact HN.out), by rw [HB.out]; simp, bdrewN hb1 _⟩
                  case measure => simp [intOf] <;> omega
                · cases q
                  · go_upto_region 7 with fail
                    go_quiet ((go_at_call 81; exact Calls.quiet_of_same (within_any _ _ _ _)))
                    go_wp2_with fail
                    go_roundw
                    case rel => exact ⟨0 + 1, x + 1, by go_num, hlt, HQ.out hq1, by intro h; omega, (fun i h e => by (have e1 : i = 0 := (by omega)); cases e1; exact HN.out), by rw [HB.out]; simp, bdrewN hb1 _⟩
                    case measure => simp [intOf] <;> omega
                  · go_upto_region 7 with fail
                    go_quiet ((go_at_call 81; exact Calls.quiet_of_same (within_any _ _ _ _)))
                    go_wp2_with fail
                    go_ret
                    exact ⟨by rw [HB.out]; simp, bdrewN hb1 _⟩
            · go_upto_region 7 with fail
              go_quiet ((go_at_call 81; exact Calls.quiet_of_same (within_any _ _ _ _)))
              go_wp2_with fail
              go_ret
              exact ⟨by rw [HB.out]; simp, bdrewN hb1 _⟩
        · have hd : liveB next 0 m (ls.drop (j + 1)) = (fromB m ls[(j + 1)].tx (next - 1) && recB ls[(j + 1)].last 0 && !(ls[(j + 1)].com && ls[(j + 1)].und) && liveB next 0 (ls[(j + 1)].tx + 1) (ls.drop ((j + 1) + 1))) := by rw [List.drop_eq_getElem_cons hlt]; rfl
          rw [hd] at HB
          clear hd
          have hpv := HP.out j (by omega) rfl
          rw [hpv] at HB
          clear hpv
          have hr : fromB (ls[j].tx + 1) ls[j + 1].tx (next - 1) = (fromB 1 ls[j + 1].tx 2147483647 && !decide (next ≤ ls[j + 1].tx) && !decide (ls[j + 1].tx ≤ ls[j].tx)) := by
            have := HJ.out
            rw [HP.out j (by omega) rfl] at this
            unfold fromB
            rw [Bool.eq_iff_iff]
            simp
            omega
          rw [hr] at HB
          clear hr
          clear HP HM HJ
          have hr : recB ls[(j + 1)].last 0 = fromB 1 ls[(j + 1)].last 2147483647 := by unfold recB aheadB; simp
          rw [hr] at HB
          clear hr
          obtain ⟨b, off, rfl, hbl, k0, k1, k2, k3⟩ := (hs.below hb).liveAt (j + 1) hlt
          obtain ⟨b', off', hab, _, p0, _⟩ := (hs.below hb).liveAt j (by omega)
          cases hab
          clear hs
          have hb1 : Below w.heap.size w (wr.alloc (.cells #[.int .i64 ls[(j + 1)].tx, .int .i64 ls[(j + 1)].last, .bool ls[(j + 1)].com, .bool ls[(j + 1)].und] 63)) := hb.alloc hb.size _
          have HN : ∃ x, ls[(j + 1)].tx = x := ⟨_, rfl⟩
          obtain ⟨x, hx⟩ := HN
          have HN : Hid (x + (1 : Int) = ls[(j + 1)].tx + (1 : Int)) := hide (by rw [hx])
          rw [hx] at HB k0 hb1
          clear hx
          generalize ls[(j + 1)].last = y at *
          generalize ls[(j + 1)].com = p at *
          generalize ls[(j + 1)].und = q at *
          generalize ls[j].tx = pv at *
          have ew : IntKind.i64.wrap ((j : Int) + 1 - 1) = (j : Int) := by rw [IntKind.wrap_i64]; omega
          have hi0 : decide ((0 : Int) < (j : Int) + 1) = true := by rw [decide_eq_true_iff]; omega
          have HQ : Hid (fromB 1 x 2147483647 = true → 1 ≤ x + 1) := hide (by unfold fromB; simp; omega)
          have ⟨q1, hq1⟩ : ∃ g, fromB 1 x 2147483647 = g := ⟨_, rfl⟩
          have ⟨q2, hq2⟩ : ∃ g, fromB 1 y 2147483647 = g := ⟨_, rfl⟩
          rw [hq1, hq2] at HB
          have ⟨g, hg⟩ : ∃ g, decide (next ≤ x) = g := ⟨_, rfl⟩
          rw [hg] at HB
          have ⟨h, hh⟩ : ∃ h, decide (x ≤ pv) = h := ⟨_, rfl⟩
          rw [hh] at HB
          cases q1
          · go_upto_region 7 with fail
            go_quiet ((go_at_call 81; exact Calls.quiet_of_same (within_any _ _ _ _)))
            go_wp2_with fail
            go_ret
            exact ⟨by rw [HB.out]; simp, bdrewN hb1 _⟩
          · cases g
            · cases h
              · cases q2
                · go_upto_region 7 with fail
                  go_quiet ((go_at_call 81; exact Calls.quiet_of_same (within_any _ _ _ _)))
                  go_wp2_with fail
                  go_ret
                  exact ⟨by rw [HB.out]; simp, bdrewN hb1 _⟩
                · cases p
                  · go_upto_region 7 with fail
                    go_quiet ((go_at_call 81; exact Calls.quiet_of_same (within_any _ _ _ _)))
                    go_wp2_with fail
                    go_roundw
                    case rel => exact ⟨(j + 1) + 1, x + 1, by go_num, hlt, HQ.out hq1, by intro h; omega, (fun i h e => by (have e1 : i = (j + 1) := (by omega)); cases e1; exact HN.out), by rw [HB.out]; simp, bdrewN hb1 _⟩
                    case measure => simp [intOf] <;> omega
                  · cases q
                    · go_upto_region 7 with fail
                      go_quiet ((go_at_call 81; exact Calls.quiet_of_same (within_any _ _ _ _)))
                      go_wp2_with fail
                      go_roundw
                      case rel => exact ⟨(j + 1) + 1, x + 1, by go_num, hlt, HQ.out hq1, by intro h; omega, (fun i h e => by (have e1 : i = (j + 1) := (by omega)); cases e1; exact HN.out), by rw [HB.out]; simp, bdrewN hb1 _⟩
                      case measure => simp [intOf] <;> omega
                    · go_upto_region 7 with fail
                      go_quiet ((go_at_call 81; exact Calls.quiet_of_same (within_any _ _ _ _)))
                      go_wp2_with fail
                      go_ret
                      exact ⟨by rw [HB.out]; simp, bdrewN hb1 _⟩
              · go_upto_region 7 with fail
                go_quiet ((go_at_call 81; exact Calls.quiet_of_same (within_any _ _ _ _)))
                go_wp2_with fail
                go_ret
                exact ⟨by rw [HB.out]; simp, bdrewN hb1 _⟩
            · go_upto_region 7 with fail
              go_quiet ((go_at_call 81; exact Calls.quiet_of_same (within_any _ _ _ _)))
              go_wp2_with fail
              go_ret
              exact ⟨by rw [HB.out]; simp, bdrewN hb1 _⟩
      · have hg1 : decide ((k : Int) < (ls.length : Int)) = false := by simp; omega
        have HF : Hid (R = true) := hide (by rw [HB.out, List.drop_eq_nil_of_le (by omega)]; rfl)
        clear HB
        go_wp2_with fail
        go_ret
        exact ⟨by rw [HF.out]; rfl, hb⟩
  · have hg : decide ((32 : Int) < (ls.length : Int)) = true := by simp; omega
    go_enter Try.func90, Try.ntmps90
    go_wp2_with fail
    go_ret
    exact ⟨by simp [hl], Below.refl _ _⟩
end Go.Proofs.Ytlibldioliicfaa
namespace Go.Proofs.Ytlibldioliicfaa
open Go.RowKit Go.QK
set_option maxRecDepth 100000
set_option maxHeartbeats 0 in
theorem rDirty_any (ls : List DirtyM) (a : Option Addr) (c : Nat) (w : World) (hs : Lies w a (dirtyCs ls)) :
    Calls Try.prog 91 #[.slice a ls.length c] w fun e w' => e = .returned (.bool (decide (ls.length ≤ 16) && dirtyB 0 0 ls)) ∧ Below w.heap.size w w' := by
  by_cases hl : ls.length ≤ 16
  · have hg : decide ((16 : Int) < (ls.length : Int)) = false := by simp; omega
    have hr : (decide (ls.length ≤ 16) && dirtyB 0 0 ls) = dirtyB 0 0 ls := by simp [hl]
    rw [hr]
    clear hr
    generalize hR : dirtyB 0 0 ls = R
    have HR := hide hR
    clear hR
    go_enter Try.func91, Try.ntmps91
    go_wp2_with fail
    go_loopw [3] (fun i wr => ∃ (k : Nat) (m : Int), i = .int .i64 (k : Int) ∧ k ≤ ls.length ∧ 0 ≤ m ∧ (k = 0 → m = 0) ∧ (∀ j (h : j < ls.length), k = j + 1 → m = ls[j].page + 1) ∧ R = dirtyB 0 m (ls.drop k) ∧ Below w.heap.size w wr) (fun i _ => (ls.length + 1 - (intOf i).toNat))
    case atStart => exact ⟨0, 0, rfl, Nat.zero_le _, by omega, fun _ => rfl, fun j h e => (by omega), HR.out.symm, Below.refl _ _⟩
    case round =>
      clear HR
      obtain ⟨k, m, rfl, hk, hm1, hM, hP, hB, hb⟩ := hrel
      have HJ := hide hm1
      clear hm1
      have HB := hide hB
      have HM := hide hM
      have HP := hide hP
      clear hB hM hP
      by_cases hlt : k < ls.length
      · have hg1 : decide ((k : Int) < (ls.length : Int)) = true := by simp; omega
        rcases k with _ | j
        · have hd : dirtyB 0 m (ls.drop 0) = (fromB m ls[0].page 63 && recB ls[0].since 0 && dirtyB 0 (ls[0].page + 1) (ls.drop (0 + 1))) := by rw [List.drop_eq_getElem_cons hlt]; rfl
          rw [hd] at HB
          clear hd
          rw [HM.out rfl] at HB
          clear HP HM HJ
          have hr : recB ls[0].since 0 = fromB 1 ls[0].since 2147483647 := by unfold recB aheadB; simp
          rw [hr] at HB
          clear hr
          obtain ⟨b, off, rfl, hbl, k0, k1⟩ := (hs.below hb).dirtyAt 0 hlt
          simp only [Nat.zero_mul, Nat.add_zero] at k0 k1
          clear hs
          have HN : ∃ x, ls[0].page = x := ⟨_, rfl⟩
          obtain ⟨x, hx⟩ := HN
          have HN : Hid (x + (1 : Int) = ls[0].page + (1 : Int)) := hide (by rw [hx])
          rw [hx] at HB k0
          clear hx
          generalize ls[0].since = y at *
          have HQ : Hid (fromB 0 x 63 = true → 0 ≤ x + 1) := hide (by unfold fromB; simp; omega)
          have ⟨q1, hq1⟩ : ∃ g, fromB 0 x 63 = g := ⟨_, rfl⟩
          have ⟨q2, hq2⟩ : ∃ g, fromB 1 y 2147483647 = g := ⟨_, rfl⟩
          rw [hq1, hq2] at HB
          cases q1
          · go_upto_region 6 with fail
            go_quiet ((go_at_call 81; exact Calls.quiet_of_same (within_any _ _ _ _)))
            go_wp2_with fail
            go_ret
            exact ⟨by rw [HB.out]; simp, bdrewN hb _⟩
          · cases q2
            · go_upto_region 6 with fail
              go_quiet ((go_at_call 81; exact Calls.quiet_of_same (within_any _ _ _ _)))
              go_wp2_with fail
              go_ret
              exact ⟨by rw [HB.out]; simp, bdrewN hb _⟩
            · go_upto_region 6 with fail
              go_quiet ((go_at_call 81; exact Calls.quiet_of_same (within_any _ _ _ _)))
              go_wp2_with fail
              go_roundw
              case rel => exact ⟨0 + 1, x + 1, by go_num, hlt, HQ.out hq1, by intro h; omega, (fun i h e => by (have e1 : i = 0 := (by omega)); cases e1; exact HN.out), by rw [HB.out]; simp, bdrewN hb _⟩
              case measure => simp [intOf] <;> omega
        · have hd : dirtyB 0 m (ls.drop (j + 1)) = (fromB m ls[(j + 1)].page 63 && recB ls[(j + 1)].since 0 && dirtyB 0 (ls[(j + 1)].page + 1) (ls.drop ((j + 1) + 1))) := by rw [List.drop_eq_getElem_cons hlt]; rfl
          rw [hd] at HB
          clear hd
          have hpv := HP.out j (by omega) rfl
          rw [hpv] at HB
          clear hpv
          have hr : fromB (ls[j].page + 1) ls[j + 1].page 63 = (fromB 0 ls[j + 1].page 63 && !decide (ls[j + 1].page ≤ ls[j].page)) := by
            have := HJ.out
            rw [HP.out j (by omega) rfl] at this
            unfold fromB
            rw [Bool.eq_iff_iff]
            simp
            omega
          rw [hr] at HB
          clear hr
          clear HP HM HJ
          have hr : recB ls[(j + 1)].since 0 = fromB 1 ls[(j + 1)].since 2147483647 := by unfold recB aheadB; simp
          rw [hr] at HB
          clear hr
          obtain ⟨b, off, rfl, hbl, k0, k1⟩ := (hs.below hb).dirtyAt (j + 1) hlt
          obtain ⟨b', off', hab, _, p0, _⟩ := (hs.below hb).dirtyAt j (by omega)
          cases hab
          clear hs
          have HN : ∃ x, ls[(j + 1)].page = x := ⟨_, rfl⟩
          obtain ⟨x, hx⟩ := HN
          have HN : Hid (x + (1 : Int) = ls[(j + 1)].page + (1 : Int)) := hide (by rw [hx])
          rw [hx] at HB k0
          clear hx
          generalize ls[(j + 1)].since = y at *
          generalize ls[j].page = pv at *
          have ew : IntKind.i64.wrap ((j : Int) + 1 - 1) = (j : Int) := by rw [IntKind.wrap_i64]; omega
          have hi0 : decide ((0 : Int) < (j : Int) + 1) = true := by rw [decide_eq_true_iff]; omega
          have HQ : Hid (fromB 0 x 63 = true → 0 ≤ x + 1) := hide (by unfold fromB; simp; omega)
          have ⟨q1, hq1⟩ : ∃ g, fromB 0 x 63 = g := ⟨_, rfl⟩
          have ⟨q2, hq2⟩ : ∃ g, fromB 1 y 2147483647 = g := ⟨_, rfl⟩
          rw [hq1, hq2] at HB
          have ⟨h, hh⟩ : ∃ h, decide (x ≤ pv) = h := ⟨_, rfl⟩
          rw [hh] at HB
          cases q1
          · go_upto_region 6 with fail
            go_quiet ((go_at_call 81; exact Calls.quiet_of_same (within_any _ _ _ _)))
            go_wp2_with fail
            go_ret
            exact ⟨by rw [HB.out]; simp, bdrewN hb _⟩
          · cases h
            · cases q2
              · go_upto_region 6 with fail
                go_quiet ((go_at_call 81; exact Calls.quiet_of_same (within_any _ _ _ _)))
                go_wp2_with fail
                go_ret
                exact ⟨by rw [HB.out]; simp, bdrewN hb _⟩
              · go_upto_region 6 with fail
                go_quiet ((go_at_call 81; exact Calls.quiet_of_same (within_any _ _ _ _)))
                go_wp2_with fail
                go_roundw
                case rel => exact ⟨(j + 1) + 1, x + 1, by go_num, hlt, HQ.out hq1, by intro h; omega, (fun i h e => by (have e1 : i = (j + 1) := (by omega)); cases e1; exact HN.out), by rw [HB.out]; simp, bdrewN hb _⟩
                case measure => simp [intOf] <;> omega
            · go_upto_region 6 with fail
              go_quiet ((go_at_call 81; exact Calls.quiet_of_same (within_any _ _ _ _)))
              go_wp2_with fail
              go_ret
              exact ⟨by rw [HB.out]; simp, bdrewN hb _⟩
      · have hg1 : decide ((k : Int) < (ls.length : Int)) = false := by simp; omega
        have HF : Hid (R = true) := hide (by rw [HB.out, List.drop_eq_nil_of_le (by omega)]; rfl)
        clear HB
        go_wp2_with fail
        go_ret
        exact ⟨by rw [HF.out]; rfl, hb⟩
  · have hg : decide ((16 : Int) < (ls.length : Int)) = true := by simp; omega
    go_enter Try.func91, Try.ntmps91
    go_wp2_with fail
    go_ret
    exact ⟨by simp [hl], Below.refl _ _⟩
end Go.Proofs.Ytlibldioliicfaa
namespace Go.Proofs.Ytlibldioliicfaa
open Go.RowKit Go.QK
set_option maxRecDepth 100000
theorem liveB_all (next lsn m : Int) (ls : List LiveM) : liveB next lsn m ls = (liveB next 0 m ls && ls.all (fun l => aheadB l.last lsn)) := by
  induction ls generalizing m with
  | nil => rfl
  | cons l ls ih =>
    simp only [liveB, List.all_cons, ih, recB]
    have : aheadB l.last 0 = true := by simp [aheadB]
    rw [this]
    generalize fromB m l.tx (next - 1) = a
    generalize fromB 1 l.last 2147483647 = b
    generalize aheadB l.last lsn = c
    generalize liveB next 0 (l.tx + 1) ls = d
    generalize (l.com && l.und) = e
    generalize ls.all _ = f
    cases a <;> cases b <;> cases c <;> cases d <;> cases e <;> cases f <;> rfl
theorem dirtyB_all (lsn m : Int) (ls : List DirtyM) : dirtyB lsn m ls = (dirtyB 0 m ls && ls.all (fun l => aheadB l.since lsn)) := by
  induction ls generalizing m with
  | nil => rfl
  | cons l ls ih =>
    simp only [dirtyB, List.all_cons, ih, recB]
    have : aheadB l.since 0 = true := by simp [aheadB]
    rw [this]
    generalize fromB m l.page 63 = a
    generalize fromB 1 l.since 2147483647 = b
    generalize aheadB l.since lsn = c
    generalize dirtyB 0 (l.page + 1) ls = d
    generalize ls.all _ = f
    cases a <;> cases b <;> cases c <;> cases d <;> cases f <;> rfl
theorem pointsB_all (ls : List LiveM) (ds : List DirtyM) (next lsn : Int) : pointsB true ls ds next lsn = (decide (1 ≤ next) && decide (next ≤ 2147483648) && (decide (ls.length ≤ 32) && liveB next 0 1 ls) && (decide (ds.length ≤ 16) && dirtyB 0 0 ds) && ls.all (fun l => aheadB l.last lsn) && ds.all (fun l => aheadB l.since lsn)) := by
  unfold pointsB
  rw [cond_true, liveB_all, dirtyB_all]
  unfold fromB
  generalize decide (ls.length ≤ 32) = a
  generalize decide (ds.length ≤ 16) = b
  generalize liveB next 0 1 ls = c
  generalize dirtyB 0 0 ds = d
  generalize ls.all _ = e
  generalize ds.all _ = f
  generalize decide (1 ≤ next) = g
  generalize decide (next ≤ 2147483648) = h
  cases a <;> cases b <;> cases c <;> cases d <;> cases e <;> cases f <;> cases g <;> cases h <;> rfl
set_option maxHeartbeats 0 in
theorem rPoints_any (ls : List LiveM) (ds : List DirtyM) (la da : Option Addr) (lc dc : Nat) (next lsn : Int) (w : World) (hl : Lies w la (liveCs ls)) (hd : Lies w da (dirtyCs ds)) :
    Calls Try.prog 85 #[.agg #[.slice la ls.length lc, .slice da ds.length dc, .int .i64 next], .int .i64 lsn] w fun e w' => e = .returned (.bool (pointsB true ls ds next lsn)) ∧ Below w.heap.size w w' := by
  rw [pointsB_all]
  have HL := hide hl
  have HD := hide hd
  clear hl hd
  by_cases h1 : 1 ≤ next
  case neg =>
    have g1 : decide (next < 1) = true := by rw [decide_eq_true_iff]; omega
    have g2 : decide (1 ≤ next) = false := by rw [decide_eq_false_iff_not]; exact h1
    rw [g2]
    go_enter Try.func85, Try.ntmps85
    go_wp2_with fail
    go_ret
    exact ⟨by simp, alloc_below _ _⟩
  by_cases h2 : next ≤ 2147483648
  case neg =>
    have g1 : decide (next < 1) = false := by rw [decide_eq_false_iff_not]; omega
    have g3 : decide (2147483648 < next) = true := by rw [decide_eq_true_iff]; omega
    have g2 : decide (next ≤ 2147483648) = false := by rw [decide_eq_false_iff_not]; exact h2
    rw [g2]
    go_enter Try.func85, Try.ntmps85
    go_wp2_with fail
    go_ret
    exact ⟨by simp, alloc_below _ _⟩
  have g1 : decide (next < 1) = false := by rw [decide_eq_false_iff_not]; omega
  have g3 : decide (2147483648 < next) = false := by rw [decide_eq_false_iff_not]; omega
  have g4 : decide (1 ≤ next) = true := by rw [decide_eq_true_iff]; exact h1
  have g2 : decide (next ≤ 2147483648) = true := by rw [decide_eq_true_iff]; exact h2
  rw [g4, g2]
  clear g4 g2
  have f2 := fun w h => rLive_any ls la lc next w h h1 h2
  have f3 := fun w h => rDirty_any ds da dc w h
  have l2 : (decide (ls.length ≤ 32) && liveB next 0 1 ls) = true → ls.length ≤ 32 := by simp; intro h _; exact h
  have l3 : (decide (ds.length ≤ 16) && dirtyB 0 0 ds) = true → ds.length ≤ 16 := by simp; intro h _; exact h
  generalize (decide (ls.length ≤ 32) && liveB next 0 1 ls) = q2 at *
  generalize (decide (ds.length ≤ 16) && dirtyB 0 0 ds) = q3 at *
  generalize hR : (true && true && q2 && q3 && ls.all (fun l => aheadB l.last lsn) && ds.all (fun l => aheadB l.since lsn)) = R
  have HR := hide hR
  clear hR
  have L2 := hide l2
  have L3 := hide l3
  clear l2 l3
  go_enter Try.func85, Try.ntmps85
  go_wp2_with fail
  generalize hw0 : w.alloc (.cells #[.slice la ls.length lc, .slice da ds.length dc, .int .i64 next] 34) = w0
  have b0 : Below w.heap.size w w0 := by rw [← hw0]; exact alloc_below _ _
  have C : Cells w0 w.heap.size [.slice la ls.length lc, .slice da ds.length dc, .int .i64 next] := by rw [← hw0]; exact Cells.new _ _ _
  clear hw0
  refine (f2 _ (HL.out.below b0)).mono ?_
  rintro e w1 ⟨rfl, b1⟩
  replace C := C.below b1
  have b2 := bnext b0 b1 (Nat.le_refl _)
  clear b0 b1
  obtain ⟨c1, _⟩ := C.get 1 _ rfl
  cases q2
  · go_wp2_with fail
    go_ret
    exact ⟨by rw [← HR.out]; simp, b2⟩
  · go_wp2_with fail
    refine (f3 _ (HD.out.below b2)).mono ?_
    rintro e w2 ⟨rfl, b3⟩
    have b4 := bnext b2 b3 (Nat.le_refl _)
    replace C := C.below b3
    clear b2 b3 c1
    obtain ⟨c0, _⟩ := C.get 0 _ rfl
    obtain ⟨c1, _⟩ := C.get 1 _ rfl
    clear C f2 f3
    cases q3
    · go_wp2_with fail
      go_ret
      exact ⟨by rw [← HR.out]; simp, b4⟩
    · have l2 := L2.out (by first | rfl | trivial)
      have l3 := L3.out (by first | rfl | trivial)
      clear L2 L3
      have hl := HL.out.below b4
      have hd := HD.out.below b4
      clear HL HD
      go_wp2_with fail
      go_loopw [5] (fun i wr => ∃ (k : Nat), i = .int .i64 (k : Int) ∧ k ≤ ls.length ∧ R = ((ls.drop k).all (fun l => aheadB l.last lsn) && ds.all (fun l => aheadB l.since lsn)) ∧ wr = w2) (fun i _ => (ls.length + 1 - (intOf i).toNat))
      case atStart => exact ⟨0, rfl, Nat.zero_le _, by rw [← HR.out]; simp, rfl⟩
      case round =>
        clear HR
        obtain ⟨k, rfl, hk, hB, hw⟩ := hrel
        have hw' := hw.symm
        clear hw
        subst hw'
        have HB := hide hB
        clear hB
        by_cases hlt : k < ls.length
        · have hg1 : decide ((k : Int) < (ls.length : Int)) = true := by simp; omega
          obtain ⟨b, off, rfl, hbl, k0, k1, k2, k3⟩ := hl.liveAt k hlt
          clear k0 k2 k3
          have hd : (ls.drop k).all (fun l => aheadB l.last lsn) = (aheadB ls[k].last lsn && (ls.drop (k + 1)).all (fun l => aheadB l.last lsn)) := by rw [List.drop_eq_getElem_cons hlt]; rfl
          rw [hd] at HB
          clear hd
          generalize ls[k].last = y at *
          unfold aheadB at HB
          by_cases hz : lsn = 0
          · have hz1 : (lsn != 0) = false := by simp [hz]
            have HZ := hide hz
            clear hz
            go_wp2_with fail
            go_roundw
            case rel => exact ⟨k + 1, by go_num, hlt, by rw [HB.out, HZ.out]; simp [aheadB], (by first | rfl | trivial)⟩
            case measure => simp [intOf] <;> omega
          · have hz1 : (lsn != 0) = true := by simp [hz]
            by_cases hy : lsn ≤ y
            · have hy1 : decide (lsn ≤ y) = true := by rw [decide_eq_true_iff]; exact hy
              go_wp2_with fail
              go_ret
              exact ⟨by rw [HB.out]; have h3 : decide (y < lsn) = false := (by rw [decide_eq_false_iff_not]; omega); simp [hz, h3], b4⟩
            · have hy1 : decide (lsn ≤ y) = false := by rw [decide_eq_false_iff_not]; exact hy
              go_wp2_with fail
              go_roundw
              case rel => exact ⟨k + 1, by go_num, hlt, by rw [HB.out]; have h3 : decide (y < lsn) = true := (by rw [decide_eq_true_iff]; omega); simp [h3, aheadB], (by first | rfl | trivial)⟩
              case measure => simp [intOf] <;> omega
        · have hg1 : decide ((k : Int) < (ls.length : Int)) = false := by simp; omega
          rw [List.drop_eq_nil_of_le (by omega)] at HB
          go_wp2_with fail
          go_loopw [6] (fun i wr => ∃ (k : Nat), i = .int .i64 (k : Int) ∧ k ≤ ds.length ∧ R = (ds.drop k).all (fun l => aheadB l.since lsn) ∧ wr = w2) (fun i _ => (ds.length + 1 - (intOf i).toNat))
          case atStart => exact ⟨0, rfl, Nat.zero_le _, by rw [HB.out]; simp, rfl⟩
          case round =>
            clear HB
            obtain ⟨j, rfl, hj, hB, hw⟩ := hrel
            have hw' := hw.symm
            clear hw
            subst hw'
            have HB := hide hB
            clear hB
            by_cases hlt : j < ds.length
            · have hg2 : decide ((j : Int) < (ds.length : Int)) = true := by simp; omega
              obtain ⟨b, off, rfl, hbl, k0, k1⟩ := hd.dirtyAt j hlt
              clear k0
              have hd : (ds.drop j).all (fun l => aheadB l.since lsn) = (aheadB ds[j].since lsn && (ds.drop (j + 1)).all (fun l => aheadB l.since lsn)) := by rw [List.drop_eq_getElem_cons hlt]; rfl
              rw [hd] at HB
              clear hd
              generalize ds[j].since = y at *
              unfold aheadB at HB
              by_cases hz : lsn = 0
              · have hz1 : (lsn != 0) = false := by simp [hz]
                have HZ := hide hz
                clear hz
                go_wp2_with fail
                go_roundw
                case rel => exact ⟨j + 1, by go_num, hlt, by rw [HB.out, HZ.out]; simp [aheadB], (by first | rfl | trivial)⟩
                case measure => simp [intOf] <;> omega
              · have hz1 : (lsn != 0) = true := by simp [hz]
                by_cases hy : lsn ≤ y
                · have hy1 : decide (lsn ≤ y) = true := by rw [decide_eq_true_iff]; exact hy
                  go_wp2_with fail
                  go_ret
                  exact ⟨by rw [HB.out]; have h3 : decide (y < lsn) = false := (by rw [decide_eq_false_iff_not]; omega); simp [hz, h3], b4⟩
                · have hy1 : decide (lsn ≤ y) = false := by rw [decide_eq_false_iff_not]; exact hy
                  go_wp2_with fail
                  go_roundw
                  case rel => exact ⟨j + 1, by go_num, hlt, by rw [HB.out]; have h3 : decide (y < lsn) = true := (by rw [decide_eq_true_iff]; omega); simp [h3, aheadB], (by first | rfl | trivial)⟩
                  case measure => simp [intOf] <;> omega
            · have hg2 : decide ((j : Int) < (ds.length : Int)) = false := by simp; omega
              rw [List.drop_eq_nil_of_le (by omega)] at HB
              go_wp2_with fail
              go_ret
              exact ⟨by rw [HB.out]; rfl, b4⟩
end Go.Proofs.Ytlibldioliicfaa
namespace Go.Proofs.Ytlibldioliicfaa
open Go.RowKit Go.QK
set_option maxRecDepth 100000
set_option maxHeartbeats 0 in
theorem rFields_1 (lsn tx prev wp wi sp si delta id grp lo hi val next : Int) (live : List LiveM) (dirty : List DirtyM) (la da : Option Addr) (lc dc : Nat) (w : World) (hl : Lies w la (liveCs live)) (hd : Lies w da (dirtyCs dirty)) :
    Calls Try.prog 59 #[.agg #[.int .i64 lsn, .int .i64 1, .int .i64 tx, .int .i64 prev, .int .i64 wp, .int .i64 wi, .int .i64 sp, .int .i64 si, .int .i64 delta, .int .i64 id, .int .i64 grp, .int .i64 lo, .int .i64 hi, .int .i64 val, .slice la live.length lc, .slice da dirty.length dc, .int .i64 next]] w fun e w' => e = .returned (.bool (fromB 0 lsn 2147483647 && (noneB live dirty next && (fromB 1 tx 2147483647 && (prev == 0) && apartB (RecM.mk lsn 1 tx prev wp wi sp si delta id grp lo hi val live dirty next))))) ∧ Below w.heap.size w w' := by
  have f0 := fun w => within_any lsn 0 2147483647 w
  have fN := fun w => none_any live dirty la da lc dc next w
  have fT := fun w => within_any tx 1 2147483647 w
  have fP := fun w => within_any prev 1 2147483647 w
  have fI := fun w => within_any id 1 1048576 w
  have fG := fun w => within_any grp 1 1048576 w
  have fA := fun w => apart_any (RecM.mk lsn 1 tx prev wp wi sp si delta id grp lo hi val live dirty next) la da lc dc w
  have fS := fun w => slots_any (RecM.mk lsn 1 tx prev wp wi sp si delta id grp lo hi val live dirty next) la da lc dc w
  have fQ := fun w a b => rPoints_any live dirty la da lc dc next lsn w a b
  simp only [recC] at fA fS
  generalize fromB 0 lsn 2147483647 = q0 at *
  generalize noneB live dirty next = qN at *
  generalize fromB 1 tx 2147483647 = qT at *
  generalize fromB 1 prev 2147483647 = qP at *
  generalize fromB 1 id 1048576 = qI at *
  generalize fromB 1 grp 1048576 = qG at *
  generalize apartB (RecM.mk lsn 1 tx prev wp wi sp si delta id grp lo hi val live dirty next) = qA at *
  generalize slots2B (RecM.mk lsn 1 tx prev wp wi sp si delta id grp lo hi val live dirty next) = qS at *
  generalize pointsB true live dirty next lsn = qQ at *
  have HL := hide hl
  have HD := hide hd
  clear hl hd
  generalize hR : (q0 && (qN && (qT && (prev == 0) && qA))) = R
  have HR := hide hR
  clear hR
  have ⟨qz, hqz⟩ : ∃ g, (prev == 0) = g := ⟨_, rfl⟩
  rw [hqz] at HR
  go_enter Try.func59, Try.ntmps59
  go_wp2_with fail
  generalize hw0 : w.alloc (.cells #[.int .i64 lsn, .int .i64 1, .int .i64 tx, .int .i64 prev, .int .i64 wp, .int .i64 wi, .int .i64 sp, .int .i64 si, .int .i64 delta, .int .i64 id, .int .i64 grp, .int .i64 lo, .int .i64 hi, .int .i64 val, .slice la live.length lc, .slice da dirty.length dc, .int .i64 next] 36) = w0
  have b0 : Below w.heap.size w w0 := by rw [← hw0]; exact alloc_below _ _
  have RB : Hid (RBox w0 w.heap.size 36 #[.int .i64 lsn, .int .i64 1, .int .i64 tx, .int .i64 prev, .int .i64 wp, .int .i64 wi, .int .i64 sp, .int .i64 si, .int .i64 delta, .int .i64 id, .int .i64 grp, .int .i64 lo, .int .i64 hi, .int .i64 val, .slice la live.length lc, .slice da dirty.length dc, .int .i64 next]) := by rw [← hw0]; exact RBox.new _ _ _
  clear hw0
  generalize Value.agg #[.int .i64 lsn, .int .i64 1, .int .i64 tx, .int .i64 prev, .int .i64 wp, .int .i64 wi, .int .i64 sp, .int .i64 si, .int .i64 delta, .int .i64 id, .int .i64 grp, .int .i64 lo, .int .i64 hi, .int .i64 val, .slice la live.length lc, .slice da dirty.length dc, .int .i64 next] = ra
  refine (f0 _).mono ?_
  rintro e wq ⟨rfl, hq⟩
  obtain rfl : w0 = wq := hq.symm
  have c0 := (RB.out.cells.get 0 _ rfl).1
  have c1 := (RB.out.cells.get 1 _ rfl).1
  have c2 := (RB.out.cells.get 2 _ rfl).1
  have c3 := (RB.out.cells.get 3 _ rfl).1
  have c8 := (RB.out.cells.get 8 _ rfl).1
  have c9 := (RB.out.cells.get 9 _ rfl).1
  have c10 := (RB.out.cells.get 10 _ rfl).1
  have c11 := (RB.out.cells.get 11 _ rfl).1
  have c12 := (RB.out.cells.get 12 _ rfl).1
  have c13 := (RB.out.cells.get 13 _ rfl).1
  have c14 := (RB.out.cells.get 14 _ rfl).1
  have c15 := (RB.out.cells.get 15 _ rfl).1
  have c16 := (RB.out.cells.get 16 _ rfl).1
  cases q0
  · go_wp2_with fail
    go_ret
    exact ⟨by rw [← HR.out]; simp, b0⟩
  · skip
    go_wp2_with fail
    refine (fN _).mono ?_
    rintro e w1 ⟨rfl, b1⟩
    clear c0 c1 c2 c3 c8 c9 c10 c11 c12 c13 c14 c15 c16
    replace RB := hide (RB.out.below b1)
    have b2 := bnext b0 b1 (Nat.le_refl _)
    clear b0 b1
    have c0 := (RB.out.cells.get 0 _ rfl).1
    have c1 := (RB.out.cells.get 1 _ rfl).1
    have c2 := (RB.out.cells.get 2 _ rfl).1
    have c3 := (RB.out.cells.get 3 _ rfl).1
    have c8 := (RB.out.cells.get 8 _ rfl).1
    have c9 := (RB.out.cells.get 9 _ rfl).1
    have c10 := (RB.out.cells.get 10 _ rfl).1
    have c11 := (RB.out.cells.get 11 _ rfl).1
    have c12 := (RB.out.cells.get 12 _ rfl).1
    have c13 := (RB.out.cells.get 13 _ rfl).1
    have c14 := (RB.out.cells.get 14 _ rfl).1
    have c15 := (RB.out.cells.get 15 _ rfl).1
    have c16 := (RB.out.cells.get 16 _ rfl).1
    cases qN
    · go_wp2_with fail
      go_ret
      exact ⟨by rw [← HR.out]; simp, b2⟩
    · skip
      go_wp2_with fail
      refine (fT _).mono ?_
      rintro e wq ⟨rfl, hq⟩
      obtain rfl : w1 = wq := hq.symm
      go_upto_region 4 with fail
      go_cut [4] (fun s w' => s = .bool (qP && ((lsn == 0) || decide (prev < lsn))) ∧ w' = w1)
      case first =>
        go_wp2_with fail
        refine (fP _).mono ?_
        rintro e wq ⟨rfl, hq⟩
        obtain rfl : w1 = wq := hq.symm
        cases qP
        · go_wp2_with fail
          go_meet
          exact ⟨by simp, rfl⟩
        · have ⟨z, hz⟩ : ∃ g, (lsn == 0) = g := ⟨_, rfl⟩
          cases z
          · go_wp2_with fail
            go_meet
            exact ⟨by first | (simp; done) | simp [hz], rfl⟩
          · go_wp2_with fail
            go_meet
            exact ⟨by first | (simp; done) | simp [hz], rfl⟩
      case rest =>
        obtain ⟨rfl, hw⟩ := hcut
        obtain rfl : w1 = _ := hw.symm
        generalize (qP && ((lsn == 0) || decide (prev < lsn))) = qV
        go_upto_region 6 with fail
        clear c0 c1 c2 c3 c8 c9 c10 c11 c12 c13 c14 c15 c16
        generalize hw2 : w1.alloc (.cells #[.int .i64 id, .int .i64 grp, .int .i64 lo, .int .i64 hi, .int .i64 val] 30) = w2
        have D : Hid (Cells w2 w1.heap.size [.int .i64 id, .int .i64 grp, .int .i64 lo, .int .i64 hi, .int .i64 val]) := by rw [← hw2]; exact Cells.new _ _ _
        have hwb : Below w1.heap.size w1 w2 := by rw [← hw2]; exact alloc_below _ _
        have b3 := bnext b2 hwb (Nat.le_refl _)
        replace RB := hide (RB.out.below hwb)
        clear hw2 hwb b2
        have c0 := (RB.out.cells.get 0 _ rfl).1
        have c1 := (RB.out.cells.get 1 _ rfl).1
        have c2 := (RB.out.cells.get 2 _ rfl).1
        have c3 := (RB.out.cells.get 3 _ rfl).1
        have c8 := (RB.out.cells.get 8 _ rfl).1
        have d0 := (D.out.get 0 _ rfl).1
        have d1 := (D.out.get 1 _ rfl).1
        have d2 := (D.out.get 2 _ rfl).1
        have d3 := (D.out.get 3 _ rfl).1
        have d4 := (D.out.get 4 _ rfl).1
        go_wp2_with fail
        refine (fI _).mono ?_
        rintro e wq ⟨rfl, hq⟩
        obtain rfl : w2 = wq := hq.symm
        cases qT
        · go_wp2_with fail
          go_ret
          exact ⟨by rw [← HR.out]; simp, b3⟩
        · cases qz
          · go_wp2_with fail
            go_ret
            exact ⟨by rw [← HR.out]; simp, b3⟩
          · skip
            go_wp2_with (refine wpList_load36g RB.out rfl rfl rfl ?_)
            refine (fA _).mono ?_
            rintro e w4 ⟨rfl, bb⟩
            have b4 := bnext b3 bb (Nat.le_refl _)
            go_wp2_with fail
            all_goals go_ret
            all_goals exact ⟨by rw [← HR.out]; first | (simp; done) | (simp; omega) | (simp_all; done) | (simp_all; omega), b4⟩
set_option maxHeartbeats 0 in
theorem rFields_2 (lsn tx prev wp wi sp si delta id grp lo hi val next : Int) (live : List LiveM) (dirty : List DirtyM) (la da : Option Addr) (lc dc : Nat) (w : World) (hl : Lies w la (liveCs live)) (hd : Lies w da (dirtyCs dirty)) :
    Calls Try.prog 59 #[.agg #[.int .i64 lsn, .int .i64 2, .int .i64 tx, .int .i64 prev, .int .i64 wp, .int .i64 wi, .int .i64 sp, .int .i64 si, .int .i64 delta, .int .i64 id, .int .i64 grp, .int .i64 lo, .int .i64 hi, .int .i64 val, .slice la live.length lc, .slice da dirty.length dc, .int .i64 next]] w fun e w' => e = .returned (.bool (fromB 0 lsn 2147483647 && (noneB live dirty next && ((tx == 0) && (prev == 0) && (delta == 0) && slots2B (RecM.mk lsn 2 tx prev wp wi sp si delta id grp lo hi val live dirty next) && fromB 1 id 1048576 && fromB 1 grp 1048576 && (decide (lo ≤ val) && decide (val ≤ hi)))))) ∧ Below w.heap.size w w' := by
  have f0 := fun w => within_any lsn 0 2147483647 w
  have fN := fun w => none_any live dirty la da lc dc next w
  have fT := fun w => within_any tx 1 2147483647 w
  have fP := fun w => within_any prev 1 2147483647 w
  have fI := fun w => within_any id 1 1048576 w
  have fG := fun w => within_any grp 1 1048576 w
  have fA := fun w => apart_any (RecM.mk lsn 2 tx prev wp wi sp si delta id grp lo hi val live dirty next) la da lc dc w
  have fS := fun w => slots_any (RecM.mk lsn 2 tx prev wp wi sp si delta id grp lo hi val live dirty next) la da lc dc w
  have fQ := fun w a b => rPoints_any live dirty la da lc dc next lsn w a b
  simp only [recC] at fA fS
  generalize fromB 0 lsn 2147483647 = q0 at *
  generalize noneB live dirty next = qN at *
  generalize fromB 1 tx 2147483647 = qT at *
  generalize fromB 1 prev 2147483647 = qP at *
  generalize fromB 1 id 1048576 = qI at *
  generalize fromB 1 grp 1048576 = qG at *
  generalize apartB (RecM.mk lsn 2 tx prev wp wi sp si delta id grp lo hi val live dirty next) = qA at *
  generalize slots2B (RecM.mk lsn 2 tx prev wp wi sp si delta id grp lo hi val live dirty next) = qS at *
  generalize pointsB true live dirty next lsn = qQ at *
  have HL := hide hl
  have HD := hide hd
  clear hl hd
  generalize hR : (q0 && (qN && ((tx == 0) && (prev == 0) && (delta == 0) && qS && qI && qG && (decide (lo ≤ val) && decide (val ≤ hi))))) = R
  have HR := hide hR
  clear hR
  have ⟨qz, hqz⟩ : ∃ g, (prev == 0) = g := ⟨_, rfl⟩
  rw [hqz] at HR
  have ⟨qt0, hqt0⟩ : ∃ g, (tx == 0) = g := ⟨_, rfl⟩
  rw [hqt0] at HR
  have ⟨qd, hqd⟩ : ∃ g, (delta == 0) = g := ⟨_, rfl⟩
  rw [hqd] at HR
  go_enter Try.func59, Try.ntmps59
  go_wp2_with fail
  generalize hw0 : w.alloc (.cells #[.int .i64 lsn, .int .i64 2, .int .i64 tx, .int .i64 prev, .int .i64 wp, .int .i64 wi, .int .i64 sp, .int .i64 si, .int .i64 delta, .int .i64 id, .int .i64 grp, .int .i64 lo, .int .i64 hi, .int .i64 val, .slice la live.length lc, .slice da dirty.length dc, .int .i64 next] 36) = w0
  have b0 : Below w.heap.size w w0 := by rw [← hw0]; exact alloc_below _ _
  have RB : Hid (RBox w0 w.heap.size 36 #[.int .i64 lsn, .int .i64 2, .int .i64 tx, .int .i64 prev, .int .i64 wp, .int .i64 wi, .int .i64 sp, .int .i64 si, .int .i64 delta, .int .i64 id, .int .i64 grp, .int .i64 lo, .int .i64 hi, .int .i64 val, .slice la live.length lc, .slice da dirty.length dc, .int .i64 next]) := by rw [← hw0]; exact RBox.new _ _ _
  clear hw0
  generalize Value.agg #[.int .i64 lsn, .int .i64 2, .int .i64 tx, .int .i64 prev, .int .i64 wp, .int .i64 wi, .int .i64 sp, .int .i64 si, .int .i64 delta, .int .i64 id, .int .i64 grp, .int .i64 lo, .int .i64 hi, .int .i64 val, .slice la live.length lc, .slice da dirty.length dc, .int .i64 next] = ra
  refine (f0 _).mono ?_
  rintro e wq ⟨rfl, hq⟩
  obtain rfl : w0 = wq := hq.symm
  have c0 := (RB.out.cells.get 0 _ rfl).1
  have c1 := (RB.out.cells.get 1 _ rfl).1
  have c2 := (RB.out.cells.get 2 _ rfl).1
  have c3 := (RB.out.cells.get 3 _ rfl).1
  have c8 := (RB.out.cells.get 8 _ rfl).1
  have c9 := (RB.out.cells.get 9 _ rfl).1
  have c10 := (RB.out.cells.get 10 _ rfl).1
  have c11 := (RB.out.cells.get 11 _ rfl).1
  have c12 := (RB.out.cells.get 12 _ rfl).1
  have c13 := (RB.out.cells.get 13 _ rfl).1
  have c14 := (RB.out.cells.get 14 _ rfl).1
  have c15 := (RB.out.cells.get 15 _ rfl).1
  have c16 := (RB.out.cells.get 16 _ rfl).1
  cases q0
  · go_wp2_with fail
    go_ret
    exact ⟨by rw [← HR.out]; simp, b0⟩
  · skip
    go_wp2_with fail
    refine (fN _).mono ?_
    rintro e w1 ⟨rfl, b1⟩
    clear c0 c1 c2 c3 c8 c9 c10 c11 c12 c13 c14 c15 c16
    replace RB := hide (RB.out.below b1)
    have b2 := bnext b0 b1 (Nat.le_refl _)
    clear b0 b1
    have c0 := (RB.out.cells.get 0 _ rfl).1
    have c1 := (RB.out.cells.get 1 _ rfl).1
    have c2 := (RB.out.cells.get 2 _ rfl).1
    have c3 := (RB.out.cells.get 3 _ rfl).1
    have c8 := (RB.out.cells.get 8 _ rfl).1
    have c9 := (RB.out.cells.get 9 _ rfl).1
    have c10 := (RB.out.cells.get 10 _ rfl).1
    have c11 := (RB.out.cells.get 11 _ rfl).1
    have c12 := (RB.out.cells.get 12 _ rfl).1
    have c13 := (RB.out.cells.get 13 _ rfl).1
    have c14 := (RB.out.cells.get 14 _ rfl).1
    have c15 := (RB.out.cells.get 15 _ rfl).1
    have c16 := (RB.out.cells.get 16 _ rfl).1
    cases qN
    · go_wp2_with fail
      go_ret
      exact ⟨by rw [← HR.out]; simp, b2⟩
    · skip
      go_wp2_with fail
      refine (fT _).mono ?_
      rintro e wq ⟨rfl, hq⟩
      obtain rfl : w1 = wq := hq.symm
      go_upto_region 4 with fail
      go_cut [4] (fun s w' => s = .bool (qP && ((lsn == 0) || decide (prev < lsn))) ∧ w' = w1)
      case first =>
        go_wp2_with fail
        refine (fP _).mono ?_
        rintro e wq ⟨rfl, hq⟩
        obtain rfl : w1 = wq := hq.symm
        cases qP
        · go_wp2_with fail
          go_meet
          exact ⟨by simp, rfl⟩
        · have ⟨z, hz⟩ : ∃ g, (lsn == 0) = g := ⟨_, rfl⟩
          cases z
          · go_wp2_with fail
            go_meet
            exact ⟨by first | (simp; done) | simp [hz], rfl⟩
          · go_wp2_with fail
            go_meet
            exact ⟨by first | (simp; done) | simp [hz], rfl⟩
      case rest =>
        obtain ⟨rfl, hw⟩ := hcut
        obtain rfl : w1 = _ := hw.symm
        generalize (qP && ((lsn == 0) || decide (prev < lsn))) = qV
        go_upto_region 6 with fail
        clear c0 c1 c2 c3 c8 c9 c10 c11 c12 c13 c14 c15 c16
        generalize hw2 : w1.alloc (.cells #[.int .i64 id, .int .i64 grp, .int .i64 lo, .int .i64 hi, .int .i64 val] 30) = w2
        have D : Hid (Cells w2 w1.heap.size [.int .i64 id, .int .i64 grp, .int .i64 lo, .int .i64 hi, .int .i64 val]) := by rw [← hw2]; exact Cells.new _ _ _
        have hwb : Below w1.heap.size w1 w2 := by rw [← hw2]; exact alloc_below _ _
        have b3 := bnext b2 hwb (Nat.le_refl _)
        replace RB := hide (RB.out.below hwb)
        clear hw2 hwb b2
        have c0 := (RB.out.cells.get 0 _ rfl).1
        have c1 := (RB.out.cells.get 1 _ rfl).1
        have c2 := (RB.out.cells.get 2 _ rfl).1
        have c3 := (RB.out.cells.get 3 _ rfl).1
        have c8 := (RB.out.cells.get 8 _ rfl).1
        have d0 := (D.out.get 0 _ rfl).1
        have d1 := (D.out.get 1 _ rfl).1
        have d2 := (D.out.get 2 _ rfl).1
        have d3 := (D.out.get 3 _ rfl).1
        have d4 := (D.out.get 4 _ rfl).1
        go_wp2_with fail
        refine (fI _).mono ?_
        rintro e wq ⟨rfl, hq⟩
        obtain rfl : w2 = wq := hq.symm
        go_upto_region 11 with fail
        go_cut [7] (fun s w' => s = .bool (decide (lo ≤ val) && decide (val ≤ hi)) ∧ w' = w2)
        case first =>
          go_wp2_with fail
          all_goals go_meet
          all_goals exact ⟨by first | rfl | (simp; done) | (simp; omega) | (simp_all; done) | (simp_all; omega), by first | rfl | trivial⟩
        case rest =>
          obtain ⟨rfl, hw⟩ := hcut
          obtain rfl : w2 = _ := hw.symm
          generalize (decide (lo ≤ val) && decide (val ≤ hi)) = qv at *
          cases qt0
          · go_wp2_with fail
            go_ret
            exact ⟨by rw [← HR.out]; simp, b3⟩
          · cases qz
            · go_wp2_with fail
              go_ret
              exact ⟨by rw [← HR.out]; simp, b3⟩
            · cases qd
              · go_wp2_with fail
                go_ret
                exact ⟨by rw [← HR.out]; simp, b3⟩
              · skip
                go_wp2_with (refine wpList_load36g RB.out rfl rfl rfl ?_)
                refine (fS _).mono ?_
                rintro e w4 ⟨rfl, bb⟩
                have b4 := bnext b3 bb (Nat.le_refl _)
                clear c0 c1 c2 c3 c8 d0 d1 d2 d3 d4
                replace RB := hide (RB.out.below bb)
                replace D := hide (D.out.below bb)
                clear bb
                have c0 := (RB.out.cells.get 0 _ rfl).1
                have c1 := (RB.out.cells.get 1 _ rfl).1
                have c2 := (RB.out.cells.get 2 _ rfl).1
                have c3 := (RB.out.cells.get 3 _ rfl).1
                have c8 := (RB.out.cells.get 8 _ rfl).1
                have d0 := (D.out.get 0 _ rfl).1
                have d1 := (D.out.get 1 _ rfl).1
                have d2 := (D.out.get 2 _ rfl).1
                have d3 := (D.out.get 3 _ rfl).1
                have d4 := (D.out.get 4 _ rfl).1
                cases qS
                · go_wp2_with fail
                  go_ret
                  exact ⟨by rw [← HR.out]; simp, b4⟩
                · cases qI
                  · go_wp2_with fail
                    go_ret
                    exact ⟨by rw [← HR.out]; simp, b4⟩
                  · go_wp2_with fail
                    refine (fG _).mono ?_
                    rintro e wq ⟨rfl, hq⟩
                    obtain rfl : w4 = wq := hq.symm
                    cases qG
                    · go_wp2_with fail
                      go_ret
                      exact ⟨by rw [← HR.out]; simp, b4⟩
                    · skip
                      go_wp2_with fail
                      all_goals go_ret
                      all_goals exact ⟨by rw [← HR.out]; first | (simp; done) | (simp; omega) | (simp_all; done) | (simp_all; omega), b4⟩
end Go.Proofs.Ytlibldioliicfaa
namespace Go.Proofs.Ytlibldioliicfaa
open Go.RowKit Go.QK
set_option maxRecDepth 100000
set_option maxHeartbeats 0 in
theorem rFields_3 (lsn tx prev wp wi sp si delta id grp lo hi val next : Int) (live : List LiveM) (dirty : List DirtyM) (la da : Option Addr) (lc dc : Nat) (w : World) (hl : Lies w la (liveCs live)) (hd : Lies w da (dirtyCs dirty)) :
    Calls Try.prog 59 #[.agg #[.int .i64 lsn, .int .i64 3, .int .i64 tx, .int .i64 prev, .int .i64 wp, .int .i64 wi, .int .i64 sp, .int .i64 si, .int .i64 delta, .int .i64 id, .int .i64 grp, .int .i64 lo, .int .i64 hi, .int .i64 val, .slice la live.length lc, .slice da dirty.length dc, .int .i64 next]] w fun e w' => e = .returned (.bool (fromB 0 lsn 2147483647 && (noneB live dirty next && (fromB 1 tx 2147483647 && (fromB 1 prev 2147483647 && ((lsn == 0) || decide (prev < lsn))) && slots2B (RecM.mk lsn 3 tx prev wp wi sp si delta id grp lo hi val live dirty next) && fromB 1 id 1048576 && ((id == id) && (grp == 0) && (lo == 0) && (hi == 0) && (val == 0)))))) ∧ Below w.heap.size w w' := by
  have f0 := fun w => within_any lsn 0 2147483647 w
  have fN := fun w => none_any live dirty la da lc dc next w
  have fT := fun w => within_any tx 1 2147483647 w
  have fP := fun w => within_any prev 1 2147483647 w
  have fI := fun w => within_any id 1 1048576 w
  have fG := fun w => within_any grp 1 1048576 w
  have fA := fun w => apart_any (RecM.mk lsn 3 tx prev wp wi sp si delta id grp lo hi val live dirty next) la da lc dc w
  have fS := fun w => slots_any (RecM.mk lsn 3 tx prev wp wi sp si delta id grp lo hi val live dirty next) la da lc dc w
  have fQ := fun w a b => rPoints_any live dirty la da lc dc next lsn w a b
  simp only [recC] at fA fS
  generalize fromB 0 lsn 2147483647 = q0 at *
  generalize noneB live dirty next = qN at *
  generalize fromB 1 tx 2147483647 = qT at *
  generalize fromB 1 prev 2147483647 = qP at *
  generalize fromB 1 id 1048576 = qI at *
  generalize fromB 1 grp 1048576 = qG at *
  generalize apartB (RecM.mk lsn 3 tx prev wp wi sp si delta id grp lo hi val live dirty next) = qA at *
  generalize slots2B (RecM.mk lsn 3 tx prev wp wi sp si delta id grp lo hi val live dirty next) = qS at *
  generalize pointsB true live dirty next lsn = qQ at *
  have HL := hide hl
  have HD := hide hd
  clear hl hd
  generalize hR : (q0 && (qN && (qT && (qP && ((lsn == 0) || decide (prev < lsn))) && qS && qI && ((id == id) && (grp == 0) && (lo == 0) && (hi == 0) && (val == 0))))) = R
  have HR := hide hR
  clear hR
  go_enter Try.func59, Try.ntmps59
  go_wp2_with fail
  generalize hw0 : w.alloc (.cells #[.int .i64 lsn, .int .i64 3, .int .i64 tx, .int .i64 prev, .int .i64 wp, .int .i64 wi, .int .i64 sp, .int .i64 si, .int .i64 delta, .int .i64 id, .int .i64 grp, .int .i64 lo, .int .i64 hi, .int .i64 val, .slice la live.length lc, .slice da dirty.length dc, .int .i64 next] 36) = w0
  have b0 : Below w.heap.size w w0 := by rw [← hw0]; exact alloc_below _ _
  have RB : Hid (RBox w0 w.heap.size 36 #[.int .i64 lsn, .int .i64 3, .int .i64 tx, .int .i64 prev, .int .i64 wp, .int .i64 wi, .int .i64 sp, .int .i64 si, .int .i64 delta, .int .i64 id, .int .i64 grp, .int .i64 lo, .int .i64 hi, .int .i64 val, .slice la live.length lc, .slice da dirty.length dc, .int .i64 next]) := by rw [← hw0]; exact RBox.new _ _ _
  clear hw0
  generalize Value.agg #[.int .i64 lsn, .int .i64 3, .int .i64 tx, .int .i64 prev, .int .i64 wp, .int .i64 wi, .int .i64 sp, .int .i64 si, .int .i64 delta, .int .i64 id, .int .i64 grp, .int .i64 lo, .int .i64 hi, .int .i64 val, .slice la live.length lc, .slice da dirty.length dc, .int .i64 next] = ra
  refine (f0 _).mono ?_
  rintro e wq ⟨rfl, hq⟩
  obtain rfl : w0 = wq := hq.symm
  have c0 := (RB.out.cells.get 0 _ rfl).1
  have c1 := (RB.out.cells.get 1 _ rfl).1
  have c2 := (RB.out.cells.get 2 _ rfl).1
  have c3 := (RB.out.cells.get 3 _ rfl).1
  have c8 := (RB.out.cells.get 8 _ rfl).1
  have c9 := (RB.out.cells.get 9 _ rfl).1
  have c10 := (RB.out.cells.get 10 _ rfl).1
  have c11 := (RB.out.cells.get 11 _ rfl).1
  have c12 := (RB.out.cells.get 12 _ rfl).1
  have c13 := (RB.out.cells.get 13 _ rfl).1
  have c14 := (RB.out.cells.get 14 _ rfl).1
  have c15 := (RB.out.cells.get 15 _ rfl).1
  have c16 := (RB.out.cells.get 16 _ rfl).1
  cases q0
  · go_wp2_with fail
    go_ret
    exact ⟨by rw [← HR.out]; simp, b0⟩
  · skip
    go_wp2_with fail
    refine (fN _).mono ?_
    rintro e w1 ⟨rfl, b1⟩
    clear c0 c1 c2 c3 c8 c9 c10 c11 c12 c13 c14 c15 c16
    replace RB := hide (RB.out.below b1)
    have b2 := bnext b0 b1 (Nat.le_refl _)
    clear b0 b1
    have c0 := (RB.out.cells.get 0 _ rfl).1
    have c1 := (RB.out.cells.get 1 _ rfl).1
    have c2 := (RB.out.cells.get 2 _ rfl).1
    have c3 := (RB.out.cells.get 3 _ rfl).1
    have c8 := (RB.out.cells.get 8 _ rfl).1
    have c9 := (RB.out.cells.get 9 _ rfl).1
    have c10 := (RB.out.cells.get 10 _ rfl).1
    have c11 := (RB.out.cells.get 11 _ rfl).1
    have c12 := (RB.out.cells.get 12 _ rfl).1
    have c13 := (RB.out.cells.get 13 _ rfl).1
    have c14 := (RB.out.cells.get 14 _ rfl).1
    have c15 := (RB.out.cells.get 15 _ rfl).1
    have c16 := (RB.out.cells.get 16 _ rfl).1
    cases qN
    · go_wp2_with fail
      go_ret
      exact ⟨by rw [← HR.out]; simp, b2⟩
    · skip
      go_wp2_with fail
      refine (fT _).mono ?_
      rintro e wq ⟨rfl, hq⟩
      obtain rfl : w1 = wq := hq.symm
      go_upto_region 4 with fail
      go_cut [4] (fun s w' => s = .bool (qP && ((lsn == 0) || decide (prev < lsn))) ∧ w' = w1)
      case first =>
        go_wp2_with fail
        refine (fP _).mono ?_
        rintro e wq ⟨rfl, hq⟩
        obtain rfl : w1 = wq := hq.symm
        cases qP
        · go_wp2_with fail
          go_meet
          exact ⟨by simp, rfl⟩
        · have ⟨z, hz⟩ : ∃ g, (lsn == 0) = g := ⟨_, rfl⟩
          cases z
          · go_wp2_with fail
            go_meet
            exact ⟨by first | (simp; done) | simp [hz], rfl⟩
          · go_wp2_with fail
            go_meet
            exact ⟨by first | (simp; done) | simp [hz], rfl⟩
      case rest =>
        obtain ⟨rfl, hw⟩ := hcut
        obtain rfl : w1 = _ := hw.symm
        generalize (qP && ((lsn == 0) || decide (prev < lsn))) = qV at *
        go_upto_region 6 with fail
        clear c0 c1 c2 c3 c8 c9 c10 c11 c12 c13 c14 c15 c16
        generalize hw2 : w1.alloc (.cells #[.int .i64 id, .int .i64 grp, .int .i64 lo, .int .i64 hi, .int .i64 val] 30) = w2
        have D : Hid (Cells w2 w1.heap.size [.int .i64 id, .int .i64 grp, .int .i64 lo, .int .i64 hi, .int .i64 val]) := by rw [← hw2]; exact Cells.new _ _ _
        have hwb : Below w1.heap.size w1 w2 := by rw [← hw2]; exact alloc_below _ _
        have b3 := bnext b2 hwb (Nat.le_refl _)
        replace RB := hide (RB.out.below hwb)
        clear hw2 hwb b2
        have c0 := (RB.out.cells.get 0 _ rfl).1
        have c1 := (RB.out.cells.get 1 _ rfl).1
        have c2 := (RB.out.cells.get 2 _ rfl).1
        have c3 := (RB.out.cells.get 3 _ rfl).1
        have c8 := (RB.out.cells.get 8 _ rfl).1
        have d0 := (D.out.get 0 _ rfl).1
        have d1 := (D.out.get 1 _ rfl).1
        have d2 := (D.out.get 2 _ rfl).1
        have d3 := (D.out.get 3 _ rfl).1
        have d4 := (D.out.get 4 _ rfl).1
        go_wp2_with fail
        refine (fI _).mono ?_
        rintro e wq ⟨rfl, hq⟩
        obtain rfl : w2 = wq := hq.symm
        cases qT
        · go_wp2_with fail
          go_ret
          exact ⟨by rw [← HR.out]; simp, b3⟩
        · cases qV
          · go_wp2_with fail
            go_ret
            exact ⟨by rw [← HR.out]; simp, b3⟩
          · skip
            go_wp2_with (refine wpList_load36g RB.out rfl rfl rfl ?_)
            refine (fS _).mono ?_
            rintro e w4 ⟨rfl, bb⟩
            have b4 := bnext b3 bb (Nat.le_refl _)
            clear c0 c1 c2 c3 c8 d0 d1 d2 d3 d4
            replace RB := hide (RB.out.below bb)
            replace D := hide (D.out.below bb)
            clear bb
            have c0 := (RB.out.cells.get 0 _ rfl).1
            have c1 := (RB.out.cells.get 1 _ rfl).1
            have c2 := (RB.out.cells.get 2 _ rfl).1
            have c3 := (RB.out.cells.get 3 _ rfl).1
            have c8 := (RB.out.cells.get 8 _ rfl).1
            have d0 := (D.out.get 0 _ rfl).1
            have d1 := (D.out.get 1 _ rfl).1
            have d2 := (D.out.get 2 _ rfl).1
            have d3 := (D.out.get 3 _ rfl).1
            have d4 := (D.out.get 4 _ rfl).1
            cases qS
            · go_wp2_with fail
              go_ret
              exact ⟨by rw [← HR.out]; simp, b4⟩
            · cases qI
              · go_wp2_with fail
                go_ret
                exact ⟨by rw [← HR.out]; simp, b4⟩
              · skip
                go_wp2_with fail
                all_goals go_ret
                all_goals exact ⟨by rw [← HR.out]; first | (simp; done) | (simp; omega) | (simp_all; done) | (simp_all; omega), b4⟩
set_option maxHeartbeats 0 in
theorem rFields_4 (lsn tx prev wp wi sp si delta id grp lo hi val next : Int) (live : List LiveM) (dirty : List DirtyM) (la da : Option Addr) (lc dc : Nat) (w : World) (hl : Lies w la (liveCs live)) (hd : Lies w da (dirtyCs dirty)) :
    Calls Try.prog 59 #[.agg #[.int .i64 lsn, .int .i64 4, .int .i64 tx, .int .i64 prev, .int .i64 wp, .int .i64 wi, .int .i64 sp, .int .i64 si, .int .i64 delta, .int .i64 id, .int .i64 grp, .int .i64 lo, .int .i64 hi, .int .i64 val, .slice la live.length lc, .slice da dirty.length dc, .int .i64 next]] w fun e w' => e = .returned (.bool (fromB 0 lsn 2147483647 && (noneB live dirty next && (fromB 1 tx 2147483647 && (fromB 1 prev 2147483647 && ((lsn == 0) || decide (prev < lsn))) && slots2B (RecM.mk lsn 4 tx prev wp wi sp si delta id grp lo hi val live dirty next) && fromB 1 id 1048576 && ((id == id) && (grp == 0) && (lo == 0) && (hi == 0) && (val == 0)))))) ∧ Below w.heap.size w w' := by
  have f0 := fun w => within_any lsn 0 2147483647 w
  have fN := fun w => none_any live dirty la da lc dc next w
  have fT := fun w => within_any tx 1 2147483647 w
  have fP := fun w => within_any prev 1 2147483647 w
  have fI := fun w => within_any id 1 1048576 w
  have fG := fun w => within_any grp 1 1048576 w
  have fA := fun w => apart_any (RecM.mk lsn 4 tx prev wp wi sp si delta id grp lo hi val live dirty next) la da lc dc w
  have fS := fun w => slots_any (RecM.mk lsn 4 tx prev wp wi sp si delta id grp lo hi val live dirty next) la da lc dc w
  have fQ := fun w a b => rPoints_any live dirty la da lc dc next lsn w a b
  simp only [recC] at fA fS
  generalize fromB 0 lsn 2147483647 = q0 at *
  generalize noneB live dirty next = qN at *
  generalize fromB 1 tx 2147483647 = qT at *
  generalize fromB 1 prev 2147483647 = qP at *
  generalize fromB 1 id 1048576 = qI at *
  generalize fromB 1 grp 1048576 = qG at *
  generalize apartB (RecM.mk lsn 4 tx prev wp wi sp si delta id grp lo hi val live dirty next) = qA at *
  generalize slots2B (RecM.mk lsn 4 tx prev wp wi sp si delta id grp lo hi val live dirty next) = qS at *
  generalize pointsB true live dirty next lsn = qQ at *
  have HL := hide hl
  have HD := hide hd
  clear hl hd
  generalize hR : (q0 && (qN && (qT && (qP && ((lsn == 0) || decide (prev < lsn))) && qS && qI && ((id == id) && (grp == 0) && (lo == 0) && (hi == 0) && (val == 0))))) = R
  have HR := hide hR
  clear hR
  go_enter Try.func59, Try.ntmps59
  go_wp2_with fail
  generalize hw0 : w.alloc (.cells #[.int .i64 lsn, .int .i64 4, .int .i64 tx, .int .i64 prev, .int .i64 wp, .int .i64 wi, .int .i64 sp, .int .i64 si, .int .i64 delta, .int .i64 id, .int .i64 grp, .int .i64 lo, .int .i64 hi, .int .i64 val, .slice la live.length lc, .slice da dirty.length dc, .int .i64 next] 36) = w0
  have b0 : Below w.heap.size w w0 := by rw [← hw0]; exact alloc_below _ _
  have RB : Hid (RBox w0 w.heap.size 36 #[.int .i64 lsn, .int .i64 4, .int .i64 tx, .int .i64 prev, .int .i64 wp, .int .i64 wi, .int .i64 sp, .int .i64 si, .int .i64 delta, .int .i64 id, .int .i64 grp, .int .i64 lo, .int .i64 hi, .int .i64 val, .slice la live.length lc, .slice da dirty.length dc, .int .i64 next]) := by rw [← hw0]; exact RBox.new _ _ _
  clear hw0
  generalize Value.agg #[.int .i64 lsn, .int .i64 4, .int .i64 tx, .int .i64 prev, .int .i64 wp, .int .i64 wi, .int .i64 sp, .int .i64 si, .int .i64 delta, .int .i64 id, .int .i64 grp, .int .i64 lo, .int .i64 hi, .int .i64 val, .slice la live.length lc, .slice da dirty.length dc, .int .i64 next] = ra
  refine (f0 _).mono ?_
  rintro e wq ⟨rfl, hq⟩
  obtain rfl : w0 = wq := hq.symm
  have c0 := (RB.out.cells.get 0 _ rfl).1
  have c1 := (RB.out.cells.get 1 _ rfl).1
  have c2 := (RB.out.cells.get 2 _ rfl).1
  have c3 := (RB.out.cells.get 3 _ rfl).1
  have c8 := (RB.out.cells.get 8 _ rfl).1
  have c9 := (RB.out.cells.get 9 _ rfl).1
  have c10 := (RB.out.cells.get 10 _ rfl).1
  have c11 := (RB.out.cells.get 11 _ rfl).1
  have c12 := (RB.out.cells.get 12 _ rfl).1
  have c13 := (RB.out.cells.get 13 _ rfl).1
  have c14 := (RB.out.cells.get 14 _ rfl).1
  have c15 := (RB.out.cells.get 15 _ rfl).1
  have c16 := (RB.out.cells.get 16 _ rfl).1
  cases q0
  · go_wp2_with fail
    go_ret
    exact ⟨by rw [← HR.out]; simp, b0⟩
  · skip
    go_wp2_with fail
    refine (fN _).mono ?_
    rintro e w1 ⟨rfl, b1⟩
    clear c0 c1 c2 c3 c8 c9 c10 c11 c12 c13 c14 c15 c16
    replace RB := hide (RB.out.below b1)
    have b2 := bnext b0 b1 (Nat.le_refl _)
    clear b0 b1
    have c0 := (RB.out.cells.get 0 _ rfl).1
    have c1 := (RB.out.cells.get 1 _ rfl).1
    have c2 := (RB.out.cells.get 2 _ rfl).1
    have c3 := (RB.out.cells.get 3 _ rfl).1
    have c8 := (RB.out.cells.get 8 _ rfl).1
    have c9 := (RB.out.cells.get 9 _ rfl).1
    have c10 := (RB.out.cells.get 10 _ rfl).1
    have c11 := (RB.out.cells.get 11 _ rfl).1
    have c12 := (RB.out.cells.get 12 _ rfl).1
    have c13 := (RB.out.cells.get 13 _ rfl).1
    have c14 := (RB.out.cells.get 14 _ rfl).1
    have c15 := (RB.out.cells.get 15 _ rfl).1
    have c16 := (RB.out.cells.get 16 _ rfl).1
    cases qN
    · go_wp2_with fail
      go_ret
      exact ⟨by rw [← HR.out]; simp, b2⟩
    · skip
      go_wp2_with fail
      refine (fT _).mono ?_
      rintro e wq ⟨rfl, hq⟩
      obtain rfl : w1 = wq := hq.symm
      go_upto_region 4 with fail
      go_cut [4] (fun s w' => s = .bool (qP && ((lsn == 0) || decide (prev < lsn))) ∧ w' = w1)
      case first =>
        go_wp2_with fail
        refine (fP _).mono ?_
        rintro e wq ⟨rfl, hq⟩
        obtain rfl : w1 = wq := hq.symm
        cases qP
        · go_wp2_with fail
          go_meet
          exact ⟨by simp, rfl⟩
        · have ⟨z, hz⟩ : ∃ g, (lsn == 0) = g := ⟨_, rfl⟩
          cases z
          · go_wp2_with fail
            go_meet
            exact ⟨by first | (simp; done) | simp [hz], rfl⟩
          · go_wp2_with fail
            go_meet
            exact ⟨by first | (simp; done) | simp [hz], rfl⟩
      case rest =>
        obtain ⟨rfl, hw⟩ := hcut
        obtain rfl : w1 = _ := hw.symm
        generalize (qP && ((lsn == 0) || decide (prev < lsn))) = qV at *
        go_upto_region 6 with fail
        clear c0 c1 c2 c3 c8 c9 c10 c11 c12 c13 c14 c15 c16
        generalize hw2 : w1.alloc (.cells #[.int .i64 id, .int .i64 grp, .int .i64 lo, .int .i64 hi, .int .i64 val] 30) = w2
        have D : Hid (Cells w2 w1.heap.size [.int .i64 id, .int .i64 grp, .int .i64 lo, .int .i64 hi, .int .i64 val]) := by rw [← hw2]; exact Cells.new _ _ _
        have hwb : Below w1.heap.size w1 w2 := by rw [← hw2]; exact alloc_below _ _
        have b3 := bnext b2 hwb (Nat.le_refl _)
        replace RB := hide (RB.out.below hwb)
        clear hw2 hwb b2
        have c0 := (RB.out.cells.get 0 _ rfl).1
        have c1 := (RB.out.cells.get 1 _ rfl).1
        have c2 := (RB.out.cells.get 2 _ rfl).1
        have c3 := (RB.out.cells.get 3 _ rfl).1
        have c8 := (RB.out.cells.get 8 _ rfl).1
        have d0 := (D.out.get 0 _ rfl).1
        have d1 := (D.out.get 1 _ rfl).1
        have d2 := (D.out.get 2 _ rfl).1
        have d3 := (D.out.get 3 _ rfl).1
        have d4 := (D.out.get 4 _ rfl).1
        go_wp2_with fail
        refine (fI _).mono ?_
        rintro e wq ⟨rfl, hq⟩
        obtain rfl : w2 = wq := hq.symm
        cases qT
        · go_wp2_with fail
          go_ret
          exact ⟨by rw [← HR.out]; simp, b3⟩
        · cases qV
          · go_wp2_with fail
            go_ret
            exact ⟨by rw [← HR.out]; simp, b3⟩
          · skip
            go_wp2_with (refine wpList_load36g RB.out rfl rfl rfl ?_)
            refine (fS _).mono ?_
            rintro e w4 ⟨rfl, bb⟩
            have b4 := bnext b3 bb (Nat.le_refl _)
            clear c0 c1 c2 c3 c8 d0 d1 d2 d3 d4
            replace RB := hide (RB.out.below bb)
            replace D := hide (D.out.below bb)
            clear bb
            have c0 := (RB.out.cells.get 0 _ rfl).1
            have c1 := (RB.out.cells.get 1 _ rfl).1
            have c2 := (RB.out.cells.get 2 _ rfl).1
            have c3 := (RB.out.cells.get 3 _ rfl).1
            have c8 := (RB.out.cells.get 8 _ rfl).1
            have d0 := (D.out.get 0 _ rfl).1
            have d1 := (D.out.get 1 _ rfl).1
            have d2 := (D.out.get 2 _ rfl).1
            have d3 := (D.out.get 3 _ rfl).1
            have d4 := (D.out.get 4 _ rfl).1
            cases qS
            · go_wp2_with fail
              go_ret
              exact ⟨by rw [← HR.out]; simp, b4⟩
            · cases qI
              · go_wp2_with fail
                go_ret
                exact ⟨by rw [← HR.out]; simp, b4⟩
              · skip
                go_wp2_with fail
                all_goals go_ret
                all_goals exact ⟨by rw [← HR.out]; first | (simp; done) | (simp; omega) | (simp_all; done) | (simp_all; omega), b4⟩
end Go.Proofs.Ytlibldioliicfaa
