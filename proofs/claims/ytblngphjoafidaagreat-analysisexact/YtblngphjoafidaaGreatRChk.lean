import Derived.Test.YtblngphjoafidaaGreatBig
namespace Go.Proofs.YtblngphjoafidaaGreat
open Go.RowKit Go.QK
set_option maxRecDepth 100000
theorem within_any (n lo hi : Int) (w : World) : Calls Tryz.prog 51 #[.int .i64 n, .int .i64 lo, .int .i64 hi] w fun e w' => e = .returned (.bool (fromB lo n hi)) ∧ w' = w := by
  unfold fromB
  by_cases h : lo ≤ n
  · go_enter Tryz.func51, Tryz.ntmps51
    go_wp2_with fail
    go_ret
    exact ⟨by simp [h], rfl⟩
  · go_enter Tryz.func51, Tryz.ntmps51
    go_wp2_with fail
    go_ret
    exact ⟨by simp; omega, rfl⟩
def noneB (live : List LiveM) (dirty : List DirtyM) (next : Int) : Bool := decide (next = 0) && decide (live.length = 0) && decide (dirty.length = 0)
theorem none_any (ls : List LiveM) (ds : List DirtyM) (la da : Option Addr) (lc dc : Nat) (next : Int) (w : World) :
    Calls Tryz.prog 76 #[.agg #[.slice la ls.length lc, .slice da ds.length dc, .int .i64 next]] w fun e w' => e = .returned (.bool (noneB ls ds next)) ∧ Below w.heap.size w w' := by
  have e1 : decide (next = 0) = (next == 0) := rfl
  have e2 : decide (ls.length = 0) = ((ls.length : Int) == 0) := by by_cases h : ls.length = 0 <;> simp [h]
  have e3 : decide (ds.length = 0) = ((ds.length : Int) == 0) := by by_cases h : ds.length = 0 <;> simp [h]
  unfold noneB
  rw [e1, e2, e3]
  clear e1 e2 e3
  cases h1 : (next == 0)
  · go_enter Tryz.func76, Tryz.ntmps76
    go_wp2_with fail
    go_ret
    exact ⟨by simp, alloc_below _ _⟩
  · cases h2 : ((ls.length : Int) == 0)
    · go_enter Tryz.func76, Tryz.ntmps76
      go_wp2_with fail
      go_ret
      exact ⟨by simp, alloc_below _ _⟩
    · go_enter Tryz.func76, Tryz.ntmps76
      go_wp2_with fail
      go_ret
      exact ⟨by simp, alloc_below _ _⟩
/-- The fields that slots and counters have are zero. -/
def apartB (r : RecM) : Bool := decide (r.wp = 0 ∧ r.wi = 0 ∧ r.sp = 0 ∧ r.si = 0 ∧ r.id = 0 ∧ r.grp = 0 ∧ r.lo = 0 ∧ r.hi = 0 ∧ r.val = 0 ∧ r.delta = 0)
theorem apart_any (r : RecM) (la da : Option Addr) (lc dc : Nat) (w : World) : Calls Tryz.prog 77 #[.agg (recC r la lc da dc)] w fun e w' => e = .returned (.bool (apartB r)) ∧ Below w.heap.size w w' := by
  obtain ⟨lsn, kind, tx, prev, wp, wi, sp, si, delta, id, grp, lo, hi, val, live, dirty, next⟩ := r
  unfold apartB
  simp only [recC]
  go_enter Tryz.func77, Tryz.ntmps77
  go_wp2_with fail
  all_goals go_ret
  all_goals exact ⟨by first | (simp; done) | (simp; omega) | (simp_all; done) | (simp_all; rfl), alloc_below _ _⟩
def slots2B (r : RecM) : Bool := fromB 0 r.wp 63 && fromB 0 r.wi 30 && fromB 0 r.sp 63 && fromB 0 r.si 83 && decide (r.wp ≠ r.sp)
theorem slots_any (r : RecM) (la da : Option Addr) (lc dc : Nat) (w : World) : Calls Tryz.prog 78 #[.agg (recC r la lc da dc)] w fun e w' => e = .returned (.bool (slots2B r)) ∧ Below w.heap.size w w' := by
  obtain ⟨lsn, kind, tx, prev, wp, wi, sp, si, delta, id, grp, lo, hi, val, live, dirty, next⟩ := r
  unfold slots2B
  simp only [recC]
  have f1 := fun w => within_any wp 0 63 w
  have f2 := fun w => within_any wi 0 30 w
  have f3 := fun w => within_any sp 0 63 w
  have f4 := fun w => within_any si 0 83 w
  generalize fromB 0 wp 63 = q1 at *
  generalize fromB 0 wi 30 = q2 at *
  generalize fromB 0 sp 63 = q3 at *
  generalize fromB 0 si 83 = q4 at *
  go_enter Tryz.func78, Tryz.ntmps78
  go_wp2_with fail
  generalize hw0 : w.alloc (.cells #[.int .i64 lsn, .int .i64 kind, .int .i64 tx, .int .i64 prev, .int .i64 wp, .int .i64 wi, .int .i64 sp, .int .i64 si, .int .i64 delta, .int .i64 id, .int .i64 grp, .int .i64 lo, .int .i64 hi, .int .i64 val, .slice la live.length lc, .slice da dirty.length dc, .int .i64 next] 55) = w0
  have B0 : Below w.heap.size w w0 := by rw [← hw0]; exact alloc_below _ _
  have C : Cells w0 w.heap.size (#[.int .i64 lsn, .int .i64 kind, .int .i64 tx, .int .i64 prev, .int .i64 wp, .int .i64 wi, .int .i64 sp, .int .i64 si, .int .i64 delta, .int .i64 id, .int .i64 grp, .int .i64 lo, .int .i64 hi, .int .i64 val, .slice la live.length lc, .slice da dirty.length dc, .int .i64 next]).toList := by rw [← hw0]; exact Cells.new _ _ _
  clear hw0
  generalize Value.agg #[.int .i64 lsn, .int .i64 kind, .int .i64 tx, .int .i64 prev, .int .i64 wp, .int .i64 wi, .int .i64 sp, .int .i64 si, .int .i64 delta, .int .i64 id, .int .i64 grp, .int .i64 lo, .int .i64 hi, .int .i64 val, .slice la live.length lc, .slice da dirty.length dc, .int .i64 next] = va
  have k4 := (C.get 4 _ rfl).1
  have k5 := (C.get 5 _ rfl).1
  have k6 := (C.get 6 _ rfl).1
  have k7 := (C.get 7 _ rfl).1
  clear C
  refine (f1 _).mono ?_
  rintro e w' ⟨rfl, rfl⟩
  cases q1
  · go_wp2_with fail
    go_ret
    exact ⟨by simp, B0⟩
  · go_wp2_with fail
    refine (f2 _).mono ?_
    rintro e w' ⟨rfl, rfl⟩
    cases q2
    · go_wp2_with fail
      go_ret
      exact ⟨by simp, B0⟩
    · go_wp2_with fail
      refine (f3 _).mono ?_
      rintro e w' ⟨rfl, rfl⟩
      cases q3
      · go_wp2_with fail
        go_ret
        exact ⟨by simp, B0⟩
      · go_wp2_with fail
        refine (f4 _).mono ?_
        rintro e w' ⟨rfl, rfl⟩
        cases q4
        · go_wp2_with fail
          go_ret
          exact ⟨by simp, B0⟩
        · go_wp2_with fail
          go_ret
          exact ⟨by simp [bne]; rfl, B0⟩
theorem bdrewN {B : Nat} {a w : World} (h : Below B a w) (n : Nat) : Below B a (w.drewN n) := ⟨h.os, h.tape, h.output, h.size, h.block⟩
end Go.Proofs.YtblngphjoafidaaGreat
