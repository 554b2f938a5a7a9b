import Derived.Test.YthaiagalndcndaaROk
import Derived.Test.YthaiagalndcndaaRFd
namespace Go.Proofs.Ythaiagalndcndaa
open Go.RowKit Go.QK
set_option maxRecDepth 100000
theorem rFields8_any (lsn tx prev wp wi sp si delta id grp lo hi val next : Int) (live : List LiveM) (dirty : List DirtyM) (la da : Option Addr) (lc dc : Nat) (w : World) (hl : Lies w la (liveCs live)) (hd : Lies w da (dirtyCs dirty)) :
    Calls Try.prog 33 #[.agg #[.int .i64 lsn, .int .i64 8, .int .i64 tx, .int .i64 prev, .int .i64 wp, .int .i64 wi, .int .i64 sp, .int .i64 si, .int .i64 delta, .int .i64 id, .int .i64 grp, .int .i64 lo, .int .i64 hi, .int .i64 val, .slice la live.length lc, .slice da dirty.length dc, .int .i64 next]] w fun e w' => e = .returned (.bool (okB (RecM.mk lsn 8 tx prev wp wi sp si delta id grp lo hi val live dirty next))) ∧ Below w.heap.size w w' := by
  rw [← ok_8]
  exact rFields_8 lsn tx prev wp wi sp si delta id grp lo hi val next live dirty la da lc dc w hl hd
theorem rCheck8_any (lsn tx prev wp wi sp si delta id grp lo hi val next : Int) (live : List LiveM) (dirty : List DirtyM) (la da : Option Addr) (lc dc : Nat) (w : World) (hl : Lies w la (liveCs live)) (hd : Lies w da (dirtyCs dirty)) :
    Calls Try.prog 24 #[.agg #[.int .i64 lsn, .int .i64 8, .int .i64 tx, .int .i64 prev, .int .i64 wp, .int .i64 wi, .int .i64 sp, .int .i64 si, .int .i64 delta, .int .i64 id, .int .i64 grp, .int .i64 lo, .int .i64 hi, .int .i64 val, .slice la live.length lc, .slice da dirty.length dc, .int .i64 next]] w fun e w' => e = .returned (.int .i64 (chkE (RecM.mk lsn 8 tx prev wp wi sp si delta id grp lo hi val live dirty next) : Nat)) ∧ Below w.heap.size w w' := by
  have f0 := fun w a b => rFields8_any lsn tx prev wp wi sp si delta id grp lo hi val next live dirty la da lc dc w a b
  unfold chkE
  generalize okB (RecM.mk lsn 8 tx prev wp wi sp si delta id grp lo hi val live dirty next) = q at *
  rw [show (if fromB 1 (RecM.mk lsn 8 tx prev wp wi sp si delta id grp lo hi val live dirty next).kind 8 = true then (if q = true then 0 else 23) else 70) = (if q = true then 0 else 23) from if_pos rfl]
  have HL := hide hl
  have HD := hide hd
  clear hl hd
  generalize hN : (if q = true then 0 else 23) = N
  have HN := hide hN
  clear hN
  go_enter Try.func24, Try.ntmps24
  go_upto_region 3 with fail
  generalize hw0 : w.alloc (.cells #[.int .i64 lsn, .int .i64 8, .int .i64 tx, .int .i64 prev, .int .i64 wp, .int .i64 wi, .int .i64 sp, .int .i64 si, .int .i64 delta, .int .i64 id, .int .i64 grp, .int .i64 lo, .int .i64 hi, .int .i64 val, .slice la live.length lc, .slice da dirty.length dc, .int .i64 next] 56) = w0
  have b0 : Below w.heap.size w w0 := by rw [← hw0]; exact alloc_below _ _
  have RB : Hid (RBox w0 w.heap.size 56 #[.int .i64 lsn, .int .i64 8, .int .i64 tx, .int .i64 prev, .int .i64 wp, .int .i64 wi, .int .i64 sp, .int .i64 si, .int .i64 delta, .int .i64 id, .int .i64 grp, .int .i64 lo, .int .i64 hi, .int .i64 val, .slice la live.length lc, .slice da dirty.length dc, .int .i64 next]) := by rw [← hw0]; exact RBox.new _ _ _
  clear hw0
  generalize Value.agg #[.int .i64 lsn, .int .i64 8, .int .i64 tx, .int .i64 prev, .int .i64 wp, .int .i64 wi, .int .i64 sp, .int .i64 si, .int .i64 delta, .int .i64 id, .int .i64 grp, .int .i64 lo, .int .i64 hi, .int .i64 val, .slice la live.length lc, .slice da dirty.length dc, .int .i64 next] = ra
  go_wp2_with (refine wpList_load36g RB.out rfl rfl rfl ?_)
  refine (f0 _ (HL.out.below b0) (HD.out.below b0)).mono ?_
  rintro e w1 ⟨rfl, b1⟩
  have b2 := bnext b0 b1 (Nat.le_refl _)
  cases q
  · go_wp2_with fail
    go_ret
    exact ⟨by rw [← HN.out]; rfl, b2⟩
  · go_wp2_with fail
    go_ret
    exact ⟨by rw [← HN.out]; rfl, b2⟩
end Go.Proofs.Ythaiagalndcndaa
