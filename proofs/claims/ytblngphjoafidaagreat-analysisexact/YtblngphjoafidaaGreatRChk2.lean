import Derived.Test.YtblngphjoafidaaGreatROk
import Derived.Test.YtblngphjoafidaaGreatRFa
import Derived.Test.YtblngphjoafidaaGreatRFb
import Derived.Test.YtblngphjoafidaaGreatRFc
import Derived.Test.YtblngphjoafidaaGreatRFd
namespace Go.Proofs.YtblngphjoafidaaGreat
open Go.RowKit Go.QK
set_option maxRecDepth 100000
theorem rFields_any (r : RecM) (la da : Option Addr) (lc dc : Nat) (w : World) (hl : Lies w la (liveCs r.live)) (hd : Lies w da (dirtyCs r.dirty)) (hk1 : 1 ≤ r.kind) (hk8 : r.kind ≤ 8) :
    Calls Tryz.prog 50 #[.agg (recC r la lc da dc)] w fun e w' => e = .returned (.bool (okB r)) ∧ Below w.heap.size w w' := by
  obtain ⟨lsn, kind, tx, prev, wp, wi, sp, si, delta, id, grp, lo, hi, val, live, dirty, next⟩ := r
  simp only at hk1 hk8 hl hd
  rcases kinds hk1 hk8 with rfl | rfl | rfl | rfl | rfl | rfl | rfl | rfl
  · rw [← ok_1]
    exact rFields_1 lsn tx prev wp wi sp si delta id grp lo hi val next live dirty la da lc dc w hl hd
  · rw [← ok_2]
    exact rFields_2 lsn tx prev wp wi sp si delta id grp lo hi val next live dirty la da lc dc w hl hd
  · rw [← ok_3]
    exact rFields_3 lsn tx prev wp wi sp si delta id grp lo hi val next live dirty la da lc dc w hl hd
  · rw [← ok_4]
    exact rFields_4 lsn tx prev wp wi sp si delta id grp lo hi val next live dirty la da lc dc w hl hd
  · rw [← ok_5]
    exact rFields_5 lsn tx prev wp wi sp si delta id grp lo hi val next live dirty la da lc dc w hl hd
  · rw [← ok_6]
    exact rFields_6 lsn tx prev wp wi sp si delta id grp lo hi val next live dirty la da lc dc w hl hd
  · rw [← ok_7]
    exact rFields_7 lsn tx prev wp wi sp si delta id grp lo hi val next live dirty la da lc dc w hl hd
  · rw [← ok_8]
    exact rFields_8 lsn tx prev wp wi sp si delta id grp lo hi val next live dirty la da lc dc w hl hd
theorem rCheck_any (r : RecM) (la da : Option Addr) (lc dc : Nat) (w : World) (hl : Lies w la (liveCs r.live)) (hd : Lies w da (dirtyCs r.dirty)) :
    Calls Tryz.prog 36 #[.agg (recC r la lc da dc)] w fun e w' => e = .returned (.int .i64 (chkE r : Nat)) ∧ Below w.heap.size w w' := by
  have f0 := fun w a b c d => rFields_any r la da lc dc w a b c d
  unfold chkE
  generalize okB r = q at *
  obtain ⟨lsn, kind, tx, prev, wp, wi, sp, si, delta, id, grp, lo, hi, val, live, dirty, next⟩ := r
  simp only [recC] at *
  have HL := hide hl
  have HD := hide hd
  clear hl hd
  by_cases h1 : 1 ≤ kind
  case neg =>
    have g1 : decide (kind < 1) = true := by rw [decide_eq_true_iff]; omega
    have hR : (if fromB 1 kind 8 = true then (if q = true then 0 else 23) else 70) = 70 := if_neg (by simp [fromB]; omega)
    rw [hR]
    clear hR
    go_enter Tryz.func36, Tryz.ntmps36
    go_wp2_with fail
    go_ret
    exact ⟨by rfl, alloc_below _ _⟩
  have g1 : decide (kind < 1) = false := by rw [decide_eq_false_iff_not]; omega
  by_cases h8 : kind ≤ 8
  case neg =>
    have g2 : decide (8 < kind) = true := by rw [decide_eq_true_iff]; omega
    have hR : (if fromB 1 kind 8 = true then (if q = true then 0 else 23) else 70) = 70 := if_neg (by simp [fromB]; omega)
    rw [hR]
    clear hR
    go_enter Tryz.func36, Tryz.ntmps36
    go_wp2_with fail
    go_ret
    exact ⟨by rfl, alloc_below _ _⟩
  have g2 : decide (8 < kind) = false := by rw [decide_eq_false_iff_not]; omega
  have hR : (if fromB 1 kind 8 = true then (if q = true then 0 else 23) else 70) = (if q = true then 0 else 23) := if_pos (by simp [fromB]; omega)
  rw [hR]
  clear hR
  generalize hN : (if q = true then 0 else 23) = N
  have HN := hide hN
  clear hN
  go_enter Tryz.func36, Tryz.ntmps36
  go_upto_region 3 with fail
  generalize hw0 : w.alloc (.cells #[.int .i64 lsn, .int .i64 kind, .int .i64 tx, .int .i64 prev, .int .i64 wp, .int .i64 wi, .int .i64 sp, .int .i64 si, .int .i64 delta, .int .i64 id, .int .i64 grp, .int .i64 lo, .int .i64 hi, .int .i64 val, .slice la live.length lc, .slice da dirty.length dc, .int .i64 next] 55) = w0
  have b0 : Below w.heap.size w w0 := by rw [← hw0]; exact alloc_below _ _
  have RB : Hid (RBox w0 w.heap.size 55 #[.int .i64 lsn, .int .i64 kind, .int .i64 tx, .int .i64 prev, .int .i64 wp, .int .i64 wi, .int .i64 sp, .int .i64 si, .int .i64 delta, .int .i64 id, .int .i64 grp, .int .i64 lo, .int .i64 hi, .int .i64 val, .slice la live.length lc, .slice da dirty.length dc, .int .i64 next]) := by rw [← hw0]; exact RBox.new _ _ _
  clear hw0
  generalize Value.agg #[.int .i64 lsn, .int .i64 kind, .int .i64 tx, .int .i64 prev, .int .i64 wp, .int .i64 wi, .int .i64 sp, .int .i64 si, .int .i64 delta, .int .i64 id, .int .i64 grp, .int .i64 lo, .int .i64 hi, .int .i64 val, .slice la live.length lc, .slice da dirty.length dc, .int .i64 next] = ra
  go_wp2_with (refine wpList_load36g RB.out rfl rfl rfl ?_)
  refine (f0 _ (HL.out.below b0) (HD.out.below b0) h1 h8).mono ?_
  rintro e w1 ⟨rfl, b1⟩
  have b2 := bnext b0 b1 (Nat.le_refl _)
  cases q
  · go_wp2_with fail
    go_ret
    exact ⟨by rw [← HN.out]; rfl, b2⟩
  · go_wp2_with fail
    go_ret
    exact ⟨by rw [← HN.out]; rfl, b2⟩
end Go.Proofs.YtblngphjoafidaaGreat
