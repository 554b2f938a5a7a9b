import Derived.Test.YtlibldioliicfaaChk2
import Derived.Test.YtlibldioliicfaaLit
import Derived.Deep.QuietTactic
import Derived.BigQuiet
import Derived.Deep.DeepCutAuto
namespace Go.Proofs.Ytlibldioliicfaa
open Go.RowKit Go.QK

set_option maxRecDepth 100000
set_option maxHeartbeats 8000000 in
theorem Same_true (r : RecM) (la da la' da' : Option Addr) (lc dc lc' dc' : Nat) (w : World) (hl : Lies w la (liveCs r.live)) (hd : Lies w da (dirtyCs r.dirty)) (hl' : Lies w la' (liveCs r.live)) (hd' : Lies w da' (dirtyCs r.dirty)) (hn1 : r.live.length ≤ 1000000) (hn2 : r.dirty.length ≤ 1000000) :
    Calls Try.prog 10 #[.agg (recC r la lc da dc), .agg (recC r la' lc' da' dc')] w fun e w' => e = .returned (.bool true) ∧ Below w.heap.size w w' := by
  obtain ⟨lsn, kind, tx, prev, wp, wi, sp, si, delta, id, grp, lo, hi, val, live, dirty, next⟩ := r
  simp only [recC] at *
  have B0 : Below w.heap.size w ((w.alloc (.cells #[.int .i64 lsn, .int .i64 kind, .int .i64 tx, .int .i64 prev, .int .i64 wp, .int .i64 wi, .int .i64 sp, .int .i64 si, .int .i64 delta, .int .i64 id, .int .i64 grp, .int .i64 lo, .int .i64 hi, .int .i64 val, .slice la live.length lc, .slice da dirty.length dc, .int .i64 next] 36)).alloc (.cells #[.int .i64 lsn, .int .i64 kind, .int .i64 tx, .int .i64 prev, .int .i64 wp, .int .i64 wi, .int .i64 sp, .int .i64 si, .int .i64 delta, .int .i64 id, .int .i64 grp, .int .i64 lo, .int .i64 hi, .int .i64 val, .slice la' live.length lc', .slice da' dirty.length dc', .int .i64 next] 36)) := (alloc_below _ _).alloc (by simp) _
  have C0 : Cells ((w.alloc (.cells #[.int .i64 lsn, .int .i64 kind, .int .i64 tx, .int .i64 prev, .int .i64 wp, .int .i64 wi, .int .i64 sp, .int .i64 si, .int .i64 delta, .int .i64 id, .int .i64 grp, .int .i64 lo, .int .i64 hi, .int .i64 val, .slice la live.length lc, .slice da dirty.length dc, .int .i64 next] 36)).alloc (.cells #[.int .i64 lsn, .int .i64 kind, .int .i64 tx, .int .i64 prev, .int .i64 wp, .int .i64 wi, .int .i64 sp, .int .i64 si, .int .i64 delta, .int .i64 id, .int .i64 grp, .int .i64 lo, .int .i64 hi, .int .i64 val, .slice la' live.length lc', .slice da' dirty.length dc', .int .i64 next] 36)) w.heap.size [.int .i64 lsn, .int .i64 kind, .int .i64 tx, .int .i64 prev, .int .i64 wp, .int .i64 wi, .int .i64 sp, .int .i64 si, .int .i64 delta, .int .i64 id, .int .i64 grp, .int .i64 lo, .int .i64 hi, .int .i64 val, .slice la live.length lc, .slice da dirty.length dc, .int .i64 next] := (Cells.new _ _ _).below (alloc_below _ _)
  have D0 : Cells ((w.alloc (.cells #[.int .i64 lsn, .int .i64 kind, .int .i64 tx, .int .i64 prev, .int .i64 wp, .int .i64 wi, .int .i64 sp, .int .i64 si, .int .i64 delta, .int .i64 id, .int .i64 grp, .int .i64 lo, .int .i64 hi, .int .i64 val, .slice la live.length lc, .slice da dirty.length dc, .int .i64 next] 36)).alloc (.cells #[.int .i64 lsn, .int .i64 kind, .int .i64 tx, .int .i64 prev, .int .i64 wp, .int .i64 wi, .int .i64 sp, .int .i64 si, .int .i64 delta, .int .i64 id, .int .i64 grp, .int .i64 lo, .int .i64 hi, .int .i64 val, .slice la' live.length lc', .slice da' dirty.length dc', .int .i64 next] 36)) (w.heap.size + 1) [.int .i64 lsn, .int .i64 kind, .int .i64 tx, .int .i64 prev, .int .i64 wp, .int .i64 wi, .int .i64 sp, .int .i64 si, .int .i64 delta, .int .i64 id, .int .i64 grp, .int .i64 lo, .int .i64 hi, .int .i64 val, .slice la' live.length lc', .slice da' dirty.length dc', .int .i64 next] := by
    have := Cells.new (w.alloc (.cells #[.int .i64 lsn, .int .i64 kind, .int .i64 tx, .int .i64 prev, .int .i64 wp, .int .i64 wi, .int .i64 sp, .int .i64 si, .int .i64 delta, .int .i64 id, .int .i64 grp, .int .i64 lo, .int .i64 hi, .int .i64 val, .slice la live.length lc, .slice da dirty.length dc, .int .i64 next] 36)) #[.int .i64 lsn, .int .i64 kind, .int .i64 tx, .int .i64 prev, .int .i64 wp, .int .i64 wi, .int .i64 sp, .int .i64 si, .int .i64 delta, .int .i64 id, .int .i64 grp, .int .i64 lo, .int .i64 hi, .int .i64 val, .slice la' live.length lc', .slice da' dirty.length dc', .int .i64 next] 36
    simpa using this
  generalize hw0 : (w.alloc (.cells #[.int .i64 lsn, .int .i64 kind, .int .i64 tx, .int .i64 prev, .int .i64 wp, .int .i64 wi, .int .i64 sp, .int .i64 si, .int .i64 delta, .int .i64 id, .int .i64 grp, .int .i64 lo, .int .i64 hi, .int .i64 val, .slice la live.length lc, .slice da dirty.length dc, .int .i64 next] 36)).alloc (.cells #[.int .i64 lsn, .int .i64 kind, .int .i64 tx, .int .i64 prev, .int .i64 wp, .int .i64 wi, .int .i64 sp, .int .i64 si, .int .i64 delta, .int .i64 id, .int .i64 grp, .int .i64 lo, .int .i64 hi, .int .i64 val, .slice la' live.length lc', .slice da' dirty.length dc', .int .i64 next] 36) = w0 at *
  have HW0 := hide hw0
  have HB0 := hide B0
  have L1 := hide (hl.below B0)
  have L2 := hide (hl'.below B0)
  have D1 := hide (hd.below B0)
  have D2 := hide (hd'.below B0)
  clear hw0 hl hd hl' hd' B0
  go_enter Try.func10, Try.ntmps10
  go_upto_region 1 with fail
  rw [HW0.out]
  clear HW0
  generalize Value.agg #[.int .i64 lsn, .int .i64 kind, .int .i64 tx, .int .i64 prev, .int .i64 wp, .int .i64 wi, .int .i64 sp, .int .i64 si, .int .i64 delta, .int .i64 id, .int .i64 grp, .int .i64 lo, .int .i64 hi, .int .i64 val, .slice la live.length lc, .slice da dirty.length dc, .int .i64 next] = va
  generalize Value.agg #[.int .i64 lsn, .int .i64 kind, .int .i64 tx, .int .i64 prev, .int .i64 wp, .int .i64 wi, .int .i64 sp, .int .i64 si, .int .i64 delta, .int .i64 id, .int .i64 grp, .int .i64 lo, .int .i64 hi, .int .i64 val, .slice la' live.length lc', .slice da' dirty.length dc', .int .i64 next] = vb
  generalize w.heap.size + 1 = b1 at *
  have k0 := (C0.get 0 _ rfl).1
  have m0 := (D0.get 0 _ rfl).1
  have k1 := (C0.get 1 _ rfl).1
  have m1 := (D0.get 1 _ rfl).1
  have k2 := (C0.get 2 _ rfl).1
  have m2 := (D0.get 2 _ rfl).1
  have k3 := (C0.get 3 _ rfl).1
  have m3 := (D0.get 3 _ rfl).1
  have k4 := (C0.get 4 _ rfl).1
  have m4 := (D0.get 4 _ rfl).1
  have k5 := (C0.get 5 _ rfl).1
  have m5 := (D0.get 5 _ rfl).1
  have k6 := (C0.get 6 _ rfl).1
  have m6 := (D0.get 6 _ rfl).1
  have k7 := (C0.get 7 _ rfl).1
  have m7 := (D0.get 7 _ rfl).1
  have k8 := (C0.get 8 _ rfl).1
  have m8 := (D0.get 8 _ rfl).1
  have k9 := (C0.get 9 _ rfl).1
  have m9 := (D0.get 9 _ rfl).1
  have k10 := (C0.get 10 _ rfl).1
  have m10 := (D0.get 10 _ rfl).1
  have k11 := (C0.get 11 _ rfl).1
  have m11 := (D0.get 11 _ rfl).1
  have k12 := (C0.get 12 _ rfl).1
  have m12 := (D0.get 12 _ rfl).1
  have k13 := (C0.get 13 _ rfl).1
  have m13 := (D0.get 13 _ rfl).1
  have k14 := (C0.get 14 _ rfl).1
  have m14 := (D0.get 14 _ rfl).1
  have k15 := (C0.get 15 _ rfl).1
  have m15 := (D0.get 15 _ rfl).1
  have k16 := (C0.get 16 _ rfl).1
  have m16 := (D0.get 16 _ rfl).1
  have HC := hide C0
  have HD := hide D0
  clear C0 D0
  go_upto_region 5 with fail
  clear k0 m0 k1 m1 k2 m2 k3 m3 k4 m4 k5 m5 k6 m6 k7 m7 k8 m8 k9 m9 k10 m10 k11 m11 k12 m12 k13 m13 k14 m14 k15 m15 k16 m16
  go_wp2_with fail
  go_loopw [5] (fun i wr => ∃ k : Nat, i = .int .i64 (k : Int) ∧ k ≤ live.length ∧ Below w0.heap.size w0 wr) (fun i _ => (live.length + 1 - (intOf i).toNat))
  case atStart => exact ⟨0, rfl, Nat.zero_le _, Below.refl _ _⟩
  case round =>
    obtain ⟨k, rfl, hk, hb⟩ := hrel
    have k14 := ((HC.out.below hb).get 14 _ rfl).1
    have m14 := ((HD.out.below hb).get 14 _ rfl).1
    by_cases hlt : k < live.length
    · have hg1 : decide ((k : Int) < (live.length : Int)) = true := by simp; omega
      have hbw := hide hb
      obtain ⟨b, off, ea, hbl, x0, x1, x2, x3⟩ := (L1.out.below hb).liveAt k hlt
      obtain ⟨b', off', ea', hbl', y0, y1, y2, y3⟩ := (L2.out.below hb).liveAt k hlt
      subst ea ea'
      generalize live[k].tx = v0 at *
      generalize live[k].last = v1 at *
      generalize live[k].com = v2 at *
      generalize live[k].und = v3 at *
      clear hb
      go_upto_region 8 with fail
      go_quiet (fail)
      go_wp2_with fail
      go_roundw
      case rel => exact ⟨k + 1, by go_num, hlt, below_drewN hbw.out _⟩
      case measure => simp [intOf]; omega
    · have hg1 : decide ((k : Int) < (live.length : Int)) = false := by simp; omega
      have hb1 := hide hb
      go_wp2_with fail
      go_loopw [6] (fun i wr => ∃ k : Nat, i = .int .i64 (k : Int) ∧ k ≤ dirty.length ∧ Below w0.heap.size w0 wr) (fun i _ => (dirty.length + 1 - (intOf i).toNat))
      case atStart => exact ⟨0, rfl, Nat.zero_le _, hb1.out⟩
      case round =>
        obtain ⟨k, rfl, hk, hb⟩ := hrel
        have k15 := ((HC.out.below hb).get 15 _ rfl).1
        have m15 := ((HD.out.below hb).get 15 _ rfl).1
        by_cases hlt : k < dirty.length
        · have hg1 : decide ((k : Int) < (dirty.length : Int)) = true := by simp; omega
          have hbw := hide hb
          obtain ⟨b, off, ea, hbl, x0, x1⟩ := (D1.out.below hb).dirtyAt k hlt
          obtain ⟨b', off', ea', hbl', y0, y1⟩ := (D2.out.below hb).dirtyAt k hlt
          subst ea ea'
          generalize dirty[k].page = v0 at *
          generalize dirty[k].since = v1 at *
          clear hb
          go_upto_region 13 with fail
          go_quiet (fail)
          go_wp2_with fail
          go_roundw
          case rel => exact ⟨k + 1, by go_num, hlt, below_drewN hbw.out _⟩
          case measure => simp [intOf]; omega
        · have hg1 : decide ((k : Int) < (dirty.length : Int)) = false := by simp; omega
          go_wp2_with fail
          go_ret
          exact ⟨rfl, bnext HB0.out hb (Nat.le_refl _)⟩

end Go.Proofs.Ytlibldioliicfaa
