import Derived.Test.YtgpmghdoofcpaaaGreatG08
import Derived.Test.YtgpmghdoofcpaaaGreatG22
import Derived.Test.YtgpmghdoofcpaaaGreatDec5
import Derived.Test.YtgpmghdoofcpaaaGreatG24
namespace Go.Proofs.YtgpmghdoofcpaaaGreat
open Go.RowKit Go.QK

set_option maxRecDepth 100000
set_option maxHeartbeats 0 in
theorem mayBe_any (r : RecM) (la da : Option Addr) (lc dc : Nat) (w : World) (hl : Lies w la (liveCs r.live)) (hd : Lies w da (dirtyCs r.dirty)) (hk1 : 1 ≤ r.kind) (hk8 : r.kind ≤ 8) :
    Calls Tryz.prog 76 #[.agg (recC r la lc da dc)] w fun e w' => e = .returned (.bool (okB r)) ∧ Below w.heap.size w w' := by
  obtain ⟨lsn, kind, tx, prev, wp, wi, sp, si, delta, id, grp, lo, hi, val, live, dirty, next⟩ := r
  unfold okB
  simp only [recC] at *
  have g0 := fun w => fieldsOf_any kind hk1 hk8 w
  unfold hasC at g0
  generalize hTx kind = h1 at *
  generalize hPrev kind = h2 at *
  generalize hCtr kind = h3 at *
  generalize hFirst kind = h4 at *
  generalize hDelta kind = h5 at *
  generalize hPts kind = h6 at *
  have f0 := fun w => fromI_any 0 lsn 2147483647 w
  have f1 := fun w => ahead_any prev lsn w
  have f2 := fun w => oneOf_any h1 tx 2147483647 w
  have f3 := fun w => oneOf_any h2 prev 2147483647 w
  have f4 := fun w => slotsMay_any h3 wp wi sp si w
  have f5 := fun w => oneOf_any h3 id 1048576 w
  have f6 := fun w => firstMay_any h4 id grp lo hi val w
  have f7 := fun w a b => pointsMay_any h6 live dirty la da lc dc next lsn w a b
  generalize fromB 0 lsn 2147483647 = q0 at *
  generalize aheadB prev lsn = q1 at *
  generalize oneB h1 tx 2147483647 = q2 at *
  generalize oneB h2 prev 2147483647 = q3 at *
  generalize slotsB h3 wp wi sp si = q4 at *
  generalize oneB h3 id 1048576 = q5 at *
  generalize firstB h4 grp lo hi val = q6 at *
  generalize pointsB h6 live dirty next lsn = q7 at *
  have HL := hide hl
  have HD := hide hd
  clear hl hd
  have ed : decide (delta = 0) = (delta == 0) := rfl
  rw [ed]
  clear ed
  go_enter Tryz.func76, Tryz.ntmps76
  go_wp2_with fail
  generalize hw0 : w.alloc (.cells #[.int .i64 lsn, .int .i64 kind, .int .i64 tx, .int .i64 prev, .int .i64 wp, .int .i64 wi, .int .i64 sp, .int .i64 si, .int .i64 delta, .int .i64 id, .int .i64 grp, .int .i64 lo, .int .i64 hi, .int .i64 val, .slice la live.length lc, .slice da dirty.length dc, .int .i64 next] 44) = w0
  have b0 : Below w.heap.size w w0 := by rw [← hw0]; exact alloc_below _ _
  have C : Cells w0 w.heap.size [.int .i64 lsn, .int .i64 kind, .int .i64 tx, .int .i64 prev, .int .i64 wp, .int .i64 wi, .int .i64 sp, .int .i64 si, .int .i64 delta, .int .i64 id, .int .i64 grp, .int .i64 lo, .int .i64 hi, .int .i64 val, .slice la live.length lc, .slice da dirty.length dc, .int .i64 next] := by rw [← hw0]; exact Cells.new _ _ _
  clear hw0
  generalize Value.agg #[.int .i64 lsn, .int .i64 kind, .int .i64 tx, .int .i64 prev, .int .i64 wp, .int .i64 wi, .int .i64 sp, .int .i64 si, .int .i64 delta, .int .i64 id, .int .i64 grp, .int .i64 lo, .int .i64 hi, .int .i64 val, .slice la live.length lc, .slice da dirty.length dc, .int .i64 next] = ra
  refine (g0 _).mono ?_
  rintro e w1 ⟨rfl, b1⟩
  replace C := C.below b1
  have b2 := bnext b0 b1 (Nat.le_refl _)
  clear b0 b1 g0
  obtain ⟨c0, _⟩ := C.get 0 _ rfl
  have hlt := C.1
  have hne : ¬ (w.heap.size = w1.heap.size) := by omega
  go_wp2_with fail
  generalize hw2 : w1.alloc (.cells #[.bool h1, .bool h2, .bool h3, .bool h4, .bool h5, .bool h6] 158) = w2
  have D : Cells w2 w1.heap.size [.bool h1, .bool h2, .bool h3, .bool h4, .bool h5, .bool h6] := by rw [← hw2]; exact Cells.new _ _ _
  have b3 : Below w.heap.size w w2 := by rw [← hw2]; exact b2.alloc b2.size _
  replace C := C.below (alloc_below w1 (.cells #[.bool h1, .bool h2, .bool h3, .bool h4, .bool h5, .bool h6] 158))
  rw [hw2] at C
  clear c0 hw2 b2
  generalize Value.agg #[.bool h1, .bool h2, .bool h3, .bool h4, .bool h5, .bool h6] = ha
  have k0 := (C.get 0 _ rfl).1
  have k2 := (C.get 2 _ rfl).1
  have k3 := (C.get 3 _ rfl).1
  have k4 := (C.get 4 _ rfl).1
  have k5 := (C.get 5 _ rfl).1
  have k6 := (C.get 6 _ rfl).1
  have k7 := (C.get 7 _ rfl).1
  have k8 := (C.get 8 _ rfl).1
  have k9 := (C.get 9 _ rfl).1
  have k10 := (C.get 10 _ rfl).1
  have k11 := (C.get 11 _ rfl).1
  have k12 := (C.get 12 _ rfl).1
  have k13 := (C.get 13 _ rfl).1
  have k14 := (C.get 14 _ rfl).1
  have k15 := (C.get 15 _ rfl).1
  have k16 := (C.get 16 _ rfl).1
  have m0 := (D.get 0 _ rfl).1
  have m1 := (D.get 1 _ rfl).1
  have m2 := (D.get 2 _ rfl).1
  have m3 := (D.get 3 _ rfl).1
  have m4 := (D.get 4 _ rfl).1
  have m5 := (D.get 5 _ rfl).1
  refine (f0 _).mono ?_
  rintro e w' ⟨rfl, rfl⟩
  cases q0
  · clear C D HL HD f7 hne hlt f0 f1 f2 f3 f4 f5 f6 k0 k2 k3 k4 k5 k6 k7 k9 k10 k11 k12 k13 k14 k15 k16 m0 m1 m2 m3 m4 m5
    go_wp2_with fail
    all_goals go_ret
    all_goals exact ⟨by simp, b3⟩
  · clear f0
    go_wp2_with fail
    refine (f1 _).mono ?_
    rintro e w' ⟨rfl, rfl⟩
    cases q1
    · clear C D HL HD f7 hne hlt f1 f2 f3 f4 f5 f6 k0 k2 k3 k4 k5 k6 k7 k9 k10 k11 k12 k13 k14 k15 k16 m0 m1 m2 m3 m4 m5
      go_wp2_with fail
      all_goals go_ret
      all_goals exact ⟨by simp, b3⟩
    · clear f1
      go_wp2_with fail
      refine (f2 _).mono ?_
      rintro e w' ⟨rfl, rfl⟩
      cases q2
      · clear C D HL HD f7 hne hlt f2 f3 f4 f5 f6 k0 k2 k3 k4 k5 k6 k7 k9 k10 k11 k12 k13 k14 k15 k16 m0 m1 m2 m3 m4 m5
        go_wp2_with fail
        all_goals go_ret
        all_goals exact ⟨by simp, b3⟩
      · clear f2
        go_wp2_with fail
        refine (f3 _).mono ?_
        rintro e w' ⟨rfl, rfl⟩
        cases q3
        · clear C D HL HD f7 hne hlt f3 f4 f5 f6 k0 k2 k3 k4 k5 k6 k7 k9 k10 k11 k12 k13 k14 k15 k16 m0 m1 m2 m3 m4 m5
          go_wp2_with fail
          all_goals go_ret
          all_goals exact ⟨by simp, b3⟩
        · clear f3
          go_wp2_with fail
          refine (f4 _).mono ?_
          rintro e w3 ⟨rfl, by_⟩
          replace C := C.below by_
          replace D := D.below by_
          have b4 := bnext b3 by_ (Nat.le_refl _)
          clear by_ b3
          clear k0 k2 k3 k4 k5 k6 k7 k8 k9 k10 k11 k12 k13 k14 k15 k16 m0 m1 m2 m3 m4 m5
          have k0 := (C.get 0 _ rfl).1
          have k2 := (C.get 2 _ rfl).1
          have k3 := (C.get 3 _ rfl).1
          have k4 := (C.get 4 _ rfl).1
          have k5 := (C.get 5 _ rfl).1
          have k6 := (C.get 6 _ rfl).1
          have k7 := (C.get 7 _ rfl).1
          have k8 := (C.get 8 _ rfl).1
          have k9 := (C.get 9 _ rfl).1
          have k10 := (C.get 10 _ rfl).1
          have k11 := (C.get 11 _ rfl).1
          have k12 := (C.get 12 _ rfl).1
          have k13 := (C.get 13 _ rfl).1
          have k14 := (C.get 14 _ rfl).1
          have k15 := (C.get 15 _ rfl).1
          have k16 := (C.get 16 _ rfl).1
          have m0 := (D.get 0 _ rfl).1
          have m1 := (D.get 1 _ rfl).1
          have m2 := (D.get 2 _ rfl).1
          have m3 := (D.get 3 _ rfl).1
          have m4 := (D.get 4 _ rfl).1
          have m5 := (D.get 5 _ rfl).1
          cases q4
          · clear C D HL HD f7 hne hlt f4 f5 f6 k0 k2 k3 k4 k5 k6 k7 k9 k10 k11 k12 k13 k14 k15 k16 m0 m1 m2 m3 m4 m5
            go_wp2_with fail
            all_goals go_ret
            all_goals exact ⟨by simp, b4⟩
          · clear f4
            go_wp2_with fail
            refine (f5 _).mono ?_
            rintro e w' ⟨rfl, rfl⟩
            cases q5
            · clear C D HL HD f7 hne hlt f5 f6 k0 k2 k3 k4 k5 k6 k7 k9 k10 k11 k12 k13 k14 k15 k16 m0 m1 m2 m3 m4 m5
              go_wp2_with fail
              all_goals go_ret
              all_goals exact ⟨by simp, b4⟩
            · clear f5
              go_wp2_with fail
              refine (f6 _).mono ?_
              rintro e w4 ⟨rfl, by_⟩
              replace C := C.below by_
              replace D := D.below by_
              have b5 := bnext b4 by_ (Nat.le_refl _)
              clear by_ b4
              clear k0 k2 k3 k4 k5 k6 k7 k8 k9 k10 k11 k12 k13 k14 k15 k16 m0 m1 m2 m3 m4 m5
              have k0 := (C.get 0 _ rfl).1
              have k2 := (C.get 2 _ rfl).1
              have k3 := (C.get 3 _ rfl).1
              have k4 := (C.get 4 _ rfl).1
              have k5 := (C.get 5 _ rfl).1
              have k6 := (C.get 6 _ rfl).1
              have k7 := (C.get 7 _ rfl).1
              have k8 := (C.get 8 _ rfl).1
              have k9 := (C.get 9 _ rfl).1
              have k10 := (C.get 10 _ rfl).1
              have k11 := (C.get 11 _ rfl).1
              have k12 := (C.get 12 _ rfl).1
              have k13 := (C.get 13 _ rfl).1
              have k14 := (C.get 14 _ rfl).1
              have k15 := (C.get 15 _ rfl).1
              have k16 := (C.get 16 _ rfl).1
              have m0 := (D.get 0 _ rfl).1
              have m1 := (D.get 1 _ rfl).1
              have m2 := (D.get 2 _ rfl).1
              have m3 := (D.get 3 _ rfl).1
              have m4 := (D.get 4 _ rfl).1
              have m5 := (D.get 5 _ rfl).1
              cases q6
              · clear C D HL HD f7 hne hlt f6 k0 k2 k3 k4 k5 k6 k7 k9 k10 k11 k12 k13 k14 k15 k16 m0 m1 m2 m3 m4 m5
                go_wp2_with fail
                all_goals go_ret
                all_goals exact ⟨by simp, b5⟩
              · clear f6
                cases h5
                · cases hz : (delta == 0)
                  · go_wp2_with fail
                    go_ret
                    exact ⟨by rw [hz]; simp, b5⟩
                  · go_wp2_with fail
                    refine (f7 _ (HL.out.below b5) (HD.out.below b5)).mono ?_
                    rintro e wz ⟨rfl, bz⟩
                    clear k0
                    go_wp2_with fail
                    go_ret
                    exact ⟨by rw [hz]; simp, bnext b5 bz (Nat.le_refl _)⟩
                · go_wp2_with fail
                  refine (f7 _ (HL.out.below b5) (HD.out.below b5)).mono ?_
                  rintro e wz ⟨rfl, bz⟩
                  clear k0
                  go_wp2_with fail
                  go_ret
                  exact ⟨by simp, bnext b5 bz (Nat.le_refl _)⟩

theorem check_any (r : RecM) (la da : Option Addr) (lc dc : Nat) (w : World) (hl : Lies w la (liveCs r.live)) (hd : Lies w da (dirtyCs r.dirty)) :
    Calls Tryz.prog 39 #[.agg (recC r la lc da dc)] w fun e w' => e = .returned (.int .i64 ((chkE r : Nat) : Int)) ∧ Below w.heap.size w w' := by
  unfold chkE
  have f1 := fun w => fromK_any 1 r.kind 8 w
  have hk : fromB 1 r.kind 8 = true → 1 ≤ r.kind ∧ r.kind ≤ 8 := by unfold fromB; simp
  generalize fromB 1 r.kind 8 = q1 at *
  have f2 := fun w a b h h' => mayBe_any r la da lc dc w a b h h'
  generalize okB r = q2 at *
  obtain ⟨lsn, kind, tx, prev, wp, wi, sp, si, delta, id, grp, lo, hi, val, live, dirty, next⟩ := r
  simp only [recC] at *
  have HL := hide hl
  have HD := hide hd
  clear hl hd
  cases q1
  · go_enter Tryz.func39, Tryz.ntmps39
    go_wp2_with fail
    refine (f1 _).mono ?_
    rintro e w' ⟨rfl, rfl⟩
    go_wp2_with fail
    go_ret
    exact ⟨by simp, (by repeat (first | exact Below.refl _ _ | refine Below.alloc ?_ (by simp <;> omega) _ | refine Below.setCell ?_ (by simp <;> omega) _))⟩
  · obtain ⟨k1, k8⟩ := hk rfl
    go_enter Tryz.func39, Tryz.ntmps39
    go_wp2_with fail
    refine (f1 _).mono ?_
    rintro e w' ⟨rfl, rfl⟩
    go_wp2_with fail
    refine (f2 _ (HL.out.below (alloc_below _ _)) (HD.out.below (alloc_below _ _)) k1 k8).mono ?_
    rintro e w1 ⟨rfl, b1⟩
    have b2 := bnext (alloc_below w _) b1 (Nat.le_refl _)
    clear b1
    cases q2
    · go_wp2_with fail
      go_ret
      exact ⟨by simp, b2⟩
    · go_wp2_with fail
      go_ret
      exact ⟨by simp, b2⟩
end Go.Proofs.YtgpmghdoofcpaaaGreat

namespace Go.Proofs.YtgpmghdoofcpaaaGreat
open Go.RowKit Go.QK

theorem kindsN {k : Nat} (h1 : 1 ≤ k) (h8 : k ≤ 8) : k = 1 ∨ k = 2 ∨ (k = 3 ∨ k = 4) ∨ (k = 5 ∨ k = 6 ∨ k = 7) ∨ k = 8 := by omega
theorem read_any (kn : Nat) (p : Nat) (a : Option Addr) (c : Nat) (l : List Nat) (s : RS) (w : World) (h : Rds w p a c l s) (hk1 : 1 ≤ kn) (hk8 : kn ≤ 8) :
    Calls Tryz.prog 72 #[.pointer (some ⟨p, 0, none⟩), .int .i64 kn] w fun x w' => ∃ v, x = .returned v ∧ RSt w p a c l w' (readM kn l s).2 ∧ RecOut w.heap.size w' v (readM kn l s).1 := by
  rcases kindsN hk1 hk8 with q | q | q | q | q
  · exact read_pat1 kn p a c l s w h hk1 hk8 (by unfold hTx; rw [q]; rfl) (by unfold hPrev; rw [q]; rfl) (by unfold hCtr; rw [q]; rfl) (by unfold hFirst; rw [q]; rfl) (by unfold hDelta; rw [q]; rfl) (by unfold hPts; rw [q]; rfl)
  · exact read_pat2 kn p a c l s w h hk1 hk8 (by unfold hTx; rw [q]; rfl) (by unfold hPrev; rw [q]; rfl) (by unfold hCtr; rw [q]; rfl) (by unfold hFirst; rw [q]; rfl) (by unfold hDelta; rw [q]; rfl) (by unfold hPts; rw [q]; rfl)
  · exact read_pat3 kn p a c l s w h hk1 hk8 (by unfold hTx; rcases q with q | q <;> rw [q] <;> rfl) (by unfold hPrev; rcases q with q | q <;> rw [q] <;> rfl) (by unfold hCtr; rcases q with q | q <;> rw [q] <;> rfl) (by unfold hFirst; rcases q with q | q <;> rw [q] <;> rfl) (by unfold hDelta; rcases q with q | q <;> rw [q] <;> rfl) (by unfold hPts; rcases q with q | q <;> rw [q] <;> rfl)
  · exact read_pat5 kn p a c l s w h hk1 hk8 (by unfold hTx; rcases q with q | q | q <;> rw [q] <;> rfl) (by unfold hPrev; rcases q with q | q | q <;> rw [q] <;> rfl) (by unfold hCtr; rcases q with q | q | q <;> rw [q] <;> rfl) (by unfold hFirst; rcases q with q | q | q <;> rw [q] <;> rfl) (by unfold hDelta; rcases q with q | q | q <;> rw [q] <;> rfl) (by unfold hPts; rcases q with q | q | q <;> rw [q] <;> rfl)
  · exact read_pat8 kn p a c l s w h hk1 hk8 (by unfold hTx; rw [q]; rfl) (by unfold hPrev; rw [q]; rfl) (by unfold hCtr; rw [q]; rfl) (by unfold hFirst; rw [q]; rfl) (by unfold hDelta; rw [q]; rfl) (by unfold hPts; rw [q]; rfl)

theorem kindM_ok (l : List Nat) : (kindM l).1.2 = 0 → 1 ≤ (kindM l).1.1 ∧ (kindM l).1.1 ≤ 8 := by
  unfold kindM
  simp only
  intro h
  by_cases h1 : (uM 18446744073709551615 l ⟨0, 0⟩).2.e ≠ 0
  · rw [if_pos h1] at h; exact absurd h h1
  · rw [if_neg h1] at h ⊢
    by_cases h2 : 1 ≤ (uM 18446744073709551615 l ⟨0, 0⟩).1 ∧ (uM 18446744073709551615 l ⟨0, 0⟩).1 ≤ 8
    · rw [if_pos h2]; exact h2
    · rw [if_neg h2] at h; simp at h
theorem RecOut.mono {B B' : Nat} {w : World} {v : Value} {r : RecM} (h : RecOut B w v r) (hb : B' ≤ B) : RecOut B' w v r := by
  obtain ⟨la, da, lc, dc, e, h1, h2, h3⟩ := h
  exact ⟨la, da, lc, dc, e, GRow.mono h1 hb, GRow.mono h2 hb, h3⟩
theorem RecOut.keep {S : Nat → Prop} {B : Nat} {w w' : World} {v : Value} {r : RecM} (h : RecOut B w v r) (hk : Keep S w w') (hS : ∀ k, S k → k < B) : RecOut B w' v r := by
  obtain ⟨la, da, lc, dc, e, h1, h2, h3⟩ := h
  exact ⟨la, da, lc, dc, e, GRow.keep h1 hk (fun g q s => by have := hS g s; have := (World.ownsRow.lt h1 g q).1; omega), GRow.keep h2 hk (fun g q s => by have := hS g s; have := (World.ownsRow.lt h2 g q).1; omega), h3⟩
theorem RecOut.below {B : Nat} {w w' : World} {v : Value} {r : RecM} (h : RecOut B w v r) (hk : Below w.heap.size w w') : RecOut B w' v r := by
  obtain ⟨la, da, lc, dc, e, h1, h2, h3⟩ := h
  exact ⟨la, da, lc, dc, e, GRow.below h1 hk, GRow.below h2 hk, h3⟩
theorem RecOut.zero (B : Nat) (w : World) : RecOut B w (.agg #[.int .i64 0, .int .i64 0, .int .i64 0, .int .i64 0, .int .i64 0, .int .i64 0, .int .i64 0, .int .i64 0, .int .i64 0, .int .i64 0, .int .i64 0, .int .i64 0, .int .i64 0, .int .i64 0, .slice none 0 0, .slice none 0 0, .int .i64 0]) zeroR := ⟨none, none, 0, 0, rfl, World.ownsRow_nil _ _ _ _, World.ownsRow_nil _ _ _ _, nofun⟩

/-- What Decode holds: nothing below the base was touched; the reader; the result's block. -/
structure DSt (w : World) (p : Nat) (a : Option Addr) (c : Nat) (l : List Nat) (wi : World) (s : RS) : Prop where
  bel : Below w.heap.size w wi
  rd : Rds wi p a c l s
  bx : RBox wi w.heap.size 44 #[.int .i64 0, .int .i64 0, .int .i64 0, .int .i64 0, .int .i64 0, .int .i64 0, .int .i64 0, .int .i64 0, .int .i64 0, .int .i64 0, .int .i64 0, .int .i64 0, .int .i64 0, .int .i64 0, .slice none 0 0, .slice none 0 0, .int .i64 0]
  ps : w.heap.size < p
  ar : ∀ k, rS p a l k → w.heap.size < k
section
variable {w wi w' : World} {p : Nat} {a : Option Addr} {c : Nat} {l : List Nat} {s s' : RS}
theorem DSt.next (h : DSt w p a c l wi s) (r : RSt wi p a c l w' s') : DSt w p a c l w' s' :=
  ⟨h.bel.trans (r.keep.below h.bel.size (fun k hk q => by have := h.ps; have e : k = p := q; omega)), r.rd, h.bx.keep r.keep (fun q => by have := h.ps; have e : w.heap.size = p := q; omega), h.ps, h.ar⟩
theorem DSt.below (h : DSt w p a c l wi s) (r : Below wi.heap.size wi w') : DSt w p a c l w' s :=
  ⟨bnext h.bel r (Nat.le_refl _), Rd.below h.rd r, h.bx.below r, h.ps, h.ar⟩
theorem DSt.touch {S : Nat → Prop} (h : DSt w p a c l wi s) (k : Keep S wi w') (hS : ∀ k, S k → w.heap.size < k ∧ ¬ rS p a l k) : DSt w p a c l w' s :=
  ⟨h.bel.trans (k.below h.bel.size (fun j hj q => by have := (hS j q).1; omega)), Rd.keepS h.rd k (fun j q => (hS j q).2), h.bx.keep k (fun q => by have := (hS _ q).1; omega), h.ps, h.ar⟩
end

set_option maxRecDepth 100000
set_option maxHeartbeats 4000000 in
theorem decode_any (a0 : Option Addr) (l : List Nat) (cap : Nat) (w : World) (hs : Bytes w a0 l) (hc : l.length ≤ cap) (ha : a0 = none → cap = 0) (hl : l.length ≤ 140737488355328) (hb : AllB l) :
    Calls Tryz.prog 38 #[.slice a0 l.length cap] w fun e w' => ∃ v, e = .returned (.tuple #[v, .int .i64 (((decM l).2 : Nat) : Int)]) ∧ RecOut w.heap.size w' v (decM l).1 ∧ Below w.heap.size w w' := by
  have B0 := alloc_below w (.cells #[.int .i64 0, .int .i64 0, .int .i64 0, .int .i64 0, .int .i64 0, .int .i64 0, .int .i64 0, .int .i64 0, .int .i64 0, .int .i64 0, .int .i64 0, .int .i64 0, .int .i64 0, .int .i64 0, .slice none 0 0, .slice none 0 0, .int .i64 0] 44)
  have X0 := RBox.new w #[.int .i64 0, .int .i64 0, .int .i64 0, .int .i64 0, .int .i64 0, .int .i64 0, .int .i64 0, .int .i64 0, .int .i64 0, .int .i64 0, .int .i64 0, .int .i64 0, .int .i64 0, .int .i64 0, .slice none 0 0, .slice none 0 0, .int .i64 0] 44
  have hs0 := Seen.below hs B0
  generalize hw0 : w.alloc (.cells #[.int .i64 0, .int .i64 0, .int .i64 0, .int .i64 0, .int .i64 0, .int .i64 0, .int .i64 0, .int .i64 0, .int .i64 0, .int .i64 0, .int .i64 0, .int .i64 0, .int .i64 0, .int .i64 0, .slice none 0 0, .slice none 0 0, .int .i64 0] 44) = w0 at *
  have F1 := hide (newReader_any a0 l cap w0 hs0 hc ha hl hb)
  have F2 := hide (fun p a c w' h => readKind_s p a c l w' h)
  obtain ⟨dm, hdm⟩ : ∃ q, q = decM l := ⟨_, rfl⟩
  rw [← hdm]
  unfold decM at hdm
  have hkm := kindM_ok l
  generalize kindM l = km at *
  obtain ⟨⟨kn, ke⟩, s1⟩ := km
  simp only at hdm F2 hkm
  have HDM := hide hdm
  have lt0 := X0.lt
  have HX0 := hide X0
  have HB0 := hide B0
  clear hs hs0 hc ha hl hb hdm X0 B0
  go_enter Tryz.func38, Tryz.ntmps38
  go_wp2_with fail
  clear hw0
  refine F1.out.mono ?_
  rintro e w1 ⟨p, a, c, rfl, hp, hpa, hrd, b1⟩
  have D1 := hide (show DSt w p a c l w1 ⟨0, 0⟩ from ⟨bnext HB0.out b1 (Nat.le_refl _), hrd, HX0.out.below b1, by omega, by
    rintro k (rfl | ⟨hl, ad, q, rfl⟩)
    · omega
    · have := hpa ad q; omega⟩)
  clear hp hpa hrd b1 F1 HX0 HB0 lt0
  go_wp2_with fail
  refine (F2.out p a c _ D1.out.rd).mono ?_
  rintro e w2 ⟨rfl, r2⟩
  have D2 := hide (D1.out.next r2)
  clear r2 D1 F2
  by_cases hke : ke = 0
  · subst hke
    have hdm := HDM.out
    rw [if_neg (by simp)] at hdm
    unfold restM at hdm
    have hkn : 1 ≤ kn ∧ kn ≤ 8 := hkm rfl
    have D1S := hide D2.out.bx.lt
    have F3 := fun w' h => read_any kn p a c l s1 w' h hkn.1 hkn.2
    generalize readM kn l s1 = rm at hdm F3
    obtain ⟨r, s2⟩ := rm
    simp only at hdm F3
    have HDM := hide hdm
    have F3 := hide F3
    have z0 : ((0 : Nat) : Int) = 0 := rfl
    clear hdm
    go_wp2_with fail
    refine (F3.out _ D2.out.rd).mono ?_
    rintro e w3 ⟨v3, rfl, r3, o3⟩
    have D3 := D2.out.next r3
    have plt := D2.out.rd.1.1
    have sz2 := D2.out.bel.size
    obtain ⟨la, da, lc, dc, rfl, l3, d3, ld3⟩ := o3
    have LL := fun g q => (World.ownsRow.lt l3 g q)
    have DL := fun g q => (World.ownsRow.lt d3 g q)
    have l3 := GRow.mono l3 sz2
    have d3 := GRow.mono d3 sz2
    have rlt := fun k q => Rd.old D3.rd k q
    have l3' := GRow.below l3 (alloc_below w3 (.cells #[.int .i64 0, .int .i64 0, .int .i64 0, .int .i64 0, .int .i64 0, .int .i64 0, .int .i64 0, .int .i64 0, .int .i64 0, .int .i64 0, .int .i64 0, .int .i64 0, .int .i64 0, .int .i64 0, .slice none 0 0, .slice none 0 0, .int .i64 0] 44))
    have d3' := GRow.below d3 (alloc_below w3 (.cells #[.int .i64 0, .int .i64 0, .int .i64 0, .int .i64 0, .int .i64 0, .int .i64 0, .int .i64 0, .int .i64 0, .int .i64 0, .int .i64 0, .int .i64 0, .int .i64 0, .int .i64 0, .int .i64 0, .slice none 0 0, .slice none 0 0, .int .i64 0] 44))
    have D3' := D3.below (alloc_below w3 (.cells #[.int .i64 0, .int .i64 0, .int .i64 0, .int .i64 0, .int .i64 0, .int .i64 0, .int .i64 0, .int .i64 0, .int .i64 0, .int .i64 0, .int .i64 0, .int .i64 0, .int .i64 0, .int .i64 0, .slice none 0 0, .slice none 0 0, .int .i64 0] 44))
    have lt3 : w.heap.size < w3.heap.size := D3.bx.lt
    have C1 := fun w' a b => check_any r la da lc dc w' a b
    generalize chkE r = ce at *
    obtain ⟨q0, q1, q2, q3, q4, q5, q6, q7, q8, q9, q10, q11, q12, q13, q14, q15, q16⟩ := r
    simp only [recC] at *
    clear D2 r3 F3
    go_upto_region 6 with (refine wpList_store36 (RBox.new _ _ _) rfl rfl rfl rfl rfl ?_; intro w4 R4 hk4)
    have D4 := hide (D3'.touch hk4 (fun k q => ⟨by omega, fun r => by have := rlt k r; omega⟩))
    have L4 := hide (GRow.keep l3' hk4 (fun g q e => by have := (LL g q).2; omega))
    have DD4 := hide (GRow.keep d3' hk4 (fun g q e => by have := (DL g q).2; omega))
    have NE := hide (show ¬ w3.heap.size = p from fun q => by have := rlt p (.inl rfl); omega)
    have NL := hide (show ∀ g, (Value.slice la q14.length lc).ownBlock = some g → ¬ g = p from fun g q e => by have := (LL g q).1; omega)
    have ND := hide (show ∀ g, (Value.slice da q15.length dc).ownBlock = some g → ¬ g = p from fun g q e => by have := (DL g q).1; omega)
    have NL2 := hide (show ∀ g, (Value.slice la q14.length lc).ownBlock = some g → ¬ g = w.heap.size from fun g q e => by have := (LL g q).1; have := D1S.out; omega)
    have ND2 := hide (show ∀ g, (Value.slice da q15.length dc).ownBlock = some g → ¬ g = w.heap.size from fun g q e => by have := (DL g q).1; have := D1S.out; omega)
    have LD4 := hide ld3
    have R4 := hide R4
    generalize w3.heap.size = b3 at *
    clear l3 d3 l3' d3' D3 D3' LL DL rlt hk4 ld3 plt
    go_wp2_with fail
    refine (end_r p a c l s2 _ D4.out.rd).mono ?_
    rintro e w5 ⟨rfl, r5⟩
    have D5 := hide (D4.out.next r5)
    have R5 := hide (R4.out.keep r5.keep NE.out)
    have L5 := hide (GRow.keep L4.out r5.keep NL.out)
    have DD5 := hide (GRow.keep DD4.out r5.keep ND.out)
    clear r5 D4 R4 L4 DD4
    have F6 := hide (fun w' h => faultP_any p a c l ⟨s2.pos, endE l s2.pos s2.e⟩ w' h)
    simp only at F6
    generalize faultP s2.pos (endE l s2.pos s2.e) = fp at *
    generalize endE l s2.pos s2.e = ee at *
    go_wp2_with fail
    refine (F6.out _ D5.out.rd).mono ?_
    rintro e w6 ⟨rfl, r6⟩
    have D6 := hide (D5.out.next r6)
    have R6 := hide (R5.out.keep r6.keep NE.out)
    have L6 := hide (GRow.keep L5.out r6.keep NL.out)
    have DD6 := hide (GRow.keep DD5.out r6.keep ND.out)
    clear r6 D5 R5 L5 DD5 F6
    by_cases hee : ee = 0
    · subst hee
      obtain ⟨aL, cL, eL, lies1, _⟩ := GRow.lies L6.out
      obtain ⟨aD, cD, eD, lies2, _⟩ := GRow.lies DD6.out
      cases eL
      cases eD
      have C1 := hide (C1 w6 lies1 lies2)
      clear lies1 lies2
      go_wp2_with (refine wpList_load36 R6.out rfl rfl ?_)
      refine C1.out.mono ?_
      rintro e w7 ⟨rfl, b7⟩
      have D7 := hide (D6.out.below b7)
      have R7 := hide (R6.out.below b7)
      have L7 := hide (GRow.below L6.out b7)
      have DD7 := hide (GRow.below DD6.out b7)
      clear b7 D6 R6 L6 DD6 C1
      by_cases hce : ce = 0
      · subst hce
        have hd := HDM.out
        simp only [ne_eq, not_true_eq_false, if_false] at hd
        subst hd
        go_wp2_with (first | refine wpList_load36 R7.out rfl rfl ?_ | (refine wpList_store36 D7.out.bx rfl rfl rfl rfl rfl ?_; intro wf hbf hkf))
        exact bodyPost_ret (results_box2 rfl _ _ rfl hbf rfl) rfl ⟨_, rfl, ⟨la, da, lc, dc, rfl, GRow.keep L7.out hkf NL2.out, GRow.keep DD7.out hkf ND2.out, LD4.out⟩, D7.out.bel.trans (hkf.below D7.out.bel.size (fun k hk q => by omega))⟩
      · have hd := HDM.out
        simp only [ne_eq, not_true_eq_false, if_false, hce, not_false_eq_true, if_true] at hd
        subst hd
        have hce1 : ¬ ((ce : Int) = 0) := by omega
        go_wp2_with (refine wpList_store36 D7.out.bx rfl rfl rfl rfl rfl ?_; intro wf hbf hkf)
        exact bodyPost_ret (results_box2 rfl _ _ rfl hbf rfl) rfl ⟨_, rfl, RecOut.zero _ _, D7.out.bel.trans (hkf.below D7.out.bel.size (fun k hk q => by omega))⟩
    · have hd := HDM.out
      simp only [ne_eq, hee, not_false_eq_true, if_true] at hd
      subst hd
      have hee1 : ¬ ((ee : Int) = 0) := by omega
      go_wp2_with (refine wpList_store36 D6.out.bx rfl rfl rfl rfl rfl ?_; intro wf hbf hkf)
      exact bodyPost_ret (results_box2 rfl _ _ rfl hbf rfl) rfl ⟨_, rfl, RecOut.zero _ _, D6.out.bel.trans (hkf.below D6.out.bel.size (fun k hk q => by omega))⟩
  · have hd := HDM.out
    simp only [ne_eq, hke, not_false_eq_true, if_true] at hd
    subst hd
    have hke1 : ¬ ((ke : Int) = 0) := by omega
    go_wp2_with (refine wpList_store36 D2.out.bx rfl rfl rfl rfl rfl ?_; intro wf hbf hkf)
    exact bodyPost_ret (results_box2 rfl _ _ rfl hbf rfl) rfl ⟨_, rfl, RecOut.zero _ _, D2.out.bel.trans (hkf.below D2.out.bel.size (fun k hk q => by omega))⟩
end Go.Proofs.YtgpmghdoofcpaaaGreat
