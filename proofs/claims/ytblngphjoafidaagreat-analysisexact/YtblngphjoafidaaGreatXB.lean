import Derived.Test.YtblngphjoafidaaGreatAn24
import Derived.Test.YtblngphjoafidaaGreatAn12
import Derived.Laws.AppendOwnNone
import Derived.Deep.QuietTactic
import Derived.BigQuiet
import Derived.Deep.DeepCutAuto
import Derived.Great.BuildSlice
namespace Go.Proofs.YtblngphjoafidaaGreat
open Go.RowKit Go.QK Go.Maps Go.QM Go.QT
/-- The document's Run, whatever comes in. -/
theorem rrun_any (xs : List RX) (a : Option Addr) (n c : Nat) (point : Int) (w : World) (h : RecsAt w a xs) (hn : n = xs.length) (hm : n ≤ 1000000) (hnil : ∀ x ∈ xs, x.la = none → x.lc = 0) : Calls Tryz.prog 8 #[.slice a n c, .int .i64 point] w (RunPost w (rsOf xs) point) := by
  by_cases hF : faultE 1 (rsOf xs) = 0
  · cases hs : startP (rsOf xs) point with
    | none => exact rrun_place xs a n c point w h hn hm hF hs
    | some p0 => exact rrun_go xs a n c point w h hn hm hnil hF p0 hs
  · exact rrun_bad xs a n c point w h hn hm hF
end Go.Proofs.YtblngphjoafidaaGreat

set_option linter.all false
namespace Go.Proofs.YtblngphjoafidaaGreat
open Go.RowKit Go.QK Go.Maps Go.QM Go.QT
set_option maxRecDepth 100000
def RecOut (B : Nat) (w' : World) (x : Value) (r : RecM) : Prop :=
  ∃ (la da : Option Addr) (lc dc : Nat), x = .agg (recC r la lc da dc) ∧ GRow w' B 58 4 (.slice la r.live.length lc) r.live.length (liveCs r.live) ∧ GRow w' B 60 2 (.slice da r.dirty.length dc) r.dirty.length (dirtyCs r.dirty) ∧ (∀ g, (Value.slice la r.live.length lc).ownBlock = some g → (Value.slice da r.dirty.length dc).ownBlock ≠ some g)
theorem liveCs_one (ls : List LiveM) : ∀ u ∈ liveCs ls, u.oneCell' = true := by
  intro u hu
  obtain ⟨l, _, hl⟩ := List.mem_flatMap.1 hu
  simp only [liveC, List.mem_cons, List.not_mem_nil, or_false] at hl
  rcases hl with rfl | rfl | rfl | rfl <;> rfl
set_option maxHeartbeats 4000000 in
theorem Own_any (r : RecM) (la da : Option Addr) (lc dc : Nat) (w : World) (hl : Lies w la (liveCs r.live)) (hd : Lies w da (dirtyCs r.dirty)) (hla : la = none → lc = 0 ∧ r.live.length = 0) (hda : da = none → dc = 0 ∧ r.dirty.length = 0) (hn : r.live.length ≤ 1000000) (hm : r.dirty.length ≤ 1000000) :
    Calls Tryz.prog 14 #[.agg (recC r la lc da dc)] w fun e w' => ∃ v, e = .returned v ∧ RecOut w.heap.size w' v r ∧ Below w.heap.size w w' := by
  obtain ⟨lsn, kind, tx, prev, wp, wi, sp, si, delta, id, grp, lo, hi, val, live, dirty, next⟩ := r
  simp only [recC] at *
  have sz : (w.alloc (.cells #[.int .i64 lsn, .int .i64 kind, .int .i64 tx, .int .i64 prev, .int .i64 wp, .int .i64 wi, .int .i64 sp, .int .i64 si, .int .i64 delta, .int .i64 id, .int .i64 grp, .int .i64 lo, .int .i64 hi, .int .i64 val, .slice la live.length lc, .slice da dirty.length dc, .int .i64 next] 55)).heap.size = w.heap.size + 1 := by simp
  have R0 := (RBox.new w #[.int .i64 lsn, .int .i64 kind, .int .i64 tx, .int .i64 prev, .int .i64 wp, .int .i64 wi, .int .i64 sp, .int .i64 si, .int .i64 delta, .int .i64 id, .int .i64 grp, .int .i64 lo, .int .i64 hi, .int .i64 val, .slice la live.length lc, .slice da dirty.length dc, .int .i64 next] 55).below (alloc_below (w.alloc (.cells #[.int .i64 lsn, .int .i64 kind, .int .i64 tx, .int .i64 prev, .int .i64 wp, .int .i64 wi, .int .i64 sp, .int .i64 si, .int .i64 delta, .int .i64 id, .int .i64 grp, .int .i64 lo, .int .i64 hi, .int .i64 val, .slice la live.length lc, .slice da dirty.length dc, .int .i64 next] 55)) (.cells #[.int .i64 0, .int .i64 0, .int .i64 0, .int .i64 0, .int .i64 0, .int .i64 0, .int .i64 0, .int .i64 0, .int .i64 0, .int .i64 0, .int .i64 0, .int .i64 0, .int .i64 0, .int .i64 0, .slice none 0 0, .slice none 0 0, .int .i64 0] 55))
  have Z0 := RBox.new (w.alloc (.cells #[.int .i64 lsn, .int .i64 kind, .int .i64 tx, .int .i64 prev, .int .i64 wp, .int .i64 wi, .int .i64 sp, .int .i64 si, .int .i64 delta, .int .i64 id, .int .i64 grp, .int .i64 lo, .int .i64 hi, .int .i64 val, .slice la live.length lc, .slice da dirty.length dc, .int .i64 next] 55)) #[.int .i64 0, .int .i64 0, .int .i64 0, .int .i64 0, .int .i64 0, .int .i64 0, .int .i64 0, .int .i64 0, .int .i64 0, .int .i64 0, .int .i64 0, .int .i64 0, .int .i64 0, .int .i64 0, .slice none 0 0, .slice none 0 0, .int .i64 0] 55
  rw [sz] at Z0
  have B0 := bnext (alloc_below w (.cells #[.int .i64 lsn, .int .i64 kind, .int .i64 tx, .int .i64 prev, .int .i64 wp, .int .i64 wi, .int .i64 sp, .int .i64 si, .int .i64 delta, .int .i64 id, .int .i64 grp, .int .i64 lo, .int .i64 hi, .int .i64 val, .slice la live.length lc, .slice da dirty.length dc, .int .i64 next] 55)) (alloc_below (w.alloc (.cells #[.int .i64 lsn, .int .i64 kind, .int .i64 tx, .int .i64 prev, .int .i64 wp, .int .i64 wi, .int .i64 sp, .int .i64 si, .int .i64 delta, .int .i64 id, .int .i64 grp, .int .i64 lo, .int .i64 hi, .int .i64 val, .slice la live.length lc, .slice da dirty.length dc, .int .i64 next] 55)) (.cells #[.int .i64 0, .int .i64 0, .int .i64 0, .int .i64 0, .int .i64 0, .int .i64 0, .int .i64 0, .int .i64 0, .int .i64 0, .int .i64 0, .int .i64 0, .int .i64 0, .int .i64 0, .int .i64 0, .slice none 0 0, .slice none 0 0, .int .i64 0] 55)) (Nat.le_refl _)
  generalize hw0 : (w.alloc (.cells #[.int .i64 lsn, .int .i64 kind, .int .i64 tx, .int .i64 prev, .int .i64 wp, .int .i64 wi, .int .i64 sp, .int .i64 si, .int .i64 delta, .int .i64 id, .int .i64 grp, .int .i64 lo, .int .i64 hi, .int .i64 val, .slice la live.length lc, .slice da dirty.length dc, .int .i64 next] 55)).alloc (.cells #[.int .i64 0, .int .i64 0, .int .i64 0, .int .i64 0, .int .i64 0, .int .i64 0, .int .i64 0, .int .i64 0, .int .i64 0, .int .i64 0, .int .i64 0, .int .i64 0, .int .i64 0, .int .i64 0, .slice none 0 0, .slice none 0 0, .int .i64 0] 55) = w0 at *
  have HW0 := hide hw0
  have L0 := hide (hl.below B0)
  have HD := hide hd
  have R0 := hide R0
  have Z0 := hide Z0
  have B0 := hide B0
  clear hw0 sz hl hd
  go_enter Tryz.func14, Tryz.ntmps14
  go_upto_region 1 with fail
  rw [HW0.out]
  clear HW0
  generalize Value.agg #[.int .i64 lsn, .int .i64 kind, .int .i64 tx, .int .i64 prev, .int .i64 wp, .int .i64 wi, .int .i64 sp, .int .i64 si, .int .i64 delta, .int .i64 id, .int .i64 grp, .int .i64 lo, .int .i64 hi, .int .i64 val, .slice la live.length lc, .slice da dirty.length dc, .int .i64 next] = va
  have k14 := (R0.out.cells.get 14 _ rfl).1
  have z14 := (R0.out.cells.get 14 _ rfl).2
  have hb0 := Z0.out.lt
  have N1 := World.ownsRow_nil w0 w0.heap.size 58 4
  go_wp2_with (at_builtin; refine wpList_appR Tryz.underlying31 info26 rfl (by decide) (by decide) rfl (.const (.slice none 0 0)) (.tmp 5) rfl w0.heap.size (.slice none 0 0) 0 [] rfl N1 la live.length lc (liveCs live) rfl (by rw [liveCs_length]; omega) L0.out (liveCs_one live) hla (by omega) (Nat.le_refl _) ?_)
  intro v1 w1 r1 hg1 hv1
  have b1 : Below w0.heap.size w0 w1 := (Below.refl _ _).grown hg1 (Nat.le_refl _) nofun
  (try rw [Nat.zero_add] at r1)
  (try rw [List.nil_append] at r1)
  have lt1 := fun g q => (World.ownsRow.lt r1 g q).1
  obtain ⟨a1, k1, e1, _⟩ := GRow.lies r1
  rw [e1] at r1 lt1 hv1 ⊢
  have R1 := R0.out.below b1
  have Z1 := Z0.out.below b1
  have B1 := bnext B0.out b1 (Nat.le_refl _)
  have q14 := (R1.cells.get 14 _ rfl).1
  have f14 := (R1.cells.get 14 _ rfl).2
  have kk1 : Keep (fun k => k = w.heap.size) w1 (w1.setCell ⟨w.heap.size, 14, none⟩ (.slice a1 live.length k1)) := (Keep.refl (fun k => k = w.heap.size) w1).setCell (fun _ => rfl) _
  have R2 := R1.setCell 14 (.slice a1 live.length k1)
  simp only [List.setIfInBounds_toArray, List.set_cons_zero, List.set_cons_succ] at R2
  have rr1 := GRow.keep r1 kk1 (fun g q e => by have := lt1 g q; omega)
  have Z2 := Z1.keep kk1 (by omega)
  have B2 := B1.trans (kk1.below B1.size (fun k hk q => by omega))
  have R2 := hide R2
  have Z2 := hide Z2
  have B2 := hide B2
  have D2 := hide (HD.out.below B2.out)
  have RR1 := hide rr1
  have LT1 := hide lt1
  have hsz : w0.heap.size ≤ w1.heap.size := b1.size
  clear k14 z14 hg1 hv1 b1 r1 R1 Z1 B1 kk1 rr1 lt1 R0 Z0 B0 L0 N1
  go_upto_region 2 with fail
  generalize hw2 : w1.setCell ⟨w.heap.size, 14, none⟩ (.slice a1 live.length k1) = w2 at *
  have hsz2 : w2.heap.size = w1.heap.size := by rw [← hw2]; simp
  clear hw2 q14 f14 e1
  have k15 := (R2.out.cells.get 15 _ rfl).1
  have z15 := (R2.out.cells.get 15 _ rfl).2
  have N2 := World.ownsRow_nil w2 w2.heap.size 60 2
  go_wp2_with (at_builtin; refine wpList_appR Tryz.underlying32 info52 rfl (by decide) (by decide) rfl (.const (.slice none 0 0)) (.tmp 11) rfl w2.heap.size (.slice none 0 0) 0 [] rfl N2 da dirty.length dc (dirtyCs dirty) rfl (by rw [dirtyCs_length]; omega) D2.out (dirtyCs_one dirty) hda (by omega) (Nat.le_refl _) ?_)
  intro v3 w3 r3 hg3 hv3
  have b3 : Below w2.heap.size w2 w3 := (Below.refl _ _).grown hg3 (Nat.le_refl _) nofun
  (try rw [Nat.zero_add] at r3)
  (try rw [List.nil_append] at r3)
  have lt3 := fun g q => (World.ownsRow.lt r3 g q).1
  obtain ⟨a2, k2, e3, _⟩ := GRow.lies r3
  rw [e3] at r3 lt3 hv3 ⊢
  have R3 := R2.out.below b3
  have Z3 := Z2.out.below b3
  have B3 := bnext B2.out b3 (Nat.le_refl _)
  have RR3 := GRow.below RR1.out b3
  have RLT := fun g q => (World.ownsRow.lt RR1.out g q).2
  have q15 := (R3.cells.get 15 _ rfl).1
  have f15 := (R3.cells.get 15 _ rfl).2
  have kk3 : Keep (fun k => k = w.heap.size) w3 (w3.setCell ⟨w.heap.size, 15, none⟩ (.slice a2 dirty.length k2)) := (Keep.refl (fun k => k = w.heap.size) w3).setCell (fun _ => rfl) _
  have R4 := R3.setCell 15 (.slice a2 dirty.length k2)
  simp only [List.setIfInBounds_toArray, List.set_cons_zero, List.set_cons_succ] at R4
  have rl4 := hide (GRow.keep RR3 kk3 (fun g q e => by have := LT1.out g q; omega))
  have rd4 := hide (GRow.keep r3 kk3 (fun g q e => by have := lt3 g q; omega))
  have Z4 := hide (Z3.keep kk3 (by omega))
  have B4 := hide (B3.trans (kk3.below B3.size (fun k hk q => by omega)))
  have R4 := hide R4
  have LD := hide (show ∀ g, (Value.slice a1 live.length k1).ownBlock = some g → (Value.slice a2 dirty.length k2).ownBlock ≠ some g from fun g q e => by have := RLT g q; have := lt3 g e; omega)
  have G1 := hide (show ∀ g, (Value.slice a1 live.length k1).ownBlock = some g → ¬ g = w.heap.size + 1 from fun g q e => by have := LT1.out g q; omega)
  have G2 := hide (show ∀ g, (Value.slice a2 dirty.length k2).ownBlock = some g → ¬ g = w.heap.size + 1 from fun g q e => by have := lt3 g q; omega)
  have BASE := hide (show w.heap.size ≤ w0.heap.size ∧ w.heap.size ≤ w2.heap.size by omega)
  clear k15 z15 hg3 hv3 b3 r3 R3 Z3 B3 kk3 RR3 lt3 R2 Z2 B2 D2 RR1 LT1 RLT N2
  go_upto_region 3 with fail
  generalize w3.setCell ⟨w.heap.size, 15, none⟩ (.slice a2 dirty.length k2) = w4 at *
  clear q15 f15 e3
  go_wp2_with (first | refine wpList_load36 R4.out rfl rfl ?_ | (refine wpList_store36 Z4.out rfl rfl rfl rfl rfl ?_; intro wf hbf hkf))
  exact bodyPost_ret (results_box55 rfl _ _ rfl hbf rfl) rfl ⟨_, rfl, ⟨a1, a2, k1, k2, rfl, GRow.mono (GRow.keep rl4.out hkf G1.out) (by have := BASE.out; omega), GRow.mono (GRow.keep rd4.out hkf G2.out) (by have := BASE.out; omega), LD.out⟩, B4.out.trans (hkf.below B4.out.size (fun k hk q => by omega))⟩
end Go.Proofs.YtblngphjoafidaaGreat

set_option linter.all false
namespace Go.Proofs.YtblngphjoafidaaGreat
open Go.RowKit Go.QK Go.Maps Go.QM Go.QT
set_option maxRecDepth 100000
set_option maxHeartbeats 8000000 in
theorem Same_true (r : RecM) (la da la' da' : Option Addr) (lc dc lc' dc' : Nat) (w : World) (hl : Lies w la (liveCs r.live)) (hd : Lies w da (dirtyCs r.dirty)) (hl' : Lies w la' (liveCs r.live)) (hd' : Lies w da' (dirtyCs r.dirty)) (hn1 : r.live.length ≤ 1000000) (hn2 : r.dirty.length ≤ 1000000) :
    Calls Tryz.prog 26 #[.agg (recC r la lc da dc), .agg (recC r la' lc' da' dc')] w fun e w' => e = .returned (.bool true) ∧ Below w.heap.size w w' := by
  obtain ⟨lsn, kind, tx, prev, wp, wi, sp, si, delta, id, grp, lo, hi, val, live, dirty, next⟩ := r
  simp only [recC] at *
  have B0 : Below w.heap.size w ((w.alloc (.cells #[.int .i64 lsn, .int .i64 kind, .int .i64 tx, .int .i64 prev, .int .i64 wp, .int .i64 wi, .int .i64 sp, .int .i64 si, .int .i64 delta, .int .i64 id, .int .i64 grp, .int .i64 lo, .int .i64 hi, .int .i64 val, .slice la live.length lc, .slice da dirty.length dc, .int .i64 next] 55)).alloc (.cells #[.int .i64 lsn, .int .i64 kind, .int .i64 tx, .int .i64 prev, .int .i64 wp, .int .i64 wi, .int .i64 sp, .int .i64 si, .int .i64 delta, .int .i64 id, .int .i64 grp, .int .i64 lo, .int .i64 hi, .int .i64 val, .slice la' live.length lc', .slice da' dirty.length dc', .int .i64 next] 55)) := (alloc_below _ _).alloc (by simp) _
  have C0 : Cells ((w.alloc (.cells #[.int .i64 lsn, .int .i64 kind, .int .i64 tx, .int .i64 prev, .int .i64 wp, .int .i64 wi, .int .i64 sp, .int .i64 si, .int .i64 delta, .int .i64 id, .int .i64 grp, .int .i64 lo, .int .i64 hi, .int .i64 val, .slice la live.length lc, .slice da dirty.length dc, .int .i64 next] 55)).alloc (.cells #[.int .i64 lsn, .int .i64 kind, .int .i64 tx, .int .i64 prev, .int .i64 wp, .int .i64 wi, .int .i64 sp, .int .i64 si, .int .i64 delta, .int .i64 id, .int .i64 grp, .int .i64 lo, .int .i64 hi, .int .i64 val, .slice la' live.length lc', .slice da' dirty.length dc', .int .i64 next] 55)) w.heap.size [.int .i64 lsn, .int .i64 kind, .int .i64 tx, .int .i64 prev, .int .i64 wp, .int .i64 wi, .int .i64 sp, .int .i64 si, .int .i64 delta, .int .i64 id, .int .i64 grp, .int .i64 lo, .int .i64 hi, .int .i64 val, .slice la live.length lc, .slice da dirty.length dc, .int .i64 next] := (Cells.new _ _ _).below (alloc_below _ _)
  have D0 : Cells ((w.alloc (.cells #[.int .i64 lsn, .int .i64 kind, .int .i64 tx, .int .i64 prev, .int .i64 wp, .int .i64 wi, .int .i64 sp, .int .i64 si, .int .i64 delta, .int .i64 id, .int .i64 grp, .int .i64 lo, .int .i64 hi, .int .i64 val, .slice la live.length lc, .slice da dirty.length dc, .int .i64 next] 55)).alloc (.cells #[.int .i64 lsn, .int .i64 kind, .int .i64 tx, .int .i64 prev, .int .i64 wp, .int .i64 wi, .int .i64 sp, .int .i64 si, .int .i64 delta, .int .i64 id, .int .i64 grp, .int .i64 lo, .int .i64 hi, .int .i64 val, .slice la' live.length lc', .slice da' dirty.length dc', .int .i64 next] 55)) (w.heap.size + 1) [.int .i64 lsn, .int .i64 kind, .int .i64 tx, .int .i64 prev, .int .i64 wp, .int .i64 wi, .int .i64 sp, .int .i64 si, .int .i64 delta, .int .i64 id, .int .i64 grp, .int .i64 lo, .int .i64 hi, .int .i64 val, .slice la' live.length lc', .slice da' dirty.length dc', .int .i64 next] := by
    have := Cells.new (w.alloc (.cells #[.int .i64 lsn, .int .i64 kind, .int .i64 tx, .int .i64 prev, .int .i64 wp, .int .i64 wi, .int .i64 sp, .int .i64 si, .int .i64 delta, .int .i64 id, .int .i64 grp, .int .i64 lo, .int .i64 hi, .int .i64 val, .slice la live.length lc, .slice da dirty.length dc, .int .i64 next] 55)) #[.int .i64 lsn, .int .i64 kind, .int .i64 tx, .int .i64 prev, .int .i64 wp, .int .i64 wi, .int .i64 sp, .int .i64 si, .int .i64 delta, .int .i64 id, .int .i64 grp, .int .i64 lo, .int .i64 hi, .int .i64 val, .slice la' live.length lc', .slice da' dirty.length dc', .int .i64 next] 55
    simpa using this
  generalize hw0 : (w.alloc (.cells #[.int .i64 lsn, .int .i64 kind, .int .i64 tx, .int .i64 prev, .int .i64 wp, .int .i64 wi, .int .i64 sp, .int .i64 si, .int .i64 delta, .int .i64 id, .int .i64 grp, .int .i64 lo, .int .i64 hi, .int .i64 val, .slice la live.length lc, .slice da dirty.length dc, .int .i64 next] 55)).alloc (.cells #[.int .i64 lsn, .int .i64 kind, .int .i64 tx, .int .i64 prev, .int .i64 wp, .int .i64 wi, .int .i64 sp, .int .i64 si, .int .i64 delta, .int .i64 id, .int .i64 grp, .int .i64 lo, .int .i64 hi, .int .i64 val, .slice la' live.length lc', .slice da' dirty.length dc', .int .i64 next] 55) = w0 at *
  have HW0 := hide hw0
  have HB0 := hide B0
  have L1 := hide (hl.below B0)
  have L2 := hide (hl'.below B0)
  have D1 := hide (hd.below B0)
  have D2 := hide (hd'.below B0)
  clear hw0 hl hd hl' hd' B0
  go_enter Tryz.func26, Tryz.ntmps26
  go_upto_region 1 with fail
  rw [HW0.out]
  clear HW0
  generalize Value.agg #[.int .i64 lsn, .int .i64 kind, .int .i64 tx, .int .i64 prev, .int .i64 wp, .int .i64 wi, .int .i64 sp, .int .i64 si, .int .i64 delta, .int .i64 id, .int .i64 grp, .int .i64 lo, .int .i64 hi, .int .i64 val, .slice la live.length lc, .slice da dirty.length dc, .int .i64 next] = va
  generalize Value.agg #[.int .i64 lsn, .int .i64 kind, .int .i64 tx, .int .i64 prev, .int .i64 wp, .int .i64 wi, .int .i64 sp, .int .i64 si, .int .i64 delta, .int .i64 id, .int .i64 grp, .int .i64 lo, .int .i64 hi, .int .i64 val, .slice la' live.length lc', .slice da' dirty.length dc', .int .i64 next] = vb
  generalize w.heap.size + 1 = b1 at *
  have k0 := (C0.get 0 _ rfl).1
  have m0 := (D0.get 0 _ rfl).1
  have k1 := (C0.get 1 _ rfl).1
  have m1 := (D0.get 1 _ rfl).1
  have k2 := (C0.get 2 _ rfl).1
  have m2 := (D0.get 2 _ rfl).1
  have k3 := (C0.get 3 _ rfl).1
  have m3 := (D0.get 3 _ rfl).1
  have k4 := (C0.get 4 _ rfl).1
  have m4 := (D0.get 4 _ rfl).1
  have k5 := (C0.get 5 _ rfl).1
  have m5 := (D0.get 5 _ rfl).1
  have k6 := (C0.get 6 _ rfl).1
  have m6 := (D0.get 6 _ rfl).1
  have k7 := (C0.get 7 _ rfl).1
  have m7 := (D0.get 7 _ rfl).1
  have k8 := (C0.get 8 _ rfl).1
  have m8 := (D0.get 8 _ rfl).1
  have k9 := (C0.get 9 _ rfl).1
  have m9 := (D0.get 9 _ rfl).1
  have k10 := (C0.get 10 _ rfl).1
  have m10 := (D0.get 10 _ rfl).1
  have k11 := (C0.get 11 _ rfl).1
  have m11 := (D0.get 11 _ rfl).1
  have k12 := (C0.get 12 _ rfl).1
  have m12 := (D0.get 12 _ rfl).1
  have k13 := (C0.get 13 _ rfl).1
  have m13 := (D0.get 13 _ rfl).1
  have k14 := (C0.get 14 _ rfl).1
  have m14 := (D0.get 14 _ rfl).1
  have k15 := (C0.get 15 _ rfl).1
  have m15 := (D0.get 15 _ rfl).1
  have k16 := (C0.get 16 _ rfl).1
  have m16 := (D0.get 16 _ rfl).1
  have HC := hide C0
  have HD := hide D0
  clear C0 D0
  go_upto_region 5 with fail
  clear k0 m0 k1 m1 k2 m2 k3 m3 k4 m4 k5 m5 k6 m6 k7 m7 k8 m8 k9 m9 k10 m10 k11 m11 k12 m12 k13 m13 k14 m14 k15 m15 k16 m16
  go_wp2_with fail
  go_loopw [5] (fun i wr => ∃ k : Nat, i = .int .i64 (k : Int) ∧ k ≤ live.length ∧ Below w0.heap.size w0 wr) (fun i _ => (live.length + 1 - (intOf i).toNat))
  case atStart => exact ⟨0, rfl, Nat.zero_le _, Below.refl _ _⟩
  case round =>
    obtain ⟨k, rfl, hk, hb⟩ := hrel
    have k14 := ((HC.out.below hb).get 14 _ rfl).1
    have m14 := ((HD.out.below hb).get 14 _ rfl).1
    by_cases hlt : k < live.length
    · have hg1 : decide ((k : Int) < (live.length : Int)) = true := by simp; omega
      have hbw := hide hb
      obtain ⟨b, off, ea, hbl, x0, x1, x2, x3⟩ := (L1.out.below hb).liveAt k hlt
      obtain ⟨b', off', ea', hbl', y0, y1, y2, y3⟩ := (L2.out.below hb).liveAt k hlt
      subst ea ea'
      generalize live[k].tx = v0 at *
      generalize live[k].last = v1 at *
      generalize live[k].com = v2 at *
      generalize live[k].und = v3 at *
      clear hb
      go_upto_region 8 with fail
      go_quiet (fail)
      go_wp2_with fail
      go_roundw
      case rel => exact ⟨k + 1, by go_num, hlt, below_drewN hbw.out _⟩
      case measure => simp [intOf]; omega
    · have hg1 : decide ((k : Int) < (live.length : Int)) = false := by simp; omega
      have hb1 := hide hb
      go_wp2_with fail
      go_loopw [6] (fun i wr => ∃ k : Nat, i = .int .i64 (k : Int) ∧ k ≤ dirty.length ∧ Below w0.heap.size w0 wr) (fun i _ => (dirty.length + 1 - (intOf i).toNat))
      case atStart => exact ⟨0, rfl, Nat.zero_le _, hb1.out⟩
      case round =>
        obtain ⟨k, rfl, hk, hb⟩ := hrel
        have k15 := ((HC.out.below hb).get 15 _ rfl).1
        have m15 := ((HD.out.below hb).get 15 _ rfl).1
        by_cases hlt : k < dirty.length
        · have hg1 : decide ((k : Int) < (dirty.length : Int)) = true := by simp; omega
          have hbw := hide hb
          obtain ⟨b, off, ea, hbl, x0, x1⟩ := (D1.out.below hb).dirtyAt k hlt
          obtain ⟨b', off', ea', hbl', y0, y1⟩ := (D2.out.below hb).dirtyAt k hlt
          subst ea ea'
          generalize dirty[k].page = v0 at *
          generalize dirty[k].since = v1 at *
          clear hb
          go_upto_region 13 with fail
          go_quiet (fail)
          go_wp2_with fail
          go_roundw
          case rel => exact ⟨k + 1, by go_num, hlt, below_drewN hbw.out _⟩
          case measure => simp [intOf]; omega
        · have hg1 : decide ((k : Int) < (dirty.length : Int)) = false := by simp; omega
          go_wp2_with fail
          go_ret
          exact ⟨rfl, bnext HB0.out hb (Nat.le_refl _)⟩

end Go.Proofs.YtblngphjoafidaaGreat

set_option linter.all false
namespace Go.Proofs.YtblngphjoafidaaGreat
open Go.RowKit Go.QK Go.Maps Go.QM Go.QT
set_option maxRecDepth 100000
theorem run_push46 (ty : TypeId) (x : World) (B : Nat) (v : Value) (n : Nat) (xs : List Value) (hown : GRow x B 55 17 v n xs) (ad : Addr) (m c : Nat) (news : List Value) (hl : news.length = m * 17) (hnews : Lies x (some ad) news) (h1 : ∀ u ∈ news, u.oneCell' = true) (h63 : n + m ≤ 200000) (hB : B ≤ x.heap.size) :
    ∃ v' x', (Builtin.append_ #[22, 22] ty #[v, .slice (some ad) m c]).run Tryz.prog x = .ok v' x' ∧ GRow x' B 55 17 v' (n + m) (xs ++ news) ∧ x.grownBy x' v.ownBlock ∧ (v'.ownBlock = v.ownBlock ∨ v'.ownBlock = some x.heap.size) := by
  obtain ⟨i0, hi, h0, h2, h3⟩ := info_of info46
  obtain ⟨v', w', hr, q2, q3, q4, q5⟩ := run_append_own_at (P := Tryz.prog) x B 22 ty 55 i0 _ 17 168 Tryz.underlying22 hi h0 h2 h3 rfl (by decide) v n xs hown ad m c news hl
    (by
      intro j u hj
      obtain ⟨b, off, e1, _, hc⟩ := hnews.cellAt j u hj
      cases e1
      rw [addr_add]
      exact hc) h1 (by unfold maxLen; omega) (by omega) hB
  exact ⟨v', w', hr, q2, q3, q5⟩
theorem lies_rx (w : World) (x : RX) : Lies (w.alloc (.cells (rxA x) 55)) (some ⟨w.heap.size, 0, none⟩) (rowsC rxC [x]) := by
  have h := Cells.new w (rxA x) 55
  have e : rowsC rxC [x] = (rxA x).toList := by simp [rowsC, rxC]
  rw [e]
  refine .inr ⟨w.heap.size, 0, rfl, h.1, fun i hi => ?_⟩
  have q := (h.2 i hi).1
  rw [Nat.zero_add]
  exact q
theorem rx_one (x : RX) : ∀ u ∈ rowsC rxC [x], u.oneCell' = true := by
  have e : rowsC rxC [x] = (rxA x).toList := by simp [rowsC, rxC]
  rw [e]
  have := rxA_one x
  simpa [List.all_eq_true] using this
theorem fill46 (x : RX) : Instr.fill (fun i => some (i * 17, 17)) ((Array.range (1 * 17)).map ((Value.agg rec0).cells[· % (Value.agg rec0).cells.size]!)) [(0, .agg (rxA x))] = some (rxA x) := by kernel_rfl
section
variable {ops : Array Oper} {rest : List Oper} {a : Act} {w : World} {Q : Exit → Act → World → Prop} {d : Option Tmp} {ty : TypeId} {ps : String} {af : Array Edge} {s : Operand}
theorem wpList_b22 {x : RX} (hx : a.eval s = .agg (rxA x)) (h : wpList Tryz.prog ops Q rest (a.put d (.slice (some ⟨w.heap.size, 0, none⟩) 1 1)) (w.alloc (.cells (rxA x) 55))) :
    wpList Tryz.prog ops Q ({ dst := d, op := .buildSlice 22 1 #[(0, s)], type := ty, pos := ps, after := af, guard := none } :: rest) a w := by
  obtain ⟨i0, hi, h0, h2, h3⟩ := info_of info46
  refine wpList_buildSlice rfl 22 55 1 #[(0, s)] rfl (rxA x) i0 _ Tryz.underlying22 hi h0 (by rw [h2]; decide) (by rw [h2]; decide) ?_ h
  rw [h2]
  simp only [List.map_toArray, List.map_cons, List.map_nil, hx]
  exact fill46 x
end
theorem wpList_app22 {w : World} {ops : Array Oper} {rest : List Oper} {o : Oper} {a : Act} {Q : Exit → Act → World → Prop} (hgd : o.guard = none) (s x : Operand) (ho : o.op = .call { callee := .builtin .append, args := #[s, x], argTypes := #[22, 22] })
    (B : Nat) (v : Value) (n : Nat) (xs : List Value) (hs : a.eval s = v) (hown : GRow w B 55 17 v n xs) (ad : Addr) (y : RX) (hx : a.eval x = .slice (some ad) 1 1) (hnews : Lies w (some ad) (rowsC rxC [y])) (h63 : n + 1 ≤ 200000) (hB : B ≤ w.heap.size)
    (h : ∀ v' w', GRow w' B 55 17 v' (n + 1) (xs ++ rowsC rxC [y]) → w.grownBy w' v.ownBlock → (v'.ownBlock = v.ownBlock ∨ v'.ownBlock = some w.heap.size) → wpList Tryz.prog ops Q rest (a.put o.dst v') w') : wpList Tryz.prog ops Q (o :: rest) a w := by
  obtain ⟨v', x', hr, q2, q3, q4⟩ := run_push46 o.type w B v n xs hown ad 1 1 (rowsC rxC [y]) rfl hnews (rx_one y) h63 hB
  exact wpList_run hgd s x ho hs hx hr (h v' x' q2 q3 q4)
theorem slice22 {a : Option Addr} {n cap : Nat} (k : Nat) (w : World) (h : k ≤ cap) (h4 : a = none → cap = 0) :
    (Instr.slice 22 (.slice a n cap) none (some (.int .i64 k)) none).run Tryz.prog w = .ok (.slice a k cap) w := by
  cases a with
  | none =>
    obtain rfl := h4 rfl
    obtain rfl : k = 0 := by omega
    go_simp
  | some ad =>
    obtain ⟨b, off, sp⟩ := ad
    go_simp
theorem slice31 {a : Option Addr} {n cap : Nat} (k : Nat) (w : World) (h : k ≤ cap) (h4 : a = none → cap = 0) :
    (Instr.slice 31 (.slice a n cap) none (some (.int .i64 k)) none).run Tryz.prog w = .ok (.slice a k cap) w := by
  cases a with
  | none =>
    obtain rfl := h4 rfl
    obtain rfl : k = 0 := by omega
    go_simp
  | some ad =>
    obtain ⟨b, off, sp⟩ := ad
    go_simp
theorem slice32 {a : Option Addr} {n cap : Nat} (k : Nat) (w : World) (h : k ≤ cap) (h4 : a = none → cap = 0) :
    (Instr.slice 32 (.slice a n cap) none (some (.int .i64 k)) none).run Tryz.prog w = .ok (.slice a k cap) w := by
  cases a with
  | none =>
    obtain rfl := h4 rfl
    obtain rfl : k = 0 := by omega
    go_simp
  | some ad =>
    obtain ⟨b, off, sp⟩ := ad
    go_simp
theorem rowsC_app {α : Type} (f : α → List Value) (xs ys : List α) : rowsC f (xs ++ ys) = rowsC f xs ++ rowsC f ys := by simp [rowsC]
theorem Lies.front {w : World} {a : Option Addr} {xs ys : List Value} (h : Lies w a (xs ++ ys)) : Lies w a xs := by
  rcases h with h | ⟨b, off, e, hb, hc⟩
  · exact .inl (List.append_eq_nil_iff.1 h).1
  · refine .inr ⟨b, off, e, hb, fun i hi => ?_⟩
    have := hc i (by simp; omega)
    rw [this, List.getElem_append_left hi]
theorem liveCs_append (xs ys : List LiveM) : liveCs (xs ++ ys) = liveCs xs ++ liveCs ys := by simp [liveCs]
theorem live_front {w : World} {a : Option Addr} {l : List LiveM} (n : Nat) (h : Lies w a (liveCs l)) : Lies w a (liveCs (l.take n)) := by
  have e : liveCs l = liveCs (l.take n) ++ liveCs (l.drop n) := by rw [← liveCs_append, List.take_append_drop]
  rw [e] at h
  exact h.front
theorem dirty_front {w : World} {a : Option Addr} {l : List DirtyM} (n : Nat) (h : Lies w a (dirtyCs l)) : Lies w a (dirtyCs (l.take n)) := by
  have e : dirtyCs l = dirtyCs (l.take n) ++ dirtyCs (l.drop n) := by rw [← dirtyCs_append, List.take_append_drop]
  rw [e] at h
  exact h.front
def cutL (x : RX) : RX := { x with r := { x.r with live := x.r.live.take 60 } }
def cutD (x : RX) : RX := { x with r := { x.r with dirty := x.r.dirty.take 60 } }
def cutX (x : RX) : RX := cutD (cutL x)
structure Fine (x : RX) : Prop where
  ln : x.la = none → x.lc = 0
  dn : x.da = none → x.dc = 0
  ll : x.r.live.length ≤ x.lc
  dl : x.r.dirty.length ≤ x.dc
theorem cut_in {w : World} {x : RX} (h : RXIn w x) : RXIn w (cutX x) := ⟨live_front 60 h.li, dirty_front 60 h.di, h.tx⟩
theorem cut_fine {x : RX} (h : Fine x) : Fine (cutX x) ∧ (cutX x).r.live.length ≤ 60 ∧ (cutX x).r.dirty.length ≤ 60 := by
  have := h.ll
  have := h.dl
  refine ⟨⟨h.ln, h.dn, ?_, ?_⟩, ?_, ?_⟩ <;> simp [cutX, cutL, cutD] <;> omega
theorem box_live {w : World} {b : Nat} {x : RX} (h : RBox w b 55 (rxA x)) (hl : 60 < x.r.live.length) : RBox (w.setCell ⟨b, 14, none⟩ (.slice x.la 60 x.lc)) b 55 (rxA (cutL x)) := by
  have q := h.setCell 14 (.slice x.la 60 x.lc)
  have e : (x.r.live.take 60).length = 60 := by simp; omega
  have e2 : rxA (cutL x) = (rxA x).setIfInBounds 14 (.slice x.la 60 x.lc) := by
    simp only [rxA, recC, cutL, e, List.setIfInBounds_toArray, List.set_cons_zero, List.set_cons_succ]
  rw [e2]
  exact q
theorem box_dirty {w : World} {b : Nat} {x : RX} (h : RBox w b 55 (rxA x)) (hl : 60 < x.r.dirty.length) : RBox (w.setCell ⟨b, 15, none⟩ (.slice x.da 60 x.dc)) b 55 (rxA (cutD x)) := by
  have q := h.setCell 15 (.slice x.da 60 x.dc)
  have e : (x.r.dirty.take 60).length = 60 := by simp; omega
  have e2 : rxA (cutD x) = (rxA x).setIfInBounds 15 (.slice x.da 60 x.dc) := by
    simp only [rxA, recC, cutD, e, List.setIfInBounds_toArray, List.set_cons_zero, List.set_cons_succ]
  rw [e2]
  exact q
theorem cutL_short {x : RX} (h : ¬ 60 < x.r.live.length) : cutL x = x := by
  unfold cutL
  rw [List.take_of_length_le (by omega)]
theorem cutD_short {x : RX} (h : ¬ 60 < x.r.dirty.length) : cutD x = x := by
  unfold cutD
  rw [List.take_of_length_le (by omega)]
theorem cut_take {xs : List RX} {k m : Nat} (hm : m = min xs.length 300) (hk : k < m) (hx : k < xs.length) : ((xs.take 300).map cutX).take (k + 1) = ((xs.take 300).map cutX).take k ++ [cutX xs[k]] := by
  rw [List.take_succ_eq_append_getElem (by simp; omega)]
  simp
end Go.Proofs.YtblngphjoafidaaGreat

set_option linter.all false
namespace Go.Proofs.YtblngphjoafidaaGreat
open Go.RowKit Go.QK Go.Maps Go.QM Go.QT
set_option maxRecDepth 100000
set_option maxHeartbeats 8000000 in
theorem cut_any (xs : List RX) (a : Option Addr) (n c : Nat) (w : World) (h : RecsAt w a xs) (hn : n = xs.length) (hc : n ≤ c) (hnil : a = none → c = 0) (hx : ∀ x ∈ xs, Fine x) :
    Calls Tryz.prog 5 #[.slice a n c] w fun e w' => ∃ v, e = .returned v ∧ GRow w' w.heap.size 55 17 v ((xs.take 300).map cutX).length (rowsC rxC ((xs.take 300).map cutX)) ∧ Below w.heap.size w w' := by
  obtain ⟨m, hm⟩ : ∃ m, m = min xs.length 300 := ⟨_, rfl⟩
  obtain ⟨ys, hys⟩ : ∃ ys, ys = (xs.take 300).map cutX := ⟨_, rfl⟩
  have LY := hide (show ys.length = m by rw [hys, hm]; simp; omega)
  have CT := hide (fun (k : Nat) (hk : k < m) (hx : k < xs.length) => cut_take hm hk hx)
  rw [← hys] at CT ⊢
  have HM := hide (show m = min n 300 by rw [hn]; exact hm)
  have HX := hide h
  have HN := hide hn
  have HF := hide hx
  clear h hn hx hm hys
  have m3 : m ≤ 300 := by have := HM.out; omega
  go_enter Tryz.func5, Tryz.ntmps5
  go_upto_if 8 with fail
  go_cut [0] (fun v w' => v = .slice a m c ∧ w = w')
  case first =>
    by_cases h3 : 300 < n
    · have d1 : decide ((300 : Int) < (n : Int)) = true := decide_eq_true (by omega)
      have em : m = 300 := by have := HM.out; omega
      have hsl := fun wq => slice22 (a := a) (n := n) 300 wq (by omega) hnil
      clear HM
      go_wp2_with fail
      go_meet
      exact ⟨by rw [em], rfl⟩
    · have d1 : decide ((300 : Int) < (n : Int)) = false := decide_eq_false (by omega)
      have em : m = n := by have := HM.out; omega
      clear HM
      go_wp2_with fail
      go_meet
      exact ⟨by rw [em], rfl⟩
  case rest =>
    obtain ⟨rfl, rfl⟩ := hcut
    go_wp2_with fail
    go_loopw [3, 4] (fun o v wz => ∃ k : Nat, v = .int .i64 (k : Int) ∧ k ≤ m ∧ GRow wz w.heap.size 55 17 o k (rowsC rxC (ys.take k)) ∧ Below w.heap.size w wz) (fun _ v _ => m + 1 - (intOf v).toNat)
    case atStart => exact ⟨0, rfl, Nat.zero_le _, World.ownsRow_nil _ _ _ _, Below.refl _ _⟩
    case round =>
      obtain ⟨k, rfl, hk, hG, hb⟩ := hrel
      obtain ⟨oa, oc, rfl, -⟩ := GRow.lies hG
      have G0 := hide hG
      have B0 := hide hb
      clear hG hb
      by_cases hkm : k < m
      · have hkx : k < xs.length := by have := HM.out; have := HN.out; omega
        obtain ⟨sb, so, rfl, slt, sel⟩ := Lies.rowAt rxC 17 (fun _ => rfl) (HX.out.below B0.out).row k hkx (by decide)
        have FX := hide (HF.out xs[k] (List.getElem_mem hkx))
        have YK := hide (CT.out k hkm hkx)
        generalize xs[k] = x at *
        obtain ⟨RA, hRA⟩ : ∃ A, A = rxA x := ⟨_, rfl⟩
        have SR := hide (show RA.size = 17 by rw [hRA]; rfl)
        have ON := hide (show RA.toList.all (·.oneCell') = true by rw [hRA]; rfl)
        have RC := hide (show ∀ j v, RA.toList[j]? = some v → wr.cell? ⟨sb, so + k * 17 + j, none⟩ = some v from fun j v hv => by rw [hRA] at hv; exact sel j v hv)
        have HRA := hide hRA
        clear hRA sel slt
        have e1 : decide ((k : Int) < (m : Int)) = true := decide_eq_true (by omega)
        have b3 : (k : Int) < (m : Int) := by omega
        go_upto_region 8 with (first | refine wpList_ld46At RC.out SR.out rfl ?_ | (refine wpList_store36 (cs := rec0) (RBox.new _ _ _) rfl SR.out ON.out rfl rfl ?_; intro w2 hb2 hk2))
        have B2 := hide (show Below wr.heap.size wr w2 from newBox hk2)
        rw [HRA.out] at hb2
        obtain ⟨bx, hbx⟩ : ∃ z, z = wr.heap.size := ⟨_, rfl⟩
        rw [← hbx] at hb2 ⊢
        have X2 := hide hb2
        have HBX := hide hbx
        clear hk2 hb2 hbx
        obtain ⟨c14, f14⟩ := X2.out.cells.get 14 _ rfl
        obtain ⟨nl, hnl⟩ : ∃ z, z = x.r.live.length := ⟨_, rfl⟩
        rw [← hnl] at c14
        have HNL := hide hnl
        clear hnl
        go_upto_if 25 with fail
        go_cut [] from 25 to 31 (fun w' => RBox w' bx 55 (rxA (cutL x)) ∧ Keep (fun z => z = bx) w2 w')
        case first =>
          by_cases h1 : 60 < nl
          · have hl : 60 < x.r.live.length := by rw [← HNL.out]; exact h1
            have F1 := hide (box_live X2.out hl)
            have K1 := hide ((Keep.refl (fun z => z = bx) w2).setCell (g := bx) (j := 14) (fun _ => rfl) (.slice x.la 60 x.lc))
            obtain ⟨la0, hla0⟩ : ∃ z, z = x.la := ⟨_, rfl⟩
            obtain ⟨lc0, hlc0⟩ : ∃ z, z = x.lc := ⟨_, rfl⟩
            have h60 : 60 ≤ lc0 := by have := FX.out.ll; omega
            have LNN := FX.out.ln
            rw [← hla0, ← hlc0] at F1 K1 c14 LNN
            obtain ⟨lb0, lo0, ls0, rfl⟩ : ∃ lb lo ls, la0 = some ⟨lb, lo, ls⟩ := by
              cases la0 with
              | none => have := LNN rfl; omega
              | some ad => exact (match ad with | ⟨p, q, r⟩ => ⟨p, q, r, rfl⟩)
            have hsl := fun wq => slice31 (a := some ⟨lb0, lo0, ls0⟩) (n := nl) 60 wq h60 nofun
            clear LNN hla0 hlc0
            have d2 : decide ((60 : Int) < (nl : Int)) = true := decide_eq_true (by omega)
            clear hl
            go_wp2_with fail
            go_meet
            exact ⟨F1.out, K1.out⟩
          · have hl : ¬ 60 < x.r.live.length := by rw [← HNL.out]; exact h1
            have F1 := hide (show RBox w2 bx 55 (rxA (cutL x)) by rw [cutL_short hl]; exact X2.out)
            have d2 : decide ((60 : Int) < (nl : Int)) = false := decide_eq_false (by omega)
            clear hl
            go_wp2_with fail
            go_meet
            exact ⟨F1.out, Keep.refl _ _⟩
        case rest =>
          obtain ⟨hr3, hk3⟩ := hcut
          obtain ⟨w3, rfl⟩ : ∃ z : World, z = wc := ⟨_, rfl⟩
          have X3 := hide hr3
          have K3 := hide hk3
          have FY := hide (show Fine (cutL x) from ⟨FX.out.ln, FX.out.dn, by have := FX.out.ll; simp [cutL]; omega, FX.out.dl⟩)
          have YK2 := hide (show ys.take (k + 1) = ys.take k ++ [cutD (cutL x)] from YK.out)
          clear hr3 hk3 X2
          generalize cutL x = y at *
          clear FX YK
          clear c14 f14 HNL
          obtain ⟨c15, f15⟩ := X3.out.cells.get 15 _ rfl
          obtain ⟨nd, hnd⟩ : ∃ z, z = y.r.dirty.length := ⟨_, rfl⟩
          rw [← hnd] at c15
          have HND := hide hnd
          clear hnd
          go_upto_if 36 with fail
          go_cut [] from 36 to 42 (fun w' => RBox w' bx 55 (rxA (cutD y)) ∧ Keep (fun z => z = bx) w2 w')
          case first =>
            by_cases h1 : 60 < nd
            · have hl : 60 < y.r.dirty.length := by rw [← HND.out]; exact h1
              have F1 := hide (box_dirty X3.out hl)
              have K1 := hide (K3.out.setCell (g := bx) (j := 15) (fun _ => rfl) (.slice y.da 60 y.dc))
              obtain ⟨la0, hla0⟩ : ∃ z, z = y.da := ⟨_, rfl⟩
              obtain ⟨lc0, hlc0⟩ : ∃ z, z = y.dc := ⟨_, rfl⟩
              have h60 : 60 ≤ lc0 := by have := FY.out.dl; omega
              have LNN := FY.out.dn
              rw [← hla0, ← hlc0] at F1 K1 c15 LNN
              obtain ⟨lb0, lo0, ls0, rfl⟩ : ∃ lb lo ls, la0 = some ⟨lb, lo, ls⟩ := by
                cases la0 with
                | none => have := LNN rfl; omega
                | some ad => exact (match ad with | ⟨p, q, r⟩ => ⟨p, q, r, rfl⟩)
              have hsl := fun wq => slice32 (a := some ⟨lb0, lo0, ls0⟩) (n := nd) 60 wq h60 nofun
              clear LNN hla0 hlc0
              have d2 : decide ((60 : Int) < (nd : Int)) = true := decide_eq_true (by omega)
              clear hl
              go_wp2_with fail
              go_meet
              exact ⟨F1.out, K1.out⟩
            · have hl : ¬ 60 < y.r.dirty.length := by rw [← HND.out]; exact h1
              have F1 := hide (show RBox w3 bx 55 (rxA (cutD y)) by rw [cutD_short hl]; exact X3.out)
              have d2 : decide ((60 : Int) < (nd : Int)) = false := decide_eq_false (by omega)
              clear hl
              go_wp2_with fail
              go_meet
              exact ⟨F1.out, K3.out⟩
          case rest =>
            obtain ⟨hr4, hk4⟩ := hcut
            obtain ⟨w4, rfl⟩ : ∃ z : World, z = wc := ⟨_, rfl⟩
            have X4 := hide hr4
            have B4 := hide (show Below wr.heap.size wr w4 from B2.out.trans (hk4.below B2.out.size (fun z hz q => by have := HBX.out; omega)))
            clear hr4 hk4 X3 K3 FY
            generalize cutD y = z at *
            have G4 := hide (GRow.below (GRow.below G0.out B4.out) (alloc_below w4 (.cells (rxA z) 55)))
            have SZ := hide (show w.heap.size ≤ w4.heap.size from Nat.le_trans B0.out.size B4.out.size)
            go_wp2_with (first | refine wpList_load36 X4.out rfl rfl ?_ | refine wpList_b22 (x := z) rfl ?_ | (at_builtin; refine wpList_app22 rfl (.tmp 43) (.tmp 45) rfl w.heap.size (.slice oa k oc) k (rowsC rxC (ys.take k)) rfl G4.out ⟨w4.heap.size, 0, none⟩ z rfl (lies_rx w4 z) (by omega) (by have := SZ.out; simp; omega) ?_; intro v5 w5 q1 q2 q3))
            have B5 := hide (show Below w.heap.size w w5 from by
              have b4 := B0.out.trans (B4.out.mono B0.out.size)
              have b5 := b4.trans ((alloc_below w4 (.cells (rxA z) 55)).mono SZ.out)
              exact b5.trans ((grown_keep q2).below b5.size (fun g hg q => by have := (World.ownsRow.lt G4.out g q).1; omega)))
            have Q1 := hide q1
            clear q1 q2 q3
            go_roundw
            case rel => exact ⟨k + 1, by go_num, by omega, by rw [YK2.out, rowsC_app]; exact Q1.out, B5.out⟩
            case measure => simp [intOf]; omega
      · obtain rfl : k = m := by omega
        have e1 : decide ((k : Int) < (k : Int)) = false := decide_eq_false (by omega)
        have GE := hide (show GRow wr w.heap.size 55 17 (.slice oa k oc) ys.length (rowsC rxC ys) by
          have := G0.out
          rw [← LY.out] at this ⊢
          rw [List.take_length] at this
          exact this)
        go_wp2_with fail
        go_ret
        exact ⟨_, rfl, GE.out, B0.out⟩
end Go.Proofs.YtblngphjoafidaaGreat
