import Derived.Test.YtgpmghdoofcpaaaGreatLgP
namespace Go.Proofs.YtgpmghdoofcpaaaGreat.Lg
open Go.RowKit Go.QK
open Dv (hide bnext alloc_below)
set_option maxRecDepth 100000

/-- What made holds: its argument, the result's block, its own record. -/
structure MB (w : World) (pc : Array Value) (b7 : Nat) (wi : World) (rc : Array Value) : Prop where
  bel : Below w.heap.size w wi
  p : RBox wi w.heap.size 44 pc
  z : RBox wi (w.heap.size + 1) 44 #[.int .i64 0, .int .i64 0, .int .i64 0, .int .i64 0, .int .i64 0, .int .i64 0, .int .i64 0, .int .i64 0, .int .i64 0, .int .i64 0, .int .i64 0, .int .i64 0, .int .i64 0, .int .i64 0, .slice none 0 0, .slice none 0 0, .int .i64 0]
  x : RBox wi b7 44 rc
  hb : w.heap.size + 1 < b7
theorem MB.below {w wi w' : World} {pc rc : Array Value} {b7 : Nat} (h : MB w pc b7 wi rc) (b : Below wi.heap.size wi w') : MB w pc b7 w' rc := ⟨bnext h.bel b (Nat.le_refl _), h.p.below b, h.z.below b, h.x.below b, h.hb⟩
theorem MB.set {w wi : World} {pc rc : Array Value} {b7 : Nat} (h : MB w pc b7 wi rc) (j : Nat) (v : Value) : MB w pc b7 (wi.setCell ⟨b7, j, none⟩ v) (rc.setIfInBounds j v) := by
  have hb := h.hb
  have k3 : Keep (fun k => k = b7) wi (wi.setCell ⟨b7, j, none⟩ v) := (Keep.refl (fun k => k = b7) wi).setCell (fun _ => rfl) _
  exact ⟨h.bel.trans (k3.below h.bel.size (fun k hk q => by omega)), h.p.keep k3 (by omega), h.z.keep k3 (by omega), h.x.setCell j v, hb⟩
/-- A record that may be the log's record number lsn. -/
def MadeR (lsn : Nat) (r : RecM) : Prop := chkE (wl lsn r) = 0 ∧ Fits r ∧ r.lsn = 0
theorem made_tx {lsn : Nat} {k tt pp : Int} (h1 : 1 ≤ lsn) (h2 : lsn ≤ 100000) (ht : 1 ≤ tt ∧ tt ≤ 1048576) (hk : (k = 1 ∧ pp = 0) ∨ ((k = 5 ∨ k = 6 ∨ k = 7) ∧ 1 ≤ pp ∧ pp ≤ (lsn : Int) - 1)) : MadeR lsn ⟨0, k, tt, pp, 0, 0, 0, 0, 0, 0, 0, 0, 0, 0, [], [], 0⟩ := by
  refine ⟨chkE_of ?_ ?_ ?_, by unfold Fits; simp, rfl⟩
  · simp only [wl]; omega
  · simp only [wl]; omega
  · rcases hk with ⟨rfl, rfl⟩ | ⟨rfl | rfl | rfl, hp⟩ <;> simp [okB, wl, fromB, aheadB, oneB, slotsB, firstB, pointsB, hTx, hPrev, hCtr, hFirst, hDelta, hPts] <;> (repeat' apply And.intro) <;> first | (apply decide_eq_true; omega) | omega | (right; apply decide_eq_true; omega)

theorem made_pts {lsn : Nat} {nx : Int} {ls : List LiveM} {ds : List DirtyM} (h1 : 1 ≤ lsn) (h2 : lsn ≤ 100000) (hp : pointsB true ls ds nx lsn = true) : MadeR lsn ⟨0, 8, 0, 0, 0, 0, 0, 0, 0, 0, 0, 0, 0, 0, ls, ds, nx⟩ := by
  refine ⟨chkE_of (by simp [wl]) (by simp [wl]) ?_, by unfold Fits; simp, rfl⟩
  have e : okB (wl lsn ⟨0, 8, 0, 0, 0, 0, 0, 0, 0, 0, 0, 0, 0, 0, ls, ds, nx⟩) = (fromB 0 lsn 2147483647 && aheadB 0 lsn && pointsB true ls ds nx lsn) := by
    simp [okB, wl, oneB, slotsB, firstB, hTx, hPrev, hCtr, hFirst, hDelta, hPts]
  rw [e, hp]
  simp [fromB, aheadB]
  (repeat' apply And.intro) <;> first | (apply decide_eq_true; omega) | omega | (right; apply decide_eq_true; omega)
theorem made_ctr {lsn : Nat} {k tt pp wp wi sp si de id gr lo hi va : Int} (h1 : 1 ≤ lsn) (h2 : lsn ≤ 100000) (hw : (0 ≤ wp ∧ wp ≤ 63) ∧ (0 ≤ wi ∧ wi ≤ 30) ∧ (0 ≤ sp ∧ sp ≤ 63) ∧ (0 ≤ si ∧ si ≤ 83)) (hne : wp ≠ sp) (hid : 1 ≤ id ∧ id ≤ 1048576)
    (hk : (k = 2 ∧ tt = 0 ∧ pp = 0 ∧ de = 0 ∧ (1 ≤ gr ∧ gr ≤ 1048576) ∧ lo ≤ va ∧ va ≤ hi ∧ (-9223372036854775808 ≤ lo ∧ hi ≤ 9223372036854775807)) ∨ ((k = 3 ∨ k = 4) ∧ (1 ≤ tt ∧ tt ≤ 1048576) ∧ (1 ≤ pp ∧ pp ≤ (lsn : Int) - 1) ∧ (-9223372036854775808 ≤ de ∧ de ≤ 9223372036854775807) ∧ gr = 0 ∧ lo = 0 ∧ hi = 0 ∧ va = 0)) :
    MadeR lsn ⟨0, k, tt, pp, wp, wi, sp, si, de, id, gr, lo, hi, va, [], [], 0⟩ := by
  refine ⟨chkE_of ?_ ?_ ?_, ?_, rfl⟩
  · simp only [wl]; omega
  · simp only [wl]; omega
  · rcases hk with ⟨rfl, rfl, rfl, rfl, hk⟩ | ⟨rfl | rfl, ht, hp, hd, rfl, rfl, rfl, rfl⟩ <;> simp [okB, wl, fromB, aheadB, oneB, slotsB, slotB, firstB, pointsB, hTx, hPrev, hCtr, hFirst, hDelta, hPts] <;> (repeat' apply And.intro) <;> first | (apply decide_eq_true; omega) | omega | (right; apply decide_eq_true; omega) | exact hne
  · unfold Fits
    dsimp only
    omega

set_option maxHeartbeats 60000000 in
theorem made_any (r : RecM) (la da : Option Addr) (lc dc : Nat) (lsn : Nat) (w : World) (hl : Lies w la (liveCs r.live)) (hd : Lies w da (dirtyCs r.dirty)) (hf : Fits r) (h1 : 1 ≤ lsn) (h2 : lsn ≤ 100000) :
    Calls Tryz.prog 11 #[.agg (recC r la lc da dc), .int .i64 (lsn : Int)] w fun e w' => ∃ v r', e = .returned v ∧ RecOut w.heap.size w' v r' ∧ MadeR lsn r' ∧ Below w.heap.size w w' := by
  obtain ⟨lsn0, kind, tx, prev, wp, wi, sp, si, delta, id, grp, lo, hi, val, live, dirty, next⟩ := r
  simp only [recC] at *
  have HL := hide hl
  have HD := hide hd
  have HF := hide hf
  obtain ⟨w2, hw2⟩ : ∃ w2, w2 = (w.alloc (.cells #[.int .i64 lsn0, .int .i64 kind, .int .i64 tx, .int .i64 prev, .int .i64 wp, .int .i64 wi, .int .i64 sp, .int .i64 si, .int .i64 delta, .int .i64 id, .int .i64 grp, .int .i64 lo, .int .i64 hi, .int .i64 val, .slice la live.length lc, .slice da dirty.length dc, .int .i64 next] 44)).alloc (.cells #[.int .i64 0, .int .i64 0, .int .i64 0, .int .i64 0, .int .i64 0, .int .i64 0, .int .i64 0, .int .i64 0, .int .i64 0, .int .i64 0, .int .i64 0, .int .i64 0, .int .i64 0, .int .i64 0, .slice none 0 0, .slice none 0 0, .int .i64 0] 44) := ⟨_, rfl⟩
  have z2 : w2.heap.size = w.heap.size + 2 := by rw [hw2]; simp
  have b2 : Below w.heap.size w w2 := by rw [hw2]; exact ((Below.refl _ w).alloc (Nat.le_refl _) _).alloc (by simp) _
  have P2 : RBox w2 w.heap.size 44 #[.int .i64 lsn0, .int .i64 kind, .int .i64 tx, .int .i64 prev, .int .i64 wp, .int .i64 wi, .int .i64 sp, .int .i64 si, .int .i64 delta, .int .i64 id, .int .i64 grp, .int .i64 lo, .int .i64 hi, .int .i64 val, .slice la live.length lc, .slice da dirty.length dc, .int .i64 next] := by rw [hw2]; exact (RBox.new w #[.int .i64 lsn0, .int .i64 kind, .int .i64 tx, .int .i64 prev, .int .i64 wp, .int .i64 wi, .int .i64 sp, .int .i64 si, .int .i64 delta, .int .i64 id, .int .i64 grp, .int .i64 lo, .int .i64 hi, .int .i64 val, .slice la live.length lc, .slice da dirty.length dc, .int .i64 next] 44).below (alloc_below _ _)
  have Z2 : RBox w2 (w.heap.size + 1) 44 #[.int .i64 0, .int .i64 0, .int .i64 0, .int .i64 0, .int .i64 0, .int .i64 0, .int .i64 0, .int .i64 0, .int .i64 0, .int .i64 0, .int .i64 0, .int .i64 0, .int .i64 0, .int .i64 0, .slice none 0 0, .slice none 0 0, .int .i64 0] := by
    have := RBox.new (w.alloc (.cells #[.int .i64 lsn0, .int .i64 kind, .int .i64 tx, .int .i64 prev, .int .i64 wp, .int .i64 wi, .int .i64 sp, .int .i64 si, .int .i64 delta, .int .i64 id, .int .i64 grp, .int .i64 lo, .int .i64 hi, .int .i64 val, .slice la live.length lc, .slice da dirty.length dc, .int .i64 next] 44)) #[.int .i64 0, .int .i64 0, .int .i64 0, .int .i64 0, .int .i64 0, .int .i64 0, .int .i64 0, .int .i64 0, .int .i64 0, .int .i64 0, .int .i64 0, .int .i64 0, .int .i64 0, .int .i64 0, .slice none 0 0, .slice none 0 0, .int .i64 0] 44
    rw [World.size_alloc] at this
    rw [hw2]; exact this
  have HW := hide hw2
  have HP2 := hide P2
  have HZ2 := hide Z2
  have B2 := hide b2
  have kk1 := (P2.cells.get 1 _ rfl).1
  have kk2 := (P2.cells.get 2 _ rfl).1
  have HZS := hide z2
  clear hl hd hf hw2 P2 Z2 b2 z2
  go_enter Tryz.func11, Tryz.ntmps11
  go_upto_region 1 with fail
  rw [← HW.out]
  clear HW
  generalize Value.agg #[.int .i64 lsn0, .int .i64 kind, .int .i64 tx, .int .i64 prev, .int .i64 wp, .int .i64 wi, .int .i64 sp, .int .i64 si, .int .i64 delta, .int .i64 id, .int .i64 grp, .int .i64 lo, .int .i64 hi, .int .i64 val, .slice la live.length lc, .slice da dirty.length dc, .int .i64 next] = va
  go_wp2_with fail
  refine (brought_lit kind 8 8 rfl _ (by decide) (by decide)).mono ?_
  rintro e w' ⟨y8, rfl, hy8, hw⟩
  obtain rfl : w2 = w' := hw.symm
  obtain ⟨kk, hkk⟩ : ∃ kk : Int, 1 + (y8 : Int) = kk := ⟨_, rfl⟩
  go_wp2_with fail
  refine (brought_lit tx 1048576 1048576 rfl _ (by decide) (by decide)).mono ?_
  rintro e w' ⟨yt, rfl, hyt, hw⟩
  obtain rfl : w2 = w' := hw.symm
  obtain ⟨tt, htt⟩ : ∃ tt : Int, 1 + (yt : Int) = tt := ⟨_, rfl⟩
  have htt2 : 1 ≤ tt ∧ tt ≤ 1048576 := by omega
  have hk18 : kk = 1 ∨ kk = 2 ∨ kk = 3 ∨ kk = 4 ∨ kk = 5 ∨ kk = 6 ∨ kk = 7 ∨ kk = 8 := by omega
  go_upto_region 4 with (refine wpList_store36 (cs' := #[.int .i64 0, .int .i64 kk, .int .i64 tt, .int .i64 0, .int .i64 0, .int .i64 0, .int .i64 0, .int .i64 0, .int .i64 0, .int .i64 0, .int .i64 0, .int .i64 0, .int .i64 0, .int .i64 0, .slice none 0 0, .slice none 0 0, .int .i64 0]) (RBox.new _ _ _) rfl rfl rfl rfl rfl ?_; intro w3 R3 hk3)
  have M3 := hide (show MB w #[.int .i64 lsn0, .int .i64 kind, .int .i64 tx, .int .i64 prev, .int .i64 wp, .int .i64 wi, .int .i64 sp, .int .i64 si, .int .i64 delta, .int .i64 id, .int .i64 grp, .int .i64 lo, .int .i64 hi, .int .i64 val, .slice la live.length lc, .slice da dirty.length dc, .int .i64 next] w2.heap.size w3 #[.int .i64 0, .int .i64 kk, .int .i64 tt, .int .i64 0, .int .i64 0, .int .i64 0, .int .i64 0, .int .i64 0, .int .i64 0, .int .i64 0, .int .i64 0, .int .i64 0, .int .i64 0, .int .i64 0, .slice none 0 0, .slice none 0 0, .int .i64 0] from ⟨bnext B2.out (newBox hk3) (Nat.le_refl _), HP2.out.below (newBox hk3), HZ2.out.below (newBox hk3), R3, by have := HZS.out; omega⟩)
  have hb7 : Hid (w2.heap.size = w.heap.size + 2) := HZS.out
  generalize w2.heap.size = b7 at *
  clear kk1 kk2 HP2 HZ2 B2 R3 hk3 htt hyt hkk hy8 HZS
  rcases hk18 with rfl | rfl | rfl | rfl | rfl | rfl | rfl | rfl
  · by_cases hls : lsn < 2
    · have hl2 : decide ((lsn : Int) < 2) = true := by simp; omega
      go_wp2_with (first | refine wpList_load36 M3.out.x rfl rfl ?_ | (refine wpList_store36 M3.out.z rfl rfl rfl rfl rfl ?_; intro wf hbf hkf))
      exact bodyPost_ret (results_box rfl _ _ rfl hbf rfl) rfl ⟨_, ⟨0, 1, tt, 0, 0, 0, 0, 0, 0, 0, 0, 0, 0, 0, [], [], 0⟩, rfl, ⟨none, none, 0, 0, rfl, World.ownsRow_nil _ _ _ _, World.ownsRow_nil _ _ _ _, nofun⟩, made_tx h1 h2 htt2 (.inl ⟨rfl, rfl⟩), M3.out.bel.trans (hkf.below M3.out.bel.size (fun k hk q => by omega))⟩
    · have hl2 : decide ((lsn : Int) < 2) = false := by simp; omega
      go_wp2_with (first | refine wpList_load36 M3.out.x rfl rfl ?_ | (refine wpList_store36 M3.out.z rfl rfl rfl rfl rfl ?_; intro wf hbf hkf))
      exact bodyPost_ret (results_box rfl _ _ rfl hbf rfl) rfl ⟨_, ⟨0, 1, tt, 0, 0, 0, 0, 0, 0, 0, 0, 0, 0, 0, [], [], 0⟩, rfl, ⟨none, none, 0, 0, rfl, World.ownsRow_nil _ _ _ _, World.ownsRow_nil _ _ _ _, nofun⟩, made_tx h1 h2 htt2 (.inl ⟨rfl, rfl⟩), M3.out.bel.trans (hkf.below M3.out.bel.size (fun k hk q => by omega))⟩
  · by_cases hls : lsn < 2
    · have hl2 : decide ((lsn : Int) < 2) = true := by simp; omega
      have q9 := (M3.out.p.cells.get 9 _ rfl).1
      have q10 := (M3.out.p.cells.get 10 _ rfl).1
      have q11 := (M3.out.p.cells.get 11 _ rfl).1
      have q12 := (M3.out.p.cells.get 12 _ rfl).1
      have q13 := (M3.out.p.cells.get 13 _ rfl).1
      have CB := Cells.new w3 #[.int .i64 id, .int .i64 grp, .int .i64 lo, .int .i64 hi, .int .i64 val] 38
      have M4 := hide (M3.out.below (alloc_below w3 (.cells #[.int .i64 id, .int .i64 grp, .int .i64 lo, .int .i64 hi, .int .i64 val] 38)))
      have NB := hide (show b7 ≠ w3.heap.size from fun q => by have := M3.out.x.lt; omega)
      have NBs := hide (show w.heap.size + 1 < w3.heap.size from M3.out.z.lt)
      go_upto_region 9 with fail
      generalize w3.alloc (.cells #[.int .i64 id, .int .i64 grp, .int .i64 lo, .int .i64 hi, .int .i64 val] 38) = w4 at *
      generalize w3.heap.size = b8 at *
      have CB := hide CB
      clear q9 q10 q11 q12 q13 M3
      obtain ⟨g2, f2⟩ := CB.out.get 2 _ rfl
      obtain ⟨g3, f3⟩ := CB.out.get 3 _ rfl
      obtain ⟨g4, _⟩ := CB.out.get 4 _ rfl
      by_cases hlh : hi < lo
      · have dlh : decide (hi < lo) = true := by simpa using hlh
        have k4 : Keep (fun k => k = b8) w4 ((w4.setCell ⟨b8, 2, none⟩ (.int .i64 hi)).setCell ⟨b8, 3, none⟩ (.int .i64 lo)) := ((Keep.refl (fun k => k = b8) w4).setCell (fun _ => rfl) _).setCell (fun _ => rfl) _
        have M5 := hide (show MB w #[.int .i64 lsn0, .int .i64 kind, .int .i64 tx, .int .i64 prev, .int .i64 wp, .int .i64 wi, .int .i64 sp, .int .i64 si, .int .i64 delta, .int .i64 id, .int .i64 grp, .int .i64 lo, .int .i64 hi, .int .i64 val, .slice la live.length lc, .slice da dirty.length dc, .int .i64 next] b7 ((w4.setCell ⟨b8, 2, none⟩ (.int .i64 hi)).setCell ⟨b8, 3, none⟩ (.int .i64 lo)) #[.int .i64 0, .int .i64 2, .int .i64 tt, .int .i64 0, .int .i64 0, .int .i64 0, .int .i64 0, .int .i64 0, .int .i64 0, .int .i64 0, .int .i64 0, .int .i64 0, .int .i64 0, .int .i64 0, .slice none 0 0, .slice none 0 0, .int .i64 0] from ⟨M4.out.bel.trans (k4.below M4.out.bel.size (fun k hk q => by have := NBs.out; omega)), M4.out.p.keep k4 (by have := NBs.out; omega), M4.out.z.keep k4 (by have := NBs.out; omega), M4.out.x.keep k4 NB.out, M4.out.hb⟩)
        have CB5 := hide ((CB.out.stored (j := 2) (by simp) (.int .i64 hi)).stored (j := 3) (by simp) (.int .i64 lo))
        clear k4
        go_upto_region 11 with fail
        generalize (w4.setCell ⟨b8, 2, none⟩ (.int .i64 hi)).setCell ⟨b8, 3, none⟩ (.int .i64 lo) = w5 at *
        clear g2 f2 g3 f3 g4 CB M4
        obtain ⟨g2, _⟩ := CB5.out.get 2 _ rfl
        obtain ⟨g3, _⟩ := CB5.out.get 3 _ rfl
        obtain ⟨g4, _⟩ := CB5.out.get 4 _ rfl
        go_cut [9] (fun s w' => (∃ vv : Int, s = .int .i64 vv ∧ hi ≤ vv ∧ vv ≤ lo) ∧ w' = w5)
        case first =>
          go_wp2_with fail
          all_goals (go_meet; exact ⟨⟨_, rfl, by omega, by omega⟩, rfl⟩)
        case rest =>
        obtain ⟨⟨vv, hs9, hvv⟩, hwc⟩ := hcut
        have hwc := hwc.symm
        subst hwc
        rw [hs9]
        clear hs9 g2 g3 g4
        obtain ⟨ct, ft⟩ := M5.out.x.cells.get 2 _ rfl
        have M6 := M5.out.set 2 (.int .i64 0)
        simp only [List.setIfInBounds_toArray, List.set_cons_zero, List.set_cons_succ] at M6
        have M6 := hide M6
        have CB6 := hide (CB5.out.other (g := b7) (j := 2) (y := .int .i64 0) NB.out)
        go_upto_region 13 with fail
        generalize w5.setCell ⟨b7, 2, none⟩ (.int .i64 0) = w6 at *
        clear ct ft M5 CB5
        have FX := hide (show w6.cell? ⟨b8, 0, none⟩ = some (.int .i64 id) ∧ w6.cell? ⟨b8, 1, none⟩ = some (.int .i64 grp) ∧ w6.cell? ⟨b8, 2, none⟩ = some (.int .i64 hi) ∧ w6.cell? ⟨b8, 3, none⟩ = some (.int .i64 lo) from ⟨(CB6.out.get 0 _ rfl).1, (CB6.out.get 1 _ rfl).1, (CB6.out.get 2 _ rfl).1, (CB6.out.get 3 _ rfl).1⟩)
        have ME := hide (M6.out.below (Below.refl _ _).drew)
        have CE := hide (CB6.out.drew)
        refine wp_region_held_drew (S := fun wq => wq.cell? ⟨b8, 0, none⟩ = some (.int .i64 id) ∧ wq.cell? ⟨b8, 1, none⟩ = some (.int .i64 grp) ∧ wq.cell? ⟨b8, 2, none⟩ = some (.int .i64 hi) ∧ wq.cell? ⟨b8, 3, none⟩ = some (.int .i64 lo)) (by kernel_rfl) FX.out (fun hS => ?_)
        generalize w6.drew = we at *
        clear FX M6 CB6
        refine take_at 0 (some 64) (v := ?_) rfl rfl (by kernel_rfl) (by kernel_rfl) (by kernel_rfl) (fun _ _ _ h => h) ⟨by rfl, ?_⟩ hS ?_
        rotate_left
        · intro wq hSw; go_simp; try rfl
        simp only [Act.put, List.setIfInBounds_toArray, List.set_cons_zero, List.set_cons_succ]
        refine take_at 1 (some 65) (v := ?_) rfl rfl (by kernel_rfl) (by kernel_rfl) (by kernel_rfl) (fun _ _ _ h => h) ⟨by rfl, ?_⟩ hS ?_
        rotate_left
        · intro wq hSw; obtain ⟨y0, y1, y2, y3⟩ := hSw; go_simp; try rfl
        simp only [Act.put, List.setIfInBounds_toArray, List.set_cons_zero, List.set_cons_succ]
        refine take_at 4 (some 68) (v := ?_) rfl rfl (by kernel_rfl) (by kernel_rfl) (by kernel_rfl) (fun _ _ _ h => h) ⟨by rfl, ?_⟩ hS ?_
        rotate_left
        · intro wq hSw; go_simp; try rfl
        simp only [Act.put, List.setIfInBounds_toArray, List.set_cons_zero, List.set_cons_succ]
        refine take_at 5 (some 69) (v := ?_) rfl rfl (by kernel_rfl) (by kernel_rfl) (by kernel_rfl) (fun _ _ _ h => h) ⟨by rfl, ?_⟩ hS ?_
        rotate_left
        · intro wq hSw; obtain ⟨y0, y1, y2, y3⟩ := hSw; go_simp; try rfl
        simp only [Act.put, List.setIfInBounds_toArray, List.set_cons_zero, List.set_cons_succ]
        refine take_at 8 (some 72) (v := ?_) rfl rfl (by kernel_rfl) (by kernel_rfl) (by kernel_rfl) (fun _ _ _ h => h) ⟨by rfl, ?_⟩ hS ?_
        rotate_left
        · intro wq hSw; go_simp; try rfl
        simp only [Act.put, List.setIfInBounds_toArray, List.set_cons_zero, List.set_cons_succ]
        refine take_at 9 (some 73) (v := ?_) rfl rfl (by kernel_rfl) (by kernel_rfl) (by kernel_rfl) (fun _ _ _ h => h) ⟨by rfl, ?_⟩ hS ?_
        rotate_left
        · intro wq hSw; obtain ⟨y0, y1, y2, y3⟩ := hSw; go_simp; try rfl
        simp only [Act.put, List.setIfInBounds_toArray, List.set_cons_zero, List.set_cons_succ]
        refine take_at 10 (some 74) (v := ?_) rfl rfl (by kernel_rfl) (by kernel_rfl) (by kernel_rfl) (fun _ _ _ h => h) ⟨by rfl, ?_⟩ hS ?_
        rotate_left
        · intro wq hSw; go_simp; try rfl
        simp only [Act.put, List.setIfInBounds_toArray, List.set_cons_zero, List.set_cons_succ]
        refine wpAnyH_ready (rs := [2]) (by kernel_rfl) (by simp) ?_
        refine AllReadyH.cons rfl (fun K hK => ?_) AllReadyH.nil
        go_simp
        go_wp2_with fail
        refine (brought_lit id 1048576 1048576 rfl _ (by decide) (by decide)).mono ?_
        rintro e w' ⟨yi, rfl, hyi, hw⟩
        obtain rfl : we = w' := hw.symm
        obtain ⟨ii, hii⟩ : ∃ ii : Int, 1 + (yi : Int) = ii := ⟨_, rfl⟩
        have hii2 : 1 ≤ ii ∧ ii ≤ 1048576 := by omega
        have ei : IntKind.i64.wrap ii = ii := by rw [IntKind.wrap_i64]; omega
        go_wp2_with fail
        refine hK.out _ _ hS (fun hS => ?_)
        clear hK K
        (try simp only [Act.put, List.setIfInBounds_toArray, List.set_cons_zero, List.set_cons_succ])
        refine take_at 3 (some 67) (v := ?_) rfl rfl (by kernel_rfl) (by kernel_rfl) (by kernel_rfl) (fun _ _ _ h => h) ⟨by rfl, ?_⟩ hS ?_
        rotate_left
        · intro wq hSw; go_simp; try rfl
        simp only [Act.put, List.setIfInBounds_toArray, List.set_cons_zero, List.set_cons_succ]
        clear hii
        refine wpAnyH_ready (rs := [6]) (by kernel_rfl) (by simp) ?_
        refine AllReadyH.cons rfl (fun K hK => ?_) AllReadyH.nil
        go_simp
        go_wp2_with fail
        refine (brought_lit grp 1048576 1048576 rfl _ (by decide) (by decide)).mono ?_
        rintro e w' ⟨yg, rfl, hyg, hw⟩
        obtain rfl : we = w' := hw.symm
        obtain ⟨gg, hgg⟩ : ∃ gg : Int, 1 + (yg : Int) = gg := ⟨_, rfl⟩
        have hgg2 : 1 ≤ gg ∧ gg ≤ 1048576 := by omega
        have eg : IntKind.i64.wrap gg = gg := by rw [IntKind.wrap_i64]; omega
        go_wp2_with fail
        refine hK.out _ _ hS (fun hS => ?_)
        clear hK K
        (try simp only [Act.put, List.setIfInBounds_toArray, List.set_cons_zero, List.set_cons_succ])
        refine take_at 7 (some 71) (v := ?_) rfl rfl (by kernel_rfl) (by kernel_rfl) (by kernel_rfl) (fun _ _ _ h => h) ⟨by rfl, ?_⟩ hS ?_
        rotate_left
        · intro wq hSw; go_simp; try rfl
        simp only [Act.put, List.setIfInBounds_toArray, List.set_cons_zero, List.set_cons_succ]
        clear hgg
        refine take_at 11 (some 75) (v := ?_) rfl rfl (by kernel_rfl) (by kernel_rfl) (by kernel_rfl) (fun _ _ _ h => h) ⟨by rfl, ?_⟩ hS ?_
        rotate_left
        · intro wq hSw; go_simp; try rfl
        simp only [Act.put, List.setIfInBounds_toArray, List.set_cons_zero, List.set_cons_succ]
        refine take_at 12 (some 76) (v := ?_) rfl rfl (by kernel_rfl) (by kernel_rfl) (by kernel_rfl) (fun _ _ _ h => h) ⟨by rfl, ?_⟩ hS ?_
        rotate_left
        · intro wq hSw; go_simp; try rfl
        simp only [Act.put, List.setIfInBounds_toArray, List.set_cons_zero, List.set_cons_succ]
        obtain ⟨c9, f9⟩ := ME.out.x.cells.get 9 _ rfl
        obtain ⟨c10, f10⟩ := ME.out.x.cells.get 10 _ rfl
        obtain ⟨c11, f11⟩ := ME.out.x.cells.get 11 _ rfl
        obtain ⟨c12, f12⟩ := ME.out.x.cells.get 12 _ rfl
        obtain ⟨c13, f13⟩ := ME.out.x.cells.get 13 _ rfl
        have M5 := ((((ME.out.set 9 (.int .i64 ii)).set 10 (.int .i64 gg)).set 11 (.int .i64 hi)).set 12 (.int .i64 lo)).set 13 (.int .i64 vv)
        simp only [List.setIfInBounds_toArray, List.set_cons_zero, List.set_cons_succ] at M5
        have M5 := hide M5
        have hS5 := hide (show (((((we.setCell ⟨b7, 9, none⟩ (.int .i64 ii)).setCell ⟨b7, 10, none⟩ (.int .i64 gg)).setCell ⟨b7, 11, none⟩ (.int .i64 hi)).setCell ⟨b7, 12, none⟩ (.int .i64 lo)).setCell ⟨b7, 13, none⟩ (.int .i64 vv)).cell? ⟨b8, 0, none⟩ = some (.int .i64 id) ∧ (((((we.setCell ⟨b7, 9, none⟩ (.int .i64 ii)).setCell ⟨b7, 10, none⟩ (.int .i64 gg)).setCell ⟨b7, 11, none⟩ (.int .i64 hi)).setCell ⟨b7, 12, none⟩ (.int .i64 lo)).setCell ⟨b7, 13, none⟩ (.int .i64 vv)).cell? ⟨b8, 1, none⟩ = some (.int .i64 grp) ∧ (((((we.setCell ⟨b7, 9, none⟩ (.int .i64 ii)).setCell ⟨b7, 10, none⟩ (.int .i64 gg)).setCell ⟨b7, 11, none⟩ (.int .i64 hi)).setCell ⟨b7, 12, none⟩ (.int .i64 lo)).setCell ⟨b7, 13, none⟩ (.int .i64 vv)).cell? ⟨b8, 2, none⟩ = some (.int .i64 hi) ∧ (((((we.setCell ⟨b7, 9, none⟩ (.int .i64 ii)).setCell ⟨b7, 10, none⟩ (.int .i64 gg)).setCell ⟨b7, 11, none⟩ (.int .i64 hi)).setCell ⟨b7, 12, none⟩ (.int .i64 lo)).setCell ⟨b7, 13, none⟩ (.int .i64 vv)).cell? ⟨b8, 3, none⟩ = some (.int .i64 lo) by
          have CC := ((((CE.out.other (g := b7) (j := 9) (y := .int .i64 ii) NB.out).other (g := b7) (j := 10) (y := .int .i64 gg) NB.out).other (g := b7) (j := 11) (y := .int .i64 hi) NB.out).other (g := b7) (j := 12) (y := .int .i64 lo) NB.out).other (g := b7) (j := 13) (y := .int .i64 vv) NB.out
          exact ⟨(CC.get 0 _ rfl).1, (CC.get 1 _ rfl).1, (CC.get 2 _ rfl).1, (CC.get 3 _ rfl).1⟩)
        refine wpAnyH_ready (rs := [13]) (by kernel_rfl) (by simp) ?_
        refine AllReadyH.cons rfl (fun K hK => ?_) AllReadyH.nil
        go_simp
        go_wp2_with fail
        refine hK.out _ _ hS5.out (fun hS => ?_)
        clear hK K
        (try simp only [Act.put, List.setIfInBounds_toArray, List.set_cons_zero, List.set_cons_succ])
        refine wpAnyH_done (by kernel_rfl) ?_ _
        clear hS hS5
        generalize ((((we.setCell ⟨b7, 9, none⟩ (.int .i64 ii)).setCell ⟨b7, 10, none⟩ (.int .i64 gg)).setCell ⟨b7, 11, none⟩ (.int .i64 hi)).setCell ⟨b7, 12, none⟩ (.int .i64 lo)).setCell ⟨b7, 13, none⟩ (.int .i64 vv) = v5 at *
        clear c9 f9 c10 f10 c11 f11 c12 f12 c13 f13 ME CE
        go_upto_region 21 with fail
        have ka := (M5.out.p.cells.get 4 _ rfl).1
        have kb := (M5.out.p.cells.get 5 _ rfl).1
        go_wp2_with fail
        refine (dot_any wp wi 31 31 rfl _ (by decide) (by decide)).mono ?_
        rintro e w21 ⟨wa, wb, rfl, hwa, hwb, b21⟩
        have M21 := M5.out.below b21
        obtain ⟨ca, fa⟩ := M21.x.cells.get 4 _ rfl
        obtain ⟨cb, fb⟩ := M21.x.cells.get 5 _ rfl
        have M21 := (M21.set 4 (.int .i64 (wa : Int))).set 5 (.int .i64 (wb : Int))
        simp only [List.setIfInBounds_toArray, List.set_cons_zero, List.set_cons_succ] at M21
        have M21 := hide M21
        clear ka kb b21
        go_upto_region 22 with fail
        generalize (w21.setCell ⟨b7, 4, none⟩ (.int .i64 (wa : Int))).setCell ⟨b7, 5, none⟩ (.int .i64 (wb : Int)) = v21 at *
        clear ca fa cb fb M5
        have ka := (M21.out.p.cells.get 6 _ rfl).1
        have kb := (M21.out.p.cells.get 7 _ rfl).1
        go_wp2_with fail
        refine (dot_any sp si 84 84 rfl _ (by decide) (by decide)).mono ?_
        rintro e w22 ⟨sa, sb, rfl, hsa, hsb, b22⟩
        have M22 := M21.out.below b22
        obtain ⟨ca, fa⟩ := M22.x.cells.get 6 _ rfl
        obtain ⟨cb, fb⟩ := M22.x.cells.get 7 _ rfl
        have M22 := (M22.set 6 (.int .i64 (sa : Int))).set 7 (.int .i64 (sb : Int))
        simp only [List.setIfInBounds_toArray, List.set_cons_zero, List.set_cons_succ] at M22
        have M22 := hide M22
        clear ka kb b22
        go_upto_region 23 with fail
        generalize (w22.setCell ⟨b7, 6, none⟩ (.int .i64 (sa : Int))).setCell ⟨b7, 7, none⟩ (.int .i64 (sb : Int)) = v22 at *
        clear ca fa cb fb M21
        obtain ⟨x4, _⟩ := M22.out.x.cells.get 4 _ rfl
        obtain ⟨x6, fx6⟩ := M22.out.x.cells.get 6 _ rfl
        by_cases hsw : sa = wa
        · subst hsw
          obtain ⟨s2, hs2⟩ : ∃ s2 : Nat, s2 = (sa + 1) % 64 := ⟨_, rfl⟩
          have hs3 : ((sa : Int) + 1).tmod 64 = (s2 : Int) := by rw [Int.tmod_eq_emod_of_nonneg (by omega)]; omega
          have hs4 : s2 < 64 ∧ sa ≠ s2 := by omega
          have M24 := M22.out.set 6 (.int .i64 (s2 : Int))
          simp only [List.setIfInBounds_toArray, List.set_cons_zero, List.set_cons_succ] at M24
          have M24 := hide M24
          have HS2 := hide hs2
          clear hs2
          go_upto_region 25 with fail
          generalize v22.setCell ⟨b7, 6, none⟩ (.int .i64 (s2 : Int)) = v24 at *
          clear x4 x6 fx6 hs3
          go_wp2_with (first | refine wpList_load36 M24.out.x rfl rfl ?_ | (refine wpList_store36 M24.out.z rfl rfl rfl rfl rfl ?_; intro wf hbf hkf))
          exact bodyPost_ret (results_box rfl _ _ rfl hbf rfl) rfl ⟨_, ⟨0, 2, 0, 0, (sa : Int), (wb : Int), (s2 : Int), (sb : Int), 0, ii, gg, hi, lo, vv, [], [], 0⟩, rfl, ⟨none, none, 0, 0, rfl, World.ownsRow_nil _ _ _ _, World.ownsRow_nil _ _ _ _, nofun⟩, made_ctr h1 h2 ⟨by omega, by omega, by omega, by omega⟩ (by omega) hii2 (.inl ⟨rfl, rfl, rfl, rfl, hgg2, hvv.1, hvv.2, by have := HF.out; simp only [Fits] at this; omega⟩), M24.out.bel.trans (hkf.below M24.out.bel.size (fun k hk q => by omega))⟩
        · have hsw2 : ((sa : Int) == (wa : Int)) = false := by simp; omega
          have hsw3 : ¬ ((sa : Int) = (wa : Int)) := by omega
          go_upto_region 25 with fail
          clear x4 x6 fx6
          go_wp2_with (first | refine wpList_load36 M22.out.x rfl rfl ?_ | (refine wpList_store36 M22.out.z rfl rfl rfl rfl rfl ?_; intro wf hbf hkf))
          exact bodyPost_ret (results_box rfl _ _ rfl hbf rfl) rfl ⟨_, ⟨0, 2, 0, 0, (wa : Int), (wb : Int), (sa : Int), (sb : Int), 0, ii, gg, hi, lo, vv, [], [], 0⟩, rfl, ⟨none, none, 0, 0, rfl, World.ownsRow_nil _ _ _ _, World.ownsRow_nil _ _ _ _, nofun⟩, made_ctr h1 h2 ⟨by omega, by omega, by omega, by omega⟩ (by omega) hii2 (.inl ⟨rfl, rfl, rfl, rfl, hgg2, hvv.1, hvv.2, by have := HF.out; simp only [Fits] at this; omega⟩), M22.out.bel.trans (hkf.below M22.out.bel.size (fun k hk q => by omega))⟩
      · have dlh : decide (hi < lo) = false := by simpa using hlh
        go_upto_region 11 with fail
        go_cut [9] (fun s w' => (∃ vv : Int, s = .int .i64 vv ∧ lo ≤ vv ∧ vv ≤ hi) ∧ w' = w4)
        case first =>
          go_wp2_with fail
          all_goals (go_meet; exact ⟨⟨_, rfl, by omega, by omega⟩, rfl⟩)
        case rest =>
        obtain ⟨⟨vv, hs9, hvv⟩, hwc⟩ := hcut
        have hwc := hwc.symm
        subst hwc
        rw [hs9]
        clear hs9 g2 f2 g3 f3 g4
        obtain ⟨ct, ft⟩ := M4.out.x.cells.get 2 _ rfl
        have M6 := M4.out.set 2 (.int .i64 0)
        simp only [List.setIfInBounds_toArray, List.set_cons_zero, List.set_cons_succ] at M6
        have M6 := hide M6
        have CB6 := hide (CB.out.other (g := b7) (j := 2) (y := .int .i64 0) NB.out)
        go_upto_region 13 with fail
        generalize w4.setCell ⟨b7, 2, none⟩ (.int .i64 0) = w6 at *
        clear ct ft M4 CB
        have FX := hide (show w6.cell? ⟨b8, 0, none⟩ = some (.int .i64 id) ∧ w6.cell? ⟨b8, 1, none⟩ = some (.int .i64 grp) ∧ w6.cell? ⟨b8, 2, none⟩ = some (.int .i64 lo) ∧ w6.cell? ⟨b8, 3, none⟩ = some (.int .i64 hi) from ⟨(CB6.out.get 0 _ rfl).1, (CB6.out.get 1 _ rfl).1, (CB6.out.get 2 _ rfl).1, (CB6.out.get 3 _ rfl).1⟩)
        have ME := hide (M6.out.below (Below.refl _ _).drew)
        have CE := hide (CB6.out.drew)
        refine wp_region_held_drew (S := fun wq => wq.cell? ⟨b8, 0, none⟩ = some (.int .i64 id) ∧ wq.cell? ⟨b8, 1, none⟩ = some (.int .i64 grp) ∧ wq.cell? ⟨b8, 2, none⟩ = some (.int .i64 lo) ∧ wq.cell? ⟨b8, 3, none⟩ = some (.int .i64 hi)) (by kernel_rfl) FX.out (fun hS => ?_)
        generalize w6.drew = we at *
        clear FX M6 CB6
        refine take_at 0 (some 64) (v := ?_) rfl rfl (by kernel_rfl) (by kernel_rfl) (by kernel_rfl) (fun _ _ _ h => h) ⟨by rfl, ?_⟩ hS ?_
        rotate_left
        · intro wq hSw; go_simp; try rfl
        simp only [Act.put, List.setIfInBounds_toArray, List.set_cons_zero, List.set_cons_succ]
        refine take_at 1 (some 65) (v := ?_) rfl rfl (by kernel_rfl) (by kernel_rfl) (by kernel_rfl) (fun _ _ _ h => h) ⟨by rfl, ?_⟩ hS ?_
        rotate_left
        · intro wq hSw; obtain ⟨y0, y1, y2, y3⟩ := hSw; go_simp; try rfl
        simp only [Act.put, List.setIfInBounds_toArray, List.set_cons_zero, List.set_cons_succ]
        refine take_at 4 (some 68) (v := ?_) rfl rfl (by kernel_rfl) (by kernel_rfl) (by kernel_rfl) (fun _ _ _ h => h) ⟨by rfl, ?_⟩ hS ?_
        rotate_left
        · intro wq hSw; go_simp; try rfl
        simp only [Act.put, List.setIfInBounds_toArray, List.set_cons_zero, List.set_cons_succ]
        refine take_at 5 (some 69) (v := ?_) rfl rfl (by kernel_rfl) (by kernel_rfl) (by kernel_rfl) (fun _ _ _ h => h) ⟨by rfl, ?_⟩ hS ?_
        rotate_left
        · intro wq hSw; obtain ⟨y0, y1, y2, y3⟩ := hSw; go_simp; try rfl
        simp only [Act.put, List.setIfInBounds_toArray, List.set_cons_zero, List.set_cons_succ]
        refine take_at 8 (some 72) (v := ?_) rfl rfl (by kernel_rfl) (by kernel_rfl) (by kernel_rfl) (fun _ _ _ h => h) ⟨by rfl, ?_⟩ hS ?_
        rotate_left
        · intro wq hSw; go_simp; try rfl
        simp only [Act.put, List.setIfInBounds_toArray, List.set_cons_zero, List.set_cons_succ]
        refine take_at 9 (some 73) (v := ?_) rfl rfl (by kernel_rfl) (by kernel_rfl) (by kernel_rfl) (fun _ _ _ h => h) ⟨by rfl, ?_⟩ hS ?_
        rotate_left
        · intro wq hSw; obtain ⟨y0, y1, y2, y3⟩ := hSw; go_simp; try rfl
        simp only [Act.put, List.setIfInBounds_toArray, List.set_cons_zero, List.set_cons_succ]
        refine take_at 10 (some 74) (v := ?_) rfl rfl (by kernel_rfl) (by kernel_rfl) (by kernel_rfl) (fun _ _ _ h => h) ⟨by rfl, ?_⟩ hS ?_
        rotate_left
        · intro wq hSw; go_simp; try rfl
        simp only [Act.put, List.setIfInBounds_toArray, List.set_cons_zero, List.set_cons_succ]
        refine wpAnyH_ready (rs := [2]) (by kernel_rfl) (by simp) ?_
        refine AllReadyH.cons rfl (fun K hK => ?_) AllReadyH.nil
        go_simp
        go_wp2_with fail
        refine (brought_lit id 1048576 1048576 rfl _ (by decide) (by decide)).mono ?_
        rintro e w' ⟨yi, rfl, hyi, hw⟩
        obtain rfl : we = w' := hw.symm
        obtain ⟨ii, hii⟩ : ∃ ii : Int, 1 + (yi : Int) = ii := ⟨_, rfl⟩
        have hii2 : 1 ≤ ii ∧ ii ≤ 1048576 := by omega
        have ei : IntKind.i64.wrap ii = ii := by rw [IntKind.wrap_i64]; omega
        go_wp2_with fail
        refine hK.out _ _ hS (fun hS => ?_)
        clear hK K
        (try simp only [Act.put, List.setIfInBounds_toArray, List.set_cons_zero, List.set_cons_succ])
        refine take_at 3 (some 67) (v := ?_) rfl rfl (by kernel_rfl) (by kernel_rfl) (by kernel_rfl) (fun _ _ _ h => h) ⟨by rfl, ?_⟩ hS ?_
        rotate_left
        · intro wq hSw; go_simp; try rfl
        simp only [Act.put, List.setIfInBounds_toArray, List.set_cons_zero, List.set_cons_succ]
        clear hii
        refine wpAnyH_ready (rs := [6]) (by kernel_rfl) (by simp) ?_
        refine AllReadyH.cons rfl (fun K hK => ?_) AllReadyH.nil
        go_simp
        go_wp2_with fail
        refine (brought_lit grp 1048576 1048576 rfl _ (by decide) (by decide)).mono ?_
        rintro e w' ⟨yg, rfl, hyg, hw⟩
        obtain rfl : we = w' := hw.symm
        obtain ⟨gg, hgg⟩ : ∃ gg : Int, 1 + (yg : Int) = gg := ⟨_, rfl⟩
        have hgg2 : 1 ≤ gg ∧ gg ≤ 1048576 := by omega
        have eg : IntKind.i64.wrap gg = gg := by rw [IntKind.wrap_i64]; omega
        go_wp2_with fail
        refine hK.out _ _ hS (fun hS => ?_)
        clear hK K
        (try simp only [Act.put, List.setIfInBounds_toArray, List.set_cons_zero, List.set_cons_succ])
        refine take_at 7 (some 71) (v := ?_) rfl rfl (by kernel_rfl) (by kernel_rfl) (by kernel_rfl) (fun _ _ _ h => h) ⟨by rfl, ?_⟩ hS ?_
        rotate_left
        · intro wq hSw; go_simp; try rfl
        simp only [Act.put, List.setIfInBounds_toArray, List.set_cons_zero, List.set_cons_succ]
        clear hgg
        refine take_at 11 (some 75) (v := ?_) rfl rfl (by kernel_rfl) (by kernel_rfl) (by kernel_rfl) (fun _ _ _ h => h) ⟨by rfl, ?_⟩ hS ?_
        rotate_left
        · intro wq hSw; go_simp; try rfl
        simp only [Act.put, List.setIfInBounds_toArray, List.set_cons_zero, List.set_cons_succ]
        refine take_at 12 (some 76) (v := ?_) rfl rfl (by kernel_rfl) (by kernel_rfl) (by kernel_rfl) (fun _ _ _ h => h) ⟨by rfl, ?_⟩ hS ?_
        rotate_left
        · intro wq hSw; go_simp; try rfl
        simp only [Act.put, List.setIfInBounds_toArray, List.set_cons_zero, List.set_cons_succ]
        obtain ⟨c9, f9⟩ := ME.out.x.cells.get 9 _ rfl
        obtain ⟨c10, f10⟩ := ME.out.x.cells.get 10 _ rfl
        obtain ⟨c11, f11⟩ := ME.out.x.cells.get 11 _ rfl
        obtain ⟨c12, f12⟩ := ME.out.x.cells.get 12 _ rfl
        obtain ⟨c13, f13⟩ := ME.out.x.cells.get 13 _ rfl
        have M5 := ((((ME.out.set 9 (.int .i64 ii)).set 10 (.int .i64 gg)).set 11 (.int .i64 lo)).set 12 (.int .i64 hi)).set 13 (.int .i64 vv)
        simp only [List.setIfInBounds_toArray, List.set_cons_zero, List.set_cons_succ] at M5
        have M5 := hide M5
        have hS5 := hide (show (((((we.setCell ⟨b7, 9, none⟩ (.int .i64 ii)).setCell ⟨b7, 10, none⟩ (.int .i64 gg)).setCell ⟨b7, 11, none⟩ (.int .i64 lo)).setCell ⟨b7, 12, none⟩ (.int .i64 hi)).setCell ⟨b7, 13, none⟩ (.int .i64 vv)).cell? ⟨b8, 0, none⟩ = some (.int .i64 id) ∧ (((((we.setCell ⟨b7, 9, none⟩ (.int .i64 ii)).setCell ⟨b7, 10, none⟩ (.int .i64 gg)).setCell ⟨b7, 11, none⟩ (.int .i64 lo)).setCell ⟨b7, 12, none⟩ (.int .i64 hi)).setCell ⟨b7, 13, none⟩ (.int .i64 vv)).cell? ⟨b8, 1, none⟩ = some (.int .i64 grp) ∧ (((((we.setCell ⟨b7, 9, none⟩ (.int .i64 ii)).setCell ⟨b7, 10, none⟩ (.int .i64 gg)).setCell ⟨b7, 11, none⟩ (.int .i64 lo)).setCell ⟨b7, 12, none⟩ (.int .i64 hi)).setCell ⟨b7, 13, none⟩ (.int .i64 vv)).cell? ⟨b8, 2, none⟩ = some (.int .i64 lo) ∧ (((((we.setCell ⟨b7, 9, none⟩ (.int .i64 ii)).setCell ⟨b7, 10, none⟩ (.int .i64 gg)).setCell ⟨b7, 11, none⟩ (.int .i64 lo)).setCell ⟨b7, 12, none⟩ (.int .i64 hi)).setCell ⟨b7, 13, none⟩ (.int .i64 vv)).cell? ⟨b8, 3, none⟩ = some (.int .i64 hi) by
          have CC := ((((CE.out.other (g := b7) (j := 9) (y := .int .i64 ii) NB.out).other (g := b7) (j := 10) (y := .int .i64 gg) NB.out).other (g := b7) (j := 11) (y := .int .i64 lo) NB.out).other (g := b7) (j := 12) (y := .int .i64 hi) NB.out).other (g := b7) (j := 13) (y := .int .i64 vv) NB.out
          exact ⟨(CC.get 0 _ rfl).1, (CC.get 1 _ rfl).1, (CC.get 2 _ rfl).1, (CC.get 3 _ rfl).1⟩)
        refine wpAnyH_ready (rs := [13]) (by kernel_rfl) (by simp) ?_
        refine AllReadyH.cons rfl (fun K hK => ?_) AllReadyH.nil
        go_simp
        go_wp2_with fail
        refine hK.out _ _ hS5.out (fun hS => ?_)
        clear hK K
        (try simp only [Act.put, List.setIfInBounds_toArray, List.set_cons_zero, List.set_cons_succ])
        refine wpAnyH_done (by kernel_rfl) ?_ _
        clear hS hS5
        generalize ((((we.setCell ⟨b7, 9, none⟩ (.int .i64 ii)).setCell ⟨b7, 10, none⟩ (.int .i64 gg)).setCell ⟨b7, 11, none⟩ (.int .i64 lo)).setCell ⟨b7, 12, none⟩ (.int .i64 hi)).setCell ⟨b7, 13, none⟩ (.int .i64 vv) = v5 at *
        clear c9 f9 c10 f10 c11 f11 c12 f12 c13 f13 ME CE
        go_upto_region 21 with fail
        have ka := (M5.out.p.cells.get 4 _ rfl).1
        have kb := (M5.out.p.cells.get 5 _ rfl).1
        go_wp2_with fail
        refine (dot_any wp wi 31 31 rfl _ (by decide) (by decide)).mono ?_
        rintro e w21 ⟨wa, wb, rfl, hwa, hwb, b21⟩
        have M21 := M5.out.below b21
        obtain ⟨ca, fa⟩ := M21.x.cells.get 4 _ rfl
        obtain ⟨cb, fb⟩ := M21.x.cells.get 5 _ rfl
        have M21 := (M21.set 4 (.int .i64 (wa : Int))).set 5 (.int .i64 (wb : Int))
        simp only [List.setIfInBounds_toArray, List.set_cons_zero, List.set_cons_succ] at M21
        have M21 := hide M21
        clear ka kb b21
        go_upto_region 22 with fail
        generalize (w21.setCell ⟨b7, 4, none⟩ (.int .i64 (wa : Int))).setCell ⟨b7, 5, none⟩ (.int .i64 (wb : Int)) = v21 at *
        clear ca fa cb fb M5
        have ka := (M21.out.p.cells.get 6 _ rfl).1
        have kb := (M21.out.p.cells.get 7 _ rfl).1
        go_wp2_with fail
        refine (dot_any sp si 84 84 rfl _ (by decide) (by decide)).mono ?_
        rintro e w22 ⟨sa, sb, rfl, hsa, hsb, b22⟩
        have M22 := M21.out.below b22
        obtain ⟨ca, fa⟩ := M22.x.cells.get 6 _ rfl
        obtain ⟨cb, fb⟩ := M22.x.cells.get 7 _ rfl
        have M22 := (M22.set 6 (.int .i64 (sa : Int))).set 7 (.int .i64 (sb : Int))
        simp only [List.setIfInBounds_toArray, List.set_cons_zero, List.set_cons_succ] at M22
        have M22 := hide M22
        clear ka kb b22
        go_upto_region 23 with fail
        generalize (w22.setCell ⟨b7, 6, none⟩ (.int .i64 (sa : Int))).setCell ⟨b7, 7, none⟩ (.int .i64 (sb : Int)) = v22 at *
        clear ca fa cb fb M21
        obtain ⟨x4, _⟩ := M22.out.x.cells.get 4 _ rfl
        obtain ⟨x6, fx6⟩ := M22.out.x.cells.get 6 _ rfl
        by_cases hsw : sa = wa
        · subst hsw
          obtain ⟨s2, hs2⟩ : ∃ s2 : Nat, s2 = (sa + 1) % 64 := ⟨_, rfl⟩
          have hs3 : ((sa : Int) + 1).tmod 64 = (s2 : Int) := by rw [Int.tmod_eq_emod_of_nonneg (by omega)]; omega
          have hs4 : s2 < 64 ∧ sa ≠ s2 := by omega
          have M24 := M22.out.set 6 (.int .i64 (s2 : Int))
          simp only [List.setIfInBounds_toArray, List.set_cons_zero, List.set_cons_succ] at M24
          have M24 := hide M24
          have HS2 := hide hs2
          clear hs2
          go_upto_region 25 with fail
          generalize v22.setCell ⟨b7, 6, none⟩ (.int .i64 (s2 : Int)) = v24 at *
          clear x4 x6 fx6 hs3
          go_wp2_with (first | refine wpList_load36 M24.out.x rfl rfl ?_ | (refine wpList_store36 M24.out.z rfl rfl rfl rfl rfl ?_; intro wf hbf hkf))
          exact bodyPost_ret (results_box rfl _ _ rfl hbf rfl) rfl ⟨_, ⟨0, 2, 0, 0, (sa : Int), (wb : Int), (s2 : Int), (sb : Int), 0, ii, gg, lo, hi, vv, [], [], 0⟩, rfl, ⟨none, none, 0, 0, rfl, World.ownsRow_nil _ _ _ _, World.ownsRow_nil _ _ _ _, nofun⟩, made_ctr h1 h2 ⟨by omega, by omega, by omega, by omega⟩ (by omega) hii2 (.inl ⟨rfl, rfl, rfl, rfl, hgg2, hvv.1, hvv.2, by have := HF.out; simp only [Fits] at this; omega⟩), M24.out.bel.trans (hkf.below M24.out.bel.size (fun k hk q => by omega))⟩
        · have hsw2 : ((sa : Int) == (wa : Int)) = false := by simp; omega
          have hsw3 : ¬ ((sa : Int) = (wa : Int)) := by omega
          go_upto_region 25 with fail
          clear x4 x6 fx6
          go_wp2_with (first | refine wpList_load36 M22.out.x rfl rfl ?_ | (refine wpList_store36 M22.out.z rfl rfl rfl rfl rfl ?_; intro wf hbf hkf))
          exact bodyPost_ret (results_box rfl _ _ rfl hbf rfl) rfl ⟨_, ⟨0, 2, 0, 0, (wa : Int), (wb : Int), (sa : Int), (sb : Int), 0, ii, gg, lo, hi, vv, [], [], 0⟩, rfl, ⟨none, none, 0, 0, rfl, World.ownsRow_nil _ _ _ _, World.ownsRow_nil _ _ _ _, nofun⟩, made_ctr h1 h2 ⟨by omega, by omega, by omega, by omega⟩ (by omega) hii2 (.inl ⟨rfl, rfl, rfl, rfl, hgg2, hvv.1, hvv.2, by have := HF.out; simp only [Fits] at this; omega⟩), M22.out.bel.trans (hkf.below M22.out.bel.size (fun k hk q => by omega))⟩
    · have hl2 : decide ((lsn : Int) < 2) = false := by simp; omega
      have q9 := (M3.out.p.cells.get 9 _ rfl).1
      have q10 := (M3.out.p.cells.get 10 _ rfl).1
      have q11 := (M3.out.p.cells.get 11 _ rfl).1
      have q12 := (M3.out.p.cells.get 12 _ rfl).1
      have q13 := (M3.out.p.cells.get 13 _ rfl).1
      have CB := Cells.new w3 #[.int .i64 id, .int .i64 grp, .int .i64 lo, .int .i64 hi, .int .i64 val] 38
      have M4 := hide (M3.out.below (alloc_below w3 (.cells #[.int .i64 id, .int .i64 grp, .int .i64 lo, .int .i64 hi, .int .i64 val] 38)))
      have NB := hide (show b7 ≠ w3.heap.size from fun q => by have := M3.out.x.lt; omega)
      have NBs := hide (show w.heap.size + 1 < w3.heap.size from M3.out.z.lt)
      go_upto_region 9 with fail
      generalize w3.alloc (.cells #[.int .i64 id, .int .i64 grp, .int .i64 lo, .int .i64 hi, .int .i64 val] 38) = w4 at *
      generalize w3.heap.size = b8 at *
      have CB := hide CB
      clear q9 q10 q11 q12 q13 M3
      obtain ⟨g2, f2⟩ := CB.out.get 2 _ rfl
      obtain ⟨g3, f3⟩ := CB.out.get 3 _ rfl
      obtain ⟨g4, _⟩ := CB.out.get 4 _ rfl
      by_cases hlh : hi < lo
      · have dlh : decide (hi < lo) = true := by simpa using hlh
        have k4 : Keep (fun k => k = b8) w4 ((w4.setCell ⟨b8, 2, none⟩ (.int .i64 hi)).setCell ⟨b8, 3, none⟩ (.int .i64 lo)) := ((Keep.refl (fun k => k = b8) w4).setCell (fun _ => rfl) _).setCell (fun _ => rfl) _
        have M5 := hide (show MB w #[.int .i64 lsn0, .int .i64 kind, .int .i64 tx, .int .i64 prev, .int .i64 wp, .int .i64 wi, .int .i64 sp, .int .i64 si, .int .i64 delta, .int .i64 id, .int .i64 grp, .int .i64 lo, .int .i64 hi, .int .i64 val, .slice la live.length lc, .slice da dirty.length dc, .int .i64 next] b7 ((w4.setCell ⟨b8, 2, none⟩ (.int .i64 hi)).setCell ⟨b8, 3, none⟩ (.int .i64 lo)) #[.int .i64 0, .int .i64 2, .int .i64 tt, .int .i64 0, .int .i64 0, .int .i64 0, .int .i64 0, .int .i64 0, .int .i64 0, .int .i64 0, .int .i64 0, .int .i64 0, .int .i64 0, .int .i64 0, .slice none 0 0, .slice none 0 0, .int .i64 0] from ⟨M4.out.bel.trans (k4.below M4.out.bel.size (fun k hk q => by have := NBs.out; omega)), M4.out.p.keep k4 (by have := NBs.out; omega), M4.out.z.keep k4 (by have := NBs.out; omega), M4.out.x.keep k4 NB.out, M4.out.hb⟩)
        have CB5 := hide ((CB.out.stored (j := 2) (by simp) (.int .i64 hi)).stored (j := 3) (by simp) (.int .i64 lo))
        clear k4
        go_upto_region 11 with fail
        generalize (w4.setCell ⟨b8, 2, none⟩ (.int .i64 hi)).setCell ⟨b8, 3, none⟩ (.int .i64 lo) = w5 at *
        clear g2 f2 g3 f3 g4 CB M4
        obtain ⟨g2, _⟩ := CB5.out.get 2 _ rfl
        obtain ⟨g3, _⟩ := CB5.out.get 3 _ rfl
        obtain ⟨g4, _⟩ := CB5.out.get 4 _ rfl
        go_cut [9] (fun s w' => (∃ vv : Int, s = .int .i64 vv ∧ hi ≤ vv ∧ vv ≤ lo) ∧ w' = w5)
        case first =>
          go_wp2_with fail
          all_goals (go_meet; exact ⟨⟨_, rfl, by omega, by omega⟩, rfl⟩)
        case rest =>
        obtain ⟨⟨vv, hs9, hvv⟩, hwc⟩ := hcut
        have hwc := hwc.symm
        subst hwc
        rw [hs9]
        clear hs9 g2 g3 g4
        obtain ⟨ct, ft⟩ := M5.out.x.cells.get 2 _ rfl
        have M6 := M5.out.set 2 (.int .i64 0)
        simp only [List.setIfInBounds_toArray, List.set_cons_zero, List.set_cons_succ] at M6
        have M6 := hide M6
        have CB6 := hide (CB5.out.other (g := b7) (j := 2) (y := .int .i64 0) NB.out)
        go_upto_region 13 with fail
        generalize w5.setCell ⟨b7, 2, none⟩ (.int .i64 0) = w6 at *
        clear ct ft M5 CB5
        have FX := hide (show w6.cell? ⟨b8, 0, none⟩ = some (.int .i64 id) ∧ w6.cell? ⟨b8, 1, none⟩ = some (.int .i64 grp) ∧ w6.cell? ⟨b8, 2, none⟩ = some (.int .i64 hi) ∧ w6.cell? ⟨b8, 3, none⟩ = some (.int .i64 lo) from ⟨(CB6.out.get 0 _ rfl).1, (CB6.out.get 1 _ rfl).1, (CB6.out.get 2 _ rfl).1, (CB6.out.get 3 _ rfl).1⟩)
        have ME := hide (M6.out.below (Below.refl _ _).drew)
        have CE := hide (CB6.out.drew)
        refine wp_region_held_drew (S := fun wq => wq.cell? ⟨b8, 0, none⟩ = some (.int .i64 id) ∧ wq.cell? ⟨b8, 1, none⟩ = some (.int .i64 grp) ∧ wq.cell? ⟨b8, 2, none⟩ = some (.int .i64 hi) ∧ wq.cell? ⟨b8, 3, none⟩ = some (.int .i64 lo)) (by kernel_rfl) FX.out (fun hS => ?_)
        generalize w6.drew = we at *
        clear FX M6 CB6
        refine take_at 0 (some 64) (v := ?_) rfl rfl (by kernel_rfl) (by kernel_rfl) (by kernel_rfl) (fun _ _ _ h => h) ⟨by rfl, ?_⟩ hS ?_
        rotate_left
        · intro wq hSw; go_simp; try rfl
        simp only [Act.put, List.setIfInBounds_toArray, List.set_cons_zero, List.set_cons_succ]
        refine take_at 1 (some 65) (v := ?_) rfl rfl (by kernel_rfl) (by kernel_rfl) (by kernel_rfl) (fun _ _ _ h => h) ⟨by rfl, ?_⟩ hS ?_
        rotate_left
        · intro wq hSw; obtain ⟨y0, y1, y2, y3⟩ := hSw; go_simp; try rfl
        simp only [Act.put, List.setIfInBounds_toArray, List.set_cons_zero, List.set_cons_succ]
        refine take_at 4 (some 68) (v := ?_) rfl rfl (by kernel_rfl) (by kernel_rfl) (by kernel_rfl) (fun _ _ _ h => h) ⟨by rfl, ?_⟩ hS ?_
        rotate_left
        · intro wq hSw; go_simp; try rfl
        simp only [Act.put, List.setIfInBounds_toArray, List.set_cons_zero, List.set_cons_succ]
        refine take_at 5 (some 69) (v := ?_) rfl rfl (by kernel_rfl) (by kernel_rfl) (by kernel_rfl) (fun _ _ _ h => h) ⟨by rfl, ?_⟩ hS ?_
        rotate_left
        · intro wq hSw; obtain ⟨y0, y1, y2, y3⟩ := hSw; go_simp; try rfl
        simp only [Act.put, List.setIfInBounds_toArray, List.set_cons_zero, List.set_cons_succ]
        refine take_at 8 (some 72) (v := ?_) rfl rfl (by kernel_rfl) (by kernel_rfl) (by kernel_rfl) (fun _ _ _ h => h) ⟨by rfl, ?_⟩ hS ?_
        rotate_left
        · intro wq hSw; go_simp; try rfl
        simp only [Act.put, List.setIfInBounds_toArray, List.set_cons_zero, List.set_cons_succ]
        refine take_at 9 (some 73) (v := ?_) rfl rfl (by kernel_rfl) (by kernel_rfl) (by kernel_rfl) (fun _ _ _ h => h) ⟨by rfl, ?_⟩ hS ?_
        rotate_left
        · intro wq hSw; obtain ⟨y0, y1, y2, y3⟩ := hSw; go_simp; try rfl
        simp only [Act.put, List.setIfInBounds_toArray, List.set_cons_zero, List.set_cons_succ]
        refine take_at 10 (some 74) (v := ?_) rfl rfl (by kernel_rfl) (by kernel_rfl) (by kernel_rfl) (fun _ _ _ h => h) ⟨by rfl, ?_⟩ hS ?_
        rotate_left
        · intro wq hSw; go_simp; try rfl
        simp only [Act.put, List.setIfInBounds_toArray, List.set_cons_zero, List.set_cons_succ]
        refine wpAnyH_ready (rs := [2]) (by kernel_rfl) (by simp) ?_
        refine AllReadyH.cons rfl (fun K hK => ?_) AllReadyH.nil
        go_simp
        go_wp2_with fail
        refine (brought_lit id 1048576 1048576 rfl _ (by decide) (by decide)).mono ?_
        rintro e w' ⟨yi, rfl, hyi, hw⟩
        obtain rfl : we = w' := hw.symm
        obtain ⟨ii, hii⟩ : ∃ ii : Int, 1 + (yi : Int) = ii := ⟨_, rfl⟩
        have hii2 : 1 ≤ ii ∧ ii ≤ 1048576 := by omega
        have ei : IntKind.i64.wrap ii = ii := by rw [IntKind.wrap_i64]; omega
        go_wp2_with fail
        refine hK.out _ _ hS (fun hS => ?_)
        clear hK K
        (try simp only [Act.put, List.setIfInBounds_toArray, List.set_cons_zero, List.set_cons_succ])
        refine take_at 3 (some 67) (v := ?_) rfl rfl (by kernel_rfl) (by kernel_rfl) (by kernel_rfl) (fun _ _ _ h => h) ⟨by rfl, ?_⟩ hS ?_
        rotate_left
        · intro wq hSw; go_simp; try rfl
        simp only [Act.put, List.setIfInBounds_toArray, List.set_cons_zero, List.set_cons_succ]
        clear hii
        refine wpAnyH_ready (rs := [6]) (by kernel_rfl) (by simp) ?_
        refine AllReadyH.cons rfl (fun K hK => ?_) AllReadyH.nil
        go_simp
        go_wp2_with fail
        refine (brought_lit grp 1048576 1048576 rfl _ (by decide) (by decide)).mono ?_
        rintro e w' ⟨yg, rfl, hyg, hw⟩
        obtain rfl : we = w' := hw.symm
        obtain ⟨gg, hgg⟩ : ∃ gg : Int, 1 + (yg : Int) = gg := ⟨_, rfl⟩
        have hgg2 : 1 ≤ gg ∧ gg ≤ 1048576 := by omega
        have eg : IntKind.i64.wrap gg = gg := by rw [IntKind.wrap_i64]; omega
        go_wp2_with fail
        refine hK.out _ _ hS (fun hS => ?_)
        clear hK K
        (try simp only [Act.put, List.setIfInBounds_toArray, List.set_cons_zero, List.set_cons_succ])
        refine take_at 7 (some 71) (v := ?_) rfl rfl (by kernel_rfl) (by kernel_rfl) (by kernel_rfl) (fun _ _ _ h => h) ⟨by rfl, ?_⟩ hS ?_
        rotate_left
        · intro wq hSw; go_simp; try rfl
        simp only [Act.put, List.setIfInBounds_toArray, List.set_cons_zero, List.set_cons_succ]
        clear hgg
        refine take_at 11 (some 75) (v := ?_) rfl rfl (by kernel_rfl) (by kernel_rfl) (by kernel_rfl) (fun _ _ _ h => h) ⟨by rfl, ?_⟩ hS ?_
        rotate_left
        · intro wq hSw; go_simp; try rfl
        simp only [Act.put, List.setIfInBounds_toArray, List.set_cons_zero, List.set_cons_succ]
        refine take_at 12 (some 76) (v := ?_) rfl rfl (by kernel_rfl) (by kernel_rfl) (by kernel_rfl) (fun _ _ _ h => h) ⟨by rfl, ?_⟩ hS ?_
        rotate_left
        · intro wq hSw; go_simp; try rfl
        simp only [Act.put, List.setIfInBounds_toArray, List.set_cons_zero, List.set_cons_succ]
        obtain ⟨c9, f9⟩ := ME.out.x.cells.get 9 _ rfl
        obtain ⟨c10, f10⟩ := ME.out.x.cells.get 10 _ rfl
        obtain ⟨c11, f11⟩ := ME.out.x.cells.get 11 _ rfl
        obtain ⟨c12, f12⟩ := ME.out.x.cells.get 12 _ rfl
        obtain ⟨c13, f13⟩ := ME.out.x.cells.get 13 _ rfl
        have M5 := ((((ME.out.set 9 (.int .i64 ii)).set 10 (.int .i64 gg)).set 11 (.int .i64 hi)).set 12 (.int .i64 lo)).set 13 (.int .i64 vv)
        simp only [List.setIfInBounds_toArray, List.set_cons_zero, List.set_cons_succ] at M5
        have M5 := hide M5
        have hS5 := hide (show (((((we.setCell ⟨b7, 9, none⟩ (.int .i64 ii)).setCell ⟨b7, 10, none⟩ (.int .i64 gg)).setCell ⟨b7, 11, none⟩ (.int .i64 hi)).setCell ⟨b7, 12, none⟩ (.int .i64 lo)).setCell ⟨b7, 13, none⟩ (.int .i64 vv)).cell? ⟨b8, 0, none⟩ = some (.int .i64 id) ∧ (((((we.setCell ⟨b7, 9, none⟩ (.int .i64 ii)).setCell ⟨b7, 10, none⟩ (.int .i64 gg)).setCell ⟨b7, 11, none⟩ (.int .i64 hi)).setCell ⟨b7, 12, none⟩ (.int .i64 lo)).setCell ⟨b7, 13, none⟩ (.int .i64 vv)).cell? ⟨b8, 1, none⟩ = some (.int .i64 grp) ∧ (((((we.setCell ⟨b7, 9, none⟩ (.int .i64 ii)).setCell ⟨b7, 10, none⟩ (.int .i64 gg)).setCell ⟨b7, 11, none⟩ (.int .i64 hi)).setCell ⟨b7, 12, none⟩ (.int .i64 lo)).setCell ⟨b7, 13, none⟩ (.int .i64 vv)).cell? ⟨b8, 2, none⟩ = some (.int .i64 hi) ∧ (((((we.setCell ⟨b7, 9, none⟩ (.int .i64 ii)).setCell ⟨b7, 10, none⟩ (.int .i64 gg)).setCell ⟨b7, 11, none⟩ (.int .i64 hi)).setCell ⟨b7, 12, none⟩ (.int .i64 lo)).setCell ⟨b7, 13, none⟩ (.int .i64 vv)).cell? ⟨b8, 3, none⟩ = some (.int .i64 lo) by
          have CC := ((((CE.out.other (g := b7) (j := 9) (y := .int .i64 ii) NB.out).other (g := b7) (j := 10) (y := .int .i64 gg) NB.out).other (g := b7) (j := 11) (y := .int .i64 hi) NB.out).other (g := b7) (j := 12) (y := .int .i64 lo) NB.out).other (g := b7) (j := 13) (y := .int .i64 vv) NB.out
          exact ⟨(CC.get 0 _ rfl).1, (CC.get 1 _ rfl).1, (CC.get 2 _ rfl).1, (CC.get 3 _ rfl).1⟩)
        refine wpAnyH_ready (rs := [13]) (by kernel_rfl) (by simp) ?_
        refine AllReadyH.cons rfl (fun K hK => ?_) AllReadyH.nil
        go_simp
        go_wp2_with fail
        refine hK.out _ _ hS5.out (fun hS => ?_)
        clear hK K
        (try simp only [Act.put, List.setIfInBounds_toArray, List.set_cons_zero, List.set_cons_succ])
        refine wpAnyH_done (by kernel_rfl) ?_ _
        clear hS hS5
        generalize ((((we.setCell ⟨b7, 9, none⟩ (.int .i64 ii)).setCell ⟨b7, 10, none⟩ (.int .i64 gg)).setCell ⟨b7, 11, none⟩ (.int .i64 hi)).setCell ⟨b7, 12, none⟩ (.int .i64 lo)).setCell ⟨b7, 13, none⟩ (.int .i64 vv) = v5 at *
        clear c9 f9 c10 f10 c11 f11 c12 f12 c13 f13 ME CE
        go_upto_region 21 with fail
        have ka := (M5.out.p.cells.get 4 _ rfl).1
        have kb := (M5.out.p.cells.get 5 _ rfl).1
        go_wp2_with fail
        refine (dot_any wp wi 31 31 rfl _ (by decide) (by decide)).mono ?_
        rintro e w21 ⟨wa, wb, rfl, hwa, hwb, b21⟩
        have M21 := M5.out.below b21
        obtain ⟨ca, fa⟩ := M21.x.cells.get 4 _ rfl
        obtain ⟨cb, fb⟩ := M21.x.cells.get 5 _ rfl
        have M21 := (M21.set 4 (.int .i64 (wa : Int))).set 5 (.int .i64 (wb : Int))
        simp only [List.setIfInBounds_toArray, List.set_cons_zero, List.set_cons_succ] at M21
        have M21 := hide M21
        clear ka kb b21
        go_upto_region 22 with fail
        generalize (w21.setCell ⟨b7, 4, none⟩ (.int .i64 (wa : Int))).setCell ⟨b7, 5, none⟩ (.int .i64 (wb : Int)) = v21 at *
        clear ca fa cb fb M5
        have ka := (M21.out.p.cells.get 6 _ rfl).1
        have kb := (M21.out.p.cells.get 7 _ rfl).1
        go_wp2_with fail
        refine (dot_any sp si 84 84 rfl _ (by decide) (by decide)).mono ?_
        rintro e w22 ⟨sa, sb, rfl, hsa, hsb, b22⟩
        have M22 := M21.out.below b22
        obtain ⟨ca, fa⟩ := M22.x.cells.get 6 _ rfl
        obtain ⟨cb, fb⟩ := M22.x.cells.get 7 _ rfl
        have M22 := (M22.set 6 (.int .i64 (sa : Int))).set 7 (.int .i64 (sb : Int))
        simp only [List.setIfInBounds_toArray, List.set_cons_zero, List.set_cons_succ] at M22
        have M22 := hide M22
        clear ka kb b22
        go_upto_region 23 with fail
        generalize (w22.setCell ⟨b7, 6, none⟩ (.int .i64 (sa : Int))).setCell ⟨b7, 7, none⟩ (.int .i64 (sb : Int)) = v22 at *
        clear ca fa cb fb M21
        obtain ⟨x4, _⟩ := M22.out.x.cells.get 4 _ rfl
        obtain ⟨x6, fx6⟩ := M22.out.x.cells.get 6 _ rfl
        by_cases hsw : sa = wa
        · subst hsw
          obtain ⟨s2, hs2⟩ : ∃ s2 : Nat, s2 = (sa + 1) % 64 := ⟨_, rfl⟩
          have hs3 : ((sa : Int) + 1).tmod 64 = (s2 : Int) := by rw [Int.tmod_eq_emod_of_nonneg (by omega)]; omega
          have hs4 : s2 < 64 ∧ sa ≠ s2 := by omega
          have M24 := M22.out.set 6 (.int .i64 (s2 : Int))
          simp only [List.setIfInBounds_toArray, List.set_cons_zero, List.set_cons_succ] at M24
          have M24 := hide M24
          have HS2 := hide hs2
          clear hs2
          go_upto_region 25 with fail
          generalize v22.setCell ⟨b7, 6, none⟩ (.int .i64 (s2 : Int)) = v24 at *
          clear x4 x6 fx6 hs3
          go_wp2_with (first | refine wpList_load36 M24.out.x rfl rfl ?_ | (refine wpList_store36 M24.out.z rfl rfl rfl rfl rfl ?_; intro wf hbf hkf))
          exact bodyPost_ret (results_box rfl _ _ rfl hbf rfl) rfl ⟨_, ⟨0, 2, 0, 0, (sa : Int), (wb : Int), (s2 : Int), (sb : Int), 0, ii, gg, hi, lo, vv, [], [], 0⟩, rfl, ⟨none, none, 0, 0, rfl, World.ownsRow_nil _ _ _ _, World.ownsRow_nil _ _ _ _, nofun⟩, made_ctr h1 h2 ⟨by omega, by omega, by omega, by omega⟩ (by omega) hii2 (.inl ⟨rfl, rfl, rfl, rfl, hgg2, hvv.1, hvv.2, by have := HF.out; simp only [Fits] at this; omega⟩), M24.out.bel.trans (hkf.below M24.out.bel.size (fun k hk q => by omega))⟩
        · have hsw2 : ((sa : Int) == (wa : Int)) = false := by simp; omega
          have hsw3 : ¬ ((sa : Int) = (wa : Int)) := by omega
          go_upto_region 25 with fail
          clear x4 x6 fx6
          go_wp2_with (first | refine wpList_load36 M22.out.x rfl rfl ?_ | (refine wpList_store36 M22.out.z rfl rfl rfl rfl rfl ?_; intro wf hbf hkf))
          exact bodyPost_ret (results_box rfl _ _ rfl hbf rfl) rfl ⟨_, ⟨0, 2, 0, 0, (wa : Int), (wb : Int), (sa : Int), (sb : Int), 0, ii, gg, hi, lo, vv, [], [], 0⟩, rfl, ⟨none, none, 0, 0, rfl, World.ownsRow_nil _ _ _ _, World.ownsRow_nil _ _ _ _, nofun⟩, made_ctr h1 h2 ⟨by omega, by omega, by omega, by omega⟩ (by omega) hii2 (.inl ⟨rfl, rfl, rfl, rfl, hgg2, hvv.1, hvv.2, by have := HF.out; simp only [Fits] at this; omega⟩), M22.out.bel.trans (hkf.below M22.out.bel.size (fun k hk q => by omega))⟩
      · have dlh : decide (hi < lo) = false := by simpa using hlh
        go_upto_region 11 with fail
        go_cut [9] (fun s w' => (∃ vv : Int, s = .int .i64 vv ∧ lo ≤ vv ∧ vv ≤ hi) ∧ w' = w4)
        case first =>
          go_wp2_with fail
          all_goals (go_meet; exact ⟨⟨_, rfl, by omega, by omega⟩, rfl⟩)
        case rest =>
        obtain ⟨⟨vv, hs9, hvv⟩, hwc⟩ := hcut
        have hwc := hwc.symm
        subst hwc
        rw [hs9]
        clear hs9 g2 f2 g3 f3 g4
        obtain ⟨ct, ft⟩ := M4.out.x.cells.get 2 _ rfl
        have M6 := M4.out.set 2 (.int .i64 0)
        simp only [List.setIfInBounds_toArray, List.set_cons_zero, List.set_cons_succ] at M6
        have M6 := hide M6
        have CB6 := hide (CB.out.other (g := b7) (j := 2) (y := .int .i64 0) NB.out)
        go_upto_region 13 with fail
        generalize w4.setCell ⟨b7, 2, none⟩ (.int .i64 0) = w6 at *
        clear ct ft M4 CB
        have FX := hide (show w6.cell? ⟨b8, 0, none⟩ = some (.int .i64 id) ∧ w6.cell? ⟨b8, 1, none⟩ = some (.int .i64 grp) ∧ w6.cell? ⟨b8, 2, none⟩ = some (.int .i64 lo) ∧ w6.cell? ⟨b8, 3, none⟩ = some (.int .i64 hi) from ⟨(CB6.out.get 0 _ rfl).1, (CB6.out.get 1 _ rfl).1, (CB6.out.get 2 _ rfl).1, (CB6.out.get 3 _ rfl).1⟩)
        have ME := hide (M6.out.below (Below.refl _ _).drew)
        have CE := hide (CB6.out.drew)
        refine wp_region_held_drew (S := fun wq => wq.cell? ⟨b8, 0, none⟩ = some (.int .i64 id) ∧ wq.cell? ⟨b8, 1, none⟩ = some (.int .i64 grp) ∧ wq.cell? ⟨b8, 2, none⟩ = some (.int .i64 lo) ∧ wq.cell? ⟨b8, 3, none⟩ = some (.int .i64 hi)) (by kernel_rfl) FX.out (fun hS => ?_)
        generalize w6.drew = we at *
        clear FX M6 CB6
        refine take_at 0 (some 64) (v := ?_) rfl rfl (by kernel_rfl) (by kernel_rfl) (by kernel_rfl) (fun _ _ _ h => h) ⟨by rfl, ?_⟩ hS ?_
        rotate_left
        · intro wq hSw; go_simp; try rfl
        simp only [Act.put, List.setIfInBounds_toArray, List.set_cons_zero, List.set_cons_succ]
        refine take_at 1 (some 65) (v := ?_) rfl rfl (by kernel_rfl) (by kernel_rfl) (by kernel_rfl) (fun _ _ _ h => h) ⟨by rfl, ?_⟩ hS ?_
        rotate_left
        · intro wq hSw; obtain ⟨y0, y1, y2, y3⟩ := hSw; go_simp; try rfl
        simp only [Act.put, List.setIfInBounds_toArray, List.set_cons_zero, List.set_cons_succ]
        refine take_at 4 (some 68) (v := ?_) rfl rfl (by kernel_rfl) (by kernel_rfl) (by kernel_rfl) (fun _ _ _ h => h) ⟨by rfl, ?_⟩ hS ?_
        rotate_left
        · intro wq hSw; go_simp; try rfl
        simp only [Act.put, List.setIfInBounds_toArray, List.set_cons_zero, List.set_cons_succ]
        refine take_at 5 (some 69) (v := ?_) rfl rfl (by kernel_rfl) (by kernel_rfl) (by kernel_rfl) (fun _ _ _ h => h) ⟨by rfl, ?_⟩ hS ?_
        rotate_left
        · intro wq hSw; obtain ⟨y0, y1, y2, y3⟩ := hSw; go_simp; try rfl
        simp only [Act.put, List.setIfInBounds_toArray, List.set_cons_zero, List.set_cons_succ]
        refine take_at 8 (some 72) (v := ?_) rfl rfl (by kernel_rfl) (by kernel_rfl) (by kernel_rfl) (fun _ _ _ h => h) ⟨by rfl, ?_⟩ hS ?_
        rotate_left
        · intro wq hSw; go_simp; try rfl
        simp only [Act.put, List.setIfInBounds_toArray, List.set_cons_zero, List.set_cons_succ]
        refine take_at 9 (some 73) (v := ?_) rfl rfl (by kernel_rfl) (by kernel_rfl) (by kernel_rfl) (fun _ _ _ h => h) ⟨by rfl, ?_⟩ hS ?_
        rotate_left
        · intro wq hSw; obtain ⟨y0, y1, y2, y3⟩ := hSw; go_simp; try rfl
        simp only [Act.put, List.setIfInBounds_toArray, List.set_cons_zero, List.set_cons_succ]
        refine take_at 10 (some 74) (v := ?_) rfl rfl (by kernel_rfl) (by kernel_rfl) (by kernel_rfl) (fun _ _ _ h => h) ⟨by rfl, ?_⟩ hS ?_
        rotate_left
        · intro wq hSw; go_simp; try rfl
        simp only [Act.put, List.setIfInBounds_toArray, List.set_cons_zero, List.set_cons_succ]
        refine wpAnyH_ready (rs := [2]) (by kernel_rfl) (by simp) ?_
        refine AllReadyH.cons rfl (fun K hK => ?_) AllReadyH.nil
        go_simp
        go_wp2_with fail
        refine (brought_lit id 1048576 1048576 rfl _ (by decide) (by decide)).mono ?_
        rintro e w' ⟨yi, rfl, hyi, hw⟩
        obtain rfl : we = w' := hw.symm
        obtain ⟨ii, hii⟩ : ∃ ii : Int, 1 + (yi : Int) = ii := ⟨_, rfl⟩
        have hii2 : 1 ≤ ii ∧ ii ≤ 1048576 := by omega
        have ei : IntKind.i64.wrap ii = ii := by rw [IntKind.wrap_i64]; omega
        go_wp2_with fail
        refine hK.out _ _ hS (fun hS => ?_)
        clear hK K
        (try simp only [Act.put, List.setIfInBounds_toArray, List.set_cons_zero, List.set_cons_succ])
        refine take_at 3 (some 67) (v := ?_) rfl rfl (by kernel_rfl) (by kernel_rfl) (by kernel_rfl) (fun _ _ _ h => h) ⟨by rfl, ?_⟩ hS ?_
        rotate_left
        · intro wq hSw; go_simp; try rfl
        simp only [Act.put, List.setIfInBounds_toArray, List.set_cons_zero, List.set_cons_succ]
        clear hii
        refine wpAnyH_ready (rs := [6]) (by kernel_rfl) (by simp) ?_
        refine AllReadyH.cons rfl (fun K hK => ?_) AllReadyH.nil
        go_simp
        go_wp2_with fail
        refine (brought_lit grp 1048576 1048576 rfl _ (by decide) (by decide)).mono ?_
        rintro e w' ⟨yg, rfl, hyg, hw⟩
        obtain rfl : we = w' := hw.symm
        obtain ⟨gg, hgg⟩ : ∃ gg : Int, 1 + (yg : Int) = gg := ⟨_, rfl⟩
        have hgg2 : 1 ≤ gg ∧ gg ≤ 1048576 := by omega
        have eg : IntKind.i64.wrap gg = gg := by rw [IntKind.wrap_i64]; omega
        go_wp2_with fail
        refine hK.out _ _ hS (fun hS => ?_)
        clear hK K
        (try simp only [Act.put, List.setIfInBounds_toArray, List.set_cons_zero, List.set_cons_succ])
        refine take_at 7 (some 71) (v := ?_) rfl rfl (by kernel_rfl) (by kernel_rfl) (by kernel_rfl) (fun _ _ _ h => h) ⟨by rfl, ?_⟩ hS ?_
        rotate_left
        · intro wq hSw; go_simp; try rfl
        simp only [Act.put, List.setIfInBounds_toArray, List.set_cons_zero, List.set_cons_succ]
        clear hgg
        refine take_at 11 (some 75) (v := ?_) rfl rfl (by kernel_rfl) (by kernel_rfl) (by kernel_rfl) (fun _ _ _ h => h) ⟨by rfl, ?_⟩ hS ?_
        rotate_left
        · intro wq hSw; go_simp; try rfl
        simp only [Act.put, List.setIfInBounds_toArray, List.set_cons_zero, List.set_cons_succ]
        refine take_at 12 (some 76) (v := ?_) rfl rfl (by kernel_rfl) (by kernel_rfl) (by kernel_rfl) (fun _ _ _ h => h) ⟨by rfl, ?_⟩ hS ?_
        rotate_left
        · intro wq hSw; go_simp; try rfl
        simp only [Act.put, List.setIfInBounds_toArray, List.set_cons_zero, List.set_cons_succ]
        obtain ⟨c9, f9⟩ := ME.out.x.cells.get 9 _ rfl
        obtain ⟨c10, f10⟩ := ME.out.x.cells.get 10 _ rfl
        obtain ⟨c11, f11⟩ := ME.out.x.cells.get 11 _ rfl
        obtain ⟨c12, f12⟩ := ME.out.x.cells.get 12 _ rfl
        obtain ⟨c13, f13⟩ := ME.out.x.cells.get 13 _ rfl
        have M5 := ((((ME.out.set 9 (.int .i64 ii)).set 10 (.int .i64 gg)).set 11 (.int .i64 lo)).set 12 (.int .i64 hi)).set 13 (.int .i64 vv)
        simp only [List.setIfInBounds_toArray, List.set_cons_zero, List.set_cons_succ] at M5
        have M5 := hide M5
        have hS5 := hide (show (((((we.setCell ⟨b7, 9, none⟩ (.int .i64 ii)).setCell ⟨b7, 10, none⟩ (.int .i64 gg)).setCell ⟨b7, 11, none⟩ (.int .i64 lo)).setCell ⟨b7, 12, none⟩ (.int .i64 hi)).setCell ⟨b7, 13, none⟩ (.int .i64 vv)).cell? ⟨b8, 0, none⟩ = some (.int .i64 id) ∧ (((((we.setCell ⟨b7, 9, none⟩ (.int .i64 ii)).setCell ⟨b7, 10, none⟩ (.int .i64 gg)).setCell ⟨b7, 11, none⟩ (.int .i64 lo)).setCell ⟨b7, 12, none⟩ (.int .i64 hi)).setCell ⟨b7, 13, none⟩ (.int .i64 vv)).cell? ⟨b8, 1, none⟩ = some (.int .i64 grp) ∧ (((((we.setCell ⟨b7, 9, none⟩ (.int .i64 ii)).setCell ⟨b7, 10, none⟩ (.int .i64 gg)).setCell ⟨b7, 11, none⟩ (.int .i64 lo)).setCell ⟨b7, 12, none⟩ (.int .i64 hi)).setCell ⟨b7, 13, none⟩ (.int .i64 vv)).cell? ⟨b8, 2, none⟩ = some (.int .i64 lo) ∧ (((((we.setCell ⟨b7, 9, none⟩ (.int .i64 ii)).setCell ⟨b7, 10, none⟩ (.int .i64 gg)).setCell ⟨b7, 11, none⟩ (.int .i64 lo)).setCell ⟨b7, 12, none⟩ (.int .i64 hi)).setCell ⟨b7, 13, none⟩ (.int .i64 vv)).cell? ⟨b8, 3, none⟩ = some (.int .i64 hi) by
          have CC := ((((CE.out.other (g := b7) (j := 9) (y := .int .i64 ii) NB.out).other (g := b7) (j := 10) (y := .int .i64 gg) NB.out).other (g := b7) (j := 11) (y := .int .i64 lo) NB.out).other (g := b7) (j := 12) (y := .int .i64 hi) NB.out).other (g := b7) (j := 13) (y := .int .i64 vv) NB.out
          exact ⟨(CC.get 0 _ rfl).1, (CC.get 1 _ rfl).1, (CC.get 2 _ rfl).1, (CC.get 3 _ rfl).1⟩)
        refine wpAnyH_ready (rs := [13]) (by kernel_rfl) (by simp) ?_
        refine AllReadyH.cons rfl (fun K hK => ?_) AllReadyH.nil
        go_simp
        go_wp2_with fail
        refine hK.out _ _ hS5.out (fun hS => ?_)
        clear hK K
        (try simp only [Act.put, List.setIfInBounds_toArray, List.set_cons_zero, List.set_cons_succ])
        refine wpAnyH_done (by kernel_rfl) ?_ _
        clear hS hS5
        generalize ((((we.setCell ⟨b7, 9, none⟩ (.int .i64 ii)).setCell ⟨b7, 10, none⟩ (.int .i64 gg)).setCell ⟨b7, 11, none⟩ (.int .i64 lo)).setCell ⟨b7, 12, none⟩ (.int .i64 hi)).setCell ⟨b7, 13, none⟩ (.int .i64 vv) = v5 at *
        clear c9 f9 c10 f10 c11 f11 c12 f12 c13 f13 ME CE
        go_upto_region 21 with fail
        have ka := (M5.out.p.cells.get 4 _ rfl).1
        have kb := (M5.out.p.cells.get 5 _ rfl).1
        go_wp2_with fail
        refine (dot_any wp wi 31 31 rfl _ (by decide) (by decide)).mono ?_
        rintro e w21 ⟨wa, wb, rfl, hwa, hwb, b21⟩
        have M21 := M5.out.below b21
        obtain ⟨ca, fa⟩ := M21.x.cells.get 4 _ rfl
        obtain ⟨cb, fb⟩ := M21.x.cells.get 5 _ rfl
        have M21 := (M21.set 4 (.int .i64 (wa : Int))).set 5 (.int .i64 (wb : Int))
        simp only [List.setIfInBounds_toArray, List.set_cons_zero, List.set_cons_succ] at M21
        have M21 := hide M21
        clear ka kb b21
        go_upto_region 22 with fail
        generalize (w21.setCell ⟨b7, 4, none⟩ (.int .i64 (wa : Int))).setCell ⟨b7, 5, none⟩ (.int .i64 (wb : Int)) = v21 at *
        clear ca fa cb fb M5
        have ka := (M21.out.p.cells.get 6 _ rfl).1
        have kb := (M21.out.p.cells.get 7 _ rfl).1
        go_wp2_with fail
        refine (dot_any sp si 84 84 rfl _ (by decide) (by decide)).mono ?_
        rintro e w22 ⟨sa, sb, rfl, hsa, hsb, b22⟩
        have M22 := M21.out.below b22
        obtain ⟨ca, fa⟩ := M22.x.cells.get 6 _ rfl
        obtain ⟨cb, fb⟩ := M22.x.cells.get 7 _ rfl
        have M22 := (M22.set 6 (.int .i64 (sa : Int))).set 7 (.int .i64 (sb : Int))
        simp only [List.setIfInBounds_toArray, List.set_cons_zero, List.set_cons_succ] at M22
        have M22 := hide M22
        clear ka kb b22
        go_upto_region 23 with fail
        generalize (w22.setCell ⟨b7, 6, none⟩ (.int .i64 (sa : Int))).setCell ⟨b7, 7, none⟩ (.int .i64 (sb : Int)) = v22 at *
        clear ca fa cb fb M21
        obtain ⟨x4, _⟩ := M22.out.x.cells.get 4 _ rfl
        obtain ⟨x6, fx6⟩ := M22.out.x.cells.get 6 _ rfl
        by_cases hsw : sa = wa
        · subst hsw
          obtain ⟨s2, hs2⟩ : ∃ s2 : Nat, s2 = (sa + 1) % 64 := ⟨_, rfl⟩
          have hs3 : ((sa : Int) + 1).tmod 64 = (s2 : Int) := by rw [Int.tmod_eq_emod_of_nonneg (by omega)]; omega
          have hs4 : s2 < 64 ∧ sa ≠ s2 := by omega
          have M24 := M22.out.set 6 (.int .i64 (s2 : Int))
          simp only [List.setIfInBounds_toArray, List.set_cons_zero, List.set_cons_succ] at M24
          have M24 := hide M24
          have HS2 := hide hs2
          clear hs2
          go_upto_region 25 with fail
          generalize v22.setCell ⟨b7, 6, none⟩ (.int .i64 (s2 : Int)) = v24 at *
          clear x4 x6 fx6 hs3
          go_wp2_with (first | refine wpList_load36 M24.out.x rfl rfl ?_ | (refine wpList_store36 M24.out.z rfl rfl rfl rfl rfl ?_; intro wf hbf hkf))
          exact bodyPost_ret (results_box rfl _ _ rfl hbf rfl) rfl ⟨_, ⟨0, 2, 0, 0, (sa : Int), (wb : Int), (s2 : Int), (sb : Int), 0, ii, gg, lo, hi, vv, [], [], 0⟩, rfl, ⟨none, none, 0, 0, rfl, World.ownsRow_nil _ _ _ _, World.ownsRow_nil _ _ _ _, nofun⟩, made_ctr h1 h2 ⟨by omega, by omega, by omega, by omega⟩ (by omega) hii2 (.inl ⟨rfl, rfl, rfl, rfl, hgg2, hvv.1, hvv.2, by have := HF.out; simp only [Fits] at this; omega⟩), M24.out.bel.trans (hkf.below M24.out.bel.size (fun k hk q => by omega))⟩
        · have hsw2 : ((sa : Int) == (wa : Int)) = false := by simp; omega
          have hsw3 : ¬ ((sa : Int) = (wa : Int)) := by omega
          go_upto_region 25 with fail
          clear x4 x6 fx6
          go_wp2_with (first | refine wpList_load36 M22.out.x rfl rfl ?_ | (refine wpList_store36 M22.out.z rfl rfl rfl rfl rfl ?_; intro wf hbf hkf))
          exact bodyPost_ret (results_box rfl _ _ rfl hbf rfl) rfl ⟨_, ⟨0, 2, 0, 0, (wa : Int), (wb : Int), (sa : Int), (sb : Int), 0, ii, gg, lo, hi, vv, [], [], 0⟩, rfl, ⟨none, none, 0, 0, rfl, World.ownsRow_nil _ _ _ _, World.ownsRow_nil _ _ _ _, nofun⟩, made_ctr h1 h2 ⟨by omega, by omega, by omega, by omega⟩ (by omega) hii2 (.inl ⟨rfl, rfl, rfl, rfl, hgg2, hvv.1, hvv.2, by have := HF.out; simp only [Fits] at this; omega⟩), M22.out.bel.trans (hkf.below M22.out.bel.size (fun k hk q => by omega))⟩
  · by_cases hls : lsn < 2
    · have hl2 : decide ((lsn : Int) < 2) = true := by simp; omega
      go_wp2_with (first | refine wpList_load36 M3.out.x rfl rfl ?_ | (refine wpList_store36 M3.out.z rfl rfl rfl rfl rfl ?_; intro wf hbf hkf))
      exact bodyPost_ret (results_box rfl _ _ rfl hbf rfl) rfl ⟨_, ⟨0, 1, tt, 0, 0, 0, 0, 0, 0, 0, 0, 0, 0, 0, [], [], 0⟩, rfl, ⟨none, none, 0, 0, rfl, World.ownsRow_nil _ _ _ _, World.ownsRow_nil _ _ _ _, nofun⟩, made_tx h1 h2 htt2 (.inl ⟨rfl, rfl⟩), M3.out.bel.trans (hkf.below M3.out.bel.size (fun k hk q => by omega))⟩
    · have hl2 : decide ((lsn : Int) < 2) = false := by simp; omega
      obtain ⟨m1, hm1⟩ : ∃ m1 : Nat, lsn = m1 + 1 := ⟨lsn - 1, by omega⟩
      have e52 : IntKind.i64.wrap ((lsn : Int) - 1) = (m1 : Int) := by rw [IntKind.wrap_i64]; omega
      have e53 : (lsn : Int) - 1 = (m1 : Int) := by omega
      have hm12 : 1 ≤ m1 ∧ m1 ≤ 100000 := by omega
      have HM1 := hide hm1
      clear hm1
      have ki := (M3.out.p.cells.get 9 _ rfl).1
      go_wp2_with fail
      refine (brought_lit id 1048576 1048576 rfl _ (by decide) (by decide)).mono ?_
      rintro e w' ⟨yi, rfl, hyi, hw⟩
      obtain rfl : w3 = w' := hw.symm
      obtain ⟨ii, hii⟩ : ∃ ii : Int, 1 + (yi : Int) = ii := ⟨_, rfl⟩
      have hii2 : 1 ≤ ii ∧ ii ≤ 1048576 := by omega
      obtain ⟨c9, f9⟩ := M3.out.x.cells.get 9 _ rfl
      obtain ⟨c10, f10⟩ := M3.out.x.cells.get 10 _ rfl
      obtain ⟨c11, f11⟩ := M3.out.x.cells.get 11 _ rfl
      obtain ⟨c12, f12⟩ := M3.out.x.cells.get 12 _ rfl
      obtain ⟨c13, f13⟩ := M3.out.x.cells.get 13 _ rfl
      have M4 := ((((M3.out.set 9 (.int .i64 ii)).set 10 (.int .i64 0)).set 11 (.int .i64 0)).set 12 (.int .i64 0)).set 13 (.int .i64 0)
      simp only [List.setIfInBounds_toArray, List.set_cons_zero, List.set_cons_succ] at M4
      have M4 := hide M4
      go_upto_region 17 with fail
      generalize ((((w3.setCell ⟨b7, 9, none⟩ (.int .i64 ii)).setCell ⟨b7, 10, none⟩ (.int .i64 0)).setCell ⟨b7, 11, none⟩ (.int .i64 0)).setCell ⟨b7, 12, none⟩ (.int .i64 0)).setCell ⟨b7, 13, none⟩ (.int .i64 0) = v4 at *
      clear c9 f9 c10 f10 c11 f11 c12 f12 c13 f13 ki hii M3
      have kd := (M4.out.p.cells.get 8 _ rfl).1
      obtain ⟨c8, f8⟩ := M4.out.x.cells.get 8 _ rfl
      have M5 := M4.out.set 8 (.int .i64 delta)
      simp only [List.setIfInBounds_toArray, List.set_cons_zero, List.set_cons_succ] at M5
      have M5 := hide M5
      go_upto_region 20 with fail
      generalize v4.setCell ⟨b7, 8, none⟩ (.int .i64 delta) = v5 at *
      clear c8 f8 kd M4
      go_upto_region 21 with fail
      have ka := (M5.out.p.cells.get 4 _ rfl).1
      have kb := (M5.out.p.cells.get 5 _ rfl).1
      go_wp2_with fail
      refine (dot_any wp wi 31 31 rfl _ (by decide) (by decide)).mono ?_
      rintro e w21 ⟨wa, wb, rfl, hwa, hwb, b21⟩
      have M21 := M5.out.below b21
      obtain ⟨ca, fa⟩ := M21.x.cells.get 4 _ rfl
      obtain ⟨cb, fb⟩ := M21.x.cells.get 5 _ rfl
      have M21 := (M21.set 4 (.int .i64 (wa : Int))).set 5 (.int .i64 (wb : Int))
      simp only [List.setIfInBounds_toArray, List.set_cons_zero, List.set_cons_succ] at M21
      have M21 := hide M21
      clear ka kb b21
      go_upto_region 22 with fail
      generalize (w21.setCell ⟨b7, 4, none⟩ (.int .i64 (wa : Int))).setCell ⟨b7, 5, none⟩ (.int .i64 (wb : Int)) = v21 at *
      clear ca fa cb fb M5
      have ka := (M21.out.p.cells.get 6 _ rfl).1
      have kb := (M21.out.p.cells.get 7 _ rfl).1
      go_wp2_with fail
      refine (dot_any sp si 84 84 rfl _ (by decide) (by decide)).mono ?_
      rintro e w22 ⟨sa, sb, rfl, hsa, hsb, b22⟩
      have M22 := M21.out.below b22
      obtain ⟨ca, fa⟩ := M22.x.cells.get 6 _ rfl
      obtain ⟨cb, fb⟩ := M22.x.cells.get 7 _ rfl
      have M22 := (M22.set 6 (.int .i64 (sa : Int))).set 7 (.int .i64 (sb : Int))
      simp only [List.setIfInBounds_toArray, List.set_cons_zero, List.set_cons_succ] at M22
      have M22 := hide M22
      clear ka kb b22
      go_upto_region 23 with fail
      generalize (w22.setCell ⟨b7, 6, none⟩ (.int .i64 (sa : Int))).setCell ⟨b7, 7, none⟩ (.int .i64 (sb : Int)) = v22 at *
      clear ca fa cb fb M21
      obtain ⟨x4, _⟩ := M22.out.x.cells.get 4 _ rfl
      obtain ⟨x6, fx6⟩ := M22.out.x.cells.get 6 _ rfl
      by_cases hsw : sa = wa
      · subst hsw
        obtain ⟨s2, hs2⟩ : ∃ s2 : Nat, s2 = (sa + 1) % 64 := ⟨_, rfl⟩
        have hs3 : ((sa : Int) + 1).tmod 64 = (s2 : Int) := by rw [Int.tmod_eq_emod_of_nonneg (by omega)]; omega
        have hs4 : s2 < 64 ∧ sa ≠ s2 := by omega
        have M24 := M22.out.set 6 (.int .i64 (s2 : Int))
        simp only [List.setIfInBounds_toArray, List.set_cons_zero, List.set_cons_succ] at M24
        have M24 := hide M24
        have HS2 := hide hs2
        clear hs2
        go_upto_region 25 with fail
        generalize v22.setCell ⟨b7, 6, none⟩ (.int .i64 (s2 : Int)) = v24 at *
        clear x4 x6 fx6 hs3
        have kp := (M24.out.p.cells.get 3 _ rfl).1
        go_wp2_with fail
        refine (brought_lit prev m1 (m1 : Int) rfl _ (by omega) (by omega)).mono ?_
        rintro e w' ⟨yp, rfl, hyp, hw⟩
        obtain rfl : v24 = w' := hw.symm
        obtain ⟨pp, hpp⟩ : ∃ pp : Int, 1 + (yp : Int) = pp := ⟨_, rfl⟩
        have hpp2 : 1 ≤ pp ∧ pp ≤ (lsn : Int) - 1 := by have := HM1.out; omega
        obtain ⟨cx, fx⟩ := M24.out.x.cells.get 3 _ rfl
        have MP := M24.out.set 3 (.int .i64 pp)
        simp only [List.setIfInBounds_toArray, List.set_cons_zero, List.set_cons_succ] at MP
        have MP := hide MP
        go_upto_region 27 with fail
        generalize v24.setCell ⟨b7, 3, none⟩ (.int .i64 pp) = wq at *
        clear cx fx kp hpp hyp
        go_wp2_with (first | refine wpList_load36 MP.out.x rfl rfl ?_ | (refine wpList_store36 MP.out.z rfl rfl rfl rfl rfl ?_; intro wf hbf hkf))
        exact bodyPost_ret (results_box rfl _ _ rfl hbf rfl) rfl ⟨_, ⟨0, 3, tt, pp, (sa : Int), (wb : Int), (s2 : Int), (sb : Int), delta, ii, 0, 0, 0, 0, [], [], 0⟩, rfl, ⟨none, none, 0, 0, rfl, World.ownsRow_nil _ _ _ _, World.ownsRow_nil _ _ _ _, nofun⟩, made_ctr h1 h2 ⟨by omega, by omega, by omega, by omega⟩ (by omega) hii2 (.inr ⟨by omega, htt2, hpp2, HF.out.1, rfl, rfl, rfl, rfl⟩), MP.out.bel.trans (hkf.below MP.out.bel.size (fun k hk q => by omega))⟩
      · have hsw2 : ((sa : Int) == (wa : Int)) = false := by simp; omega
        have hsw3 : ¬ ((sa : Int) = (wa : Int)) := by omega
        go_upto_region 25 with fail
        clear x4 x6 fx6
        have kp := (M22.out.p.cells.get 3 _ rfl).1
        go_wp2_with fail
        refine (brought_lit prev m1 (m1 : Int) rfl _ (by omega) (by omega)).mono ?_
        rintro e w' ⟨yp, rfl, hyp, hw⟩
        obtain rfl : v22 = w' := hw.symm
        obtain ⟨pp, hpp⟩ : ∃ pp : Int, 1 + (yp : Int) = pp := ⟨_, rfl⟩
        have hpp2 : 1 ≤ pp ∧ pp ≤ (lsn : Int) - 1 := by have := HM1.out; omega
        obtain ⟨cx, fx⟩ := M22.out.x.cells.get 3 _ rfl
        have MP := M22.out.set 3 (.int .i64 pp)
        simp only [List.setIfInBounds_toArray, List.set_cons_zero, List.set_cons_succ] at MP
        have MP := hide MP
        go_upto_region 27 with fail
        generalize v22.setCell ⟨b7, 3, none⟩ (.int .i64 pp) = wq at *
        clear cx fx kp hpp hyp
        go_wp2_with (first | refine wpList_load36 MP.out.x rfl rfl ?_ | (refine wpList_store36 MP.out.z rfl rfl rfl rfl rfl ?_; intro wf hbf hkf))
        exact bodyPost_ret (results_box rfl _ _ rfl hbf rfl) rfl ⟨_, ⟨0, 3, tt, pp, (wa : Int), (wb : Int), (sa : Int), (sb : Int), delta, ii, 0, 0, 0, 0, [], [], 0⟩, rfl, ⟨none, none, 0, 0, rfl, World.ownsRow_nil _ _ _ _, World.ownsRow_nil _ _ _ _, nofun⟩, made_ctr h1 h2 ⟨by omega, by omega, by omega, by omega⟩ (by omega) hii2 (.inr ⟨by omega, htt2, hpp2, HF.out.1, rfl, rfl, rfl, rfl⟩), MP.out.bel.trans (hkf.below MP.out.bel.size (fun k hk q => by omega))⟩
  · by_cases hls : lsn < 2
    · have hl2 : decide ((lsn : Int) < 2) = true := by simp; omega
      go_wp2_with (first | refine wpList_load36 M3.out.x rfl rfl ?_ | (refine wpList_store36 M3.out.z rfl rfl rfl rfl rfl ?_; intro wf hbf hkf))
      exact bodyPost_ret (results_box rfl _ _ rfl hbf rfl) rfl ⟨_, ⟨0, 1, tt, 0, 0, 0, 0, 0, 0, 0, 0, 0, 0, 0, [], [], 0⟩, rfl, ⟨none, none, 0, 0, rfl, World.ownsRow_nil _ _ _ _, World.ownsRow_nil _ _ _ _, nofun⟩, made_tx h1 h2 htt2 (.inl ⟨rfl, rfl⟩), M3.out.bel.trans (hkf.below M3.out.bel.size (fun k hk q => by omega))⟩
    · have hl2 : decide ((lsn : Int) < 2) = false := by simp; omega
      obtain ⟨m1, hm1⟩ : ∃ m1 : Nat, lsn = m1 + 1 := ⟨lsn - 1, by omega⟩
      have e52 : IntKind.i64.wrap ((lsn : Int) - 1) = (m1 : Int) := by rw [IntKind.wrap_i64]; omega
      have e53 : (lsn : Int) - 1 = (m1 : Int) := by omega
      have hm12 : 1 ≤ m1 ∧ m1 ≤ 100000 := by omega
      have HM1 := hide hm1
      clear hm1
      have ki := (M3.out.p.cells.get 9 _ rfl).1
      go_wp2_with fail
      refine (brought_lit id 1048576 1048576 rfl _ (by decide) (by decide)).mono ?_
      rintro e w' ⟨yi, rfl, hyi, hw⟩
      obtain rfl : w3 = w' := hw.symm
      obtain ⟨ii, hii⟩ : ∃ ii : Int, 1 + (yi : Int) = ii := ⟨_, rfl⟩
      have hii2 : 1 ≤ ii ∧ ii ≤ 1048576 := by omega
      obtain ⟨c9, f9⟩ := M3.out.x.cells.get 9 _ rfl
      obtain ⟨c10, f10⟩ := M3.out.x.cells.get 10 _ rfl
      obtain ⟨c11, f11⟩ := M3.out.x.cells.get 11 _ rfl
      obtain ⟨c12, f12⟩ := M3.out.x.cells.get 12 _ rfl
      obtain ⟨c13, f13⟩ := M3.out.x.cells.get 13 _ rfl
      have M4 := ((((M3.out.set 9 (.int .i64 ii)).set 10 (.int .i64 0)).set 11 (.int .i64 0)).set 12 (.int .i64 0)).set 13 (.int .i64 0)
      simp only [List.setIfInBounds_toArray, List.set_cons_zero, List.set_cons_succ] at M4
      have M4 := hide M4
      go_upto_region 17 with fail
      generalize ((((w3.setCell ⟨b7, 9, none⟩ (.int .i64 ii)).setCell ⟨b7, 10, none⟩ (.int .i64 0)).setCell ⟨b7, 11, none⟩ (.int .i64 0)).setCell ⟨b7, 12, none⟩ (.int .i64 0)).setCell ⟨b7, 13, none⟩ (.int .i64 0) = v4 at *
      clear c9 f9 c10 f10 c11 f11 c12 f12 c13 f13 ki hii M3
      have kd := (M4.out.p.cells.get 8 _ rfl).1
      obtain ⟨c8, f8⟩ := M4.out.x.cells.get 8 _ rfl
      have M5 := M4.out.set 8 (.int .i64 delta)
      simp only [List.setIfInBounds_toArray, List.set_cons_zero, List.set_cons_succ] at M5
      have M5 := hide M5
      go_upto_region 20 with fail
      generalize v4.setCell ⟨b7, 8, none⟩ (.int .i64 delta) = v5 at *
      clear c8 f8 kd M4
      go_upto_region 21 with fail
      have ka := (M5.out.p.cells.get 4 _ rfl).1
      have kb := (M5.out.p.cells.get 5 _ rfl).1
      go_wp2_with fail
      refine (dot_any wp wi 31 31 rfl _ (by decide) (by decide)).mono ?_
      rintro e w21 ⟨wa, wb, rfl, hwa, hwb, b21⟩
      have M21 := M5.out.below b21
      obtain ⟨ca, fa⟩ := M21.x.cells.get 4 _ rfl
      obtain ⟨cb, fb⟩ := M21.x.cells.get 5 _ rfl
      have M21 := (M21.set 4 (.int .i64 (wa : Int))).set 5 (.int .i64 (wb : Int))
      simp only [List.setIfInBounds_toArray, List.set_cons_zero, List.set_cons_succ] at M21
      have M21 := hide M21
      clear ka kb b21
      go_upto_region 22 with fail
      generalize (w21.setCell ⟨b7, 4, none⟩ (.int .i64 (wa : Int))).setCell ⟨b7, 5, none⟩ (.int .i64 (wb : Int)) = v21 at *
      clear ca fa cb fb M5
      have ka := (M21.out.p.cells.get 6 _ rfl).1
      have kb := (M21.out.p.cells.get 7 _ rfl).1
      go_wp2_with fail
      refine (dot_any sp si 84 84 rfl _ (by decide) (by decide)).mono ?_
      rintro e w22 ⟨sa, sb, rfl, hsa, hsb, b22⟩
      have M22 := M21.out.below b22
      obtain ⟨ca, fa⟩ := M22.x.cells.get 6 _ rfl
      obtain ⟨cb, fb⟩ := M22.x.cells.get 7 _ rfl
      have M22 := (M22.set 6 (.int .i64 (sa : Int))).set 7 (.int .i64 (sb : Int))
      simp only [List.setIfInBounds_toArray, List.set_cons_zero, List.set_cons_succ] at M22
      have M22 := hide M22
      clear ka kb b22
      go_upto_region 23 with fail
      generalize (w22.setCell ⟨b7, 6, none⟩ (.int .i64 (sa : Int))).setCell ⟨b7, 7, none⟩ (.int .i64 (sb : Int)) = v22 at *
      clear ca fa cb fb M21
      obtain ⟨x4, _⟩ := M22.out.x.cells.get 4 _ rfl
      obtain ⟨x6, fx6⟩ := M22.out.x.cells.get 6 _ rfl
      by_cases hsw : sa = wa
      · subst hsw
        obtain ⟨s2, hs2⟩ : ∃ s2 : Nat, s2 = (sa + 1) % 64 := ⟨_, rfl⟩
        have hs3 : ((sa : Int) + 1).tmod 64 = (s2 : Int) := by rw [Int.tmod_eq_emod_of_nonneg (by omega)]; omega
        have hs4 : s2 < 64 ∧ sa ≠ s2 := by omega
        have M24 := M22.out.set 6 (.int .i64 (s2 : Int))
        simp only [List.setIfInBounds_toArray, List.set_cons_zero, List.set_cons_succ] at M24
        have M24 := hide M24
        have HS2 := hide hs2
        clear hs2
        go_upto_region 25 with fail
        generalize v22.setCell ⟨b7, 6, none⟩ (.int .i64 (s2 : Int)) = v24 at *
        clear x4 x6 fx6 hs3
        have kp := (M24.out.p.cells.get 3 _ rfl).1
        go_wp2_with fail
        refine (brought_lit prev m1 (m1 : Int) rfl _ (by omega) (by omega)).mono ?_
        rintro e w' ⟨yp, rfl, hyp, hw⟩
        obtain rfl : v24 = w' := hw.symm
        obtain ⟨pp, hpp⟩ : ∃ pp : Int, 1 + (yp : Int) = pp := ⟨_, rfl⟩
        have hpp2 : 1 ≤ pp ∧ pp ≤ (lsn : Int) - 1 := by have := HM1.out; omega
        obtain ⟨cx, fx⟩ := M24.out.x.cells.get 3 _ rfl
        have MP := M24.out.set 3 (.int .i64 pp)
        simp only [List.setIfInBounds_toArray, List.set_cons_zero, List.set_cons_succ] at MP
        have MP := hide MP
        go_upto_region 27 with fail
        generalize v24.setCell ⟨b7, 3, none⟩ (.int .i64 pp) = wq at *
        clear cx fx kp hpp hyp
        go_wp2_with (first | refine wpList_load36 MP.out.x rfl rfl ?_ | (refine wpList_store36 MP.out.z rfl rfl rfl rfl rfl ?_; intro wf hbf hkf))
        exact bodyPost_ret (results_box rfl _ _ rfl hbf rfl) rfl ⟨_, ⟨0, 4, tt, pp, (sa : Int), (wb : Int), (s2 : Int), (sb : Int), delta, ii, 0, 0, 0, 0, [], [], 0⟩, rfl, ⟨none, none, 0, 0, rfl, World.ownsRow_nil _ _ _ _, World.ownsRow_nil _ _ _ _, nofun⟩, made_ctr h1 h2 ⟨by omega, by omega, by omega, by omega⟩ (by omega) hii2 (.inr ⟨by omega, htt2, hpp2, HF.out.1, rfl, rfl, rfl, rfl⟩), MP.out.bel.trans (hkf.below MP.out.bel.size (fun k hk q => by omega))⟩
      · have hsw2 : ((sa : Int) == (wa : Int)) = false := by simp; omega
        have hsw3 : ¬ ((sa : Int) = (wa : Int)) := by omega
        go_upto_region 25 with fail
        clear x4 x6 fx6
        have kp := (M22.out.p.cells.get 3 _ rfl).1
        go_wp2_with fail
        refine (brought_lit prev m1 (m1 : Int) rfl _ (by omega) (by omega)).mono ?_
        rintro e w' ⟨yp, rfl, hyp, hw⟩
        obtain rfl : v22 = w' := hw.symm
        obtain ⟨pp, hpp⟩ : ∃ pp : Int, 1 + (yp : Int) = pp := ⟨_, rfl⟩
        have hpp2 : 1 ≤ pp ∧ pp ≤ (lsn : Int) - 1 := by have := HM1.out; omega
        obtain ⟨cx, fx⟩ := M22.out.x.cells.get 3 _ rfl
        have MP := M22.out.set 3 (.int .i64 pp)
        simp only [List.setIfInBounds_toArray, List.set_cons_zero, List.set_cons_succ] at MP
        have MP := hide MP
        go_upto_region 27 with fail
        generalize v22.setCell ⟨b7, 3, none⟩ (.int .i64 pp) = wq at *
        clear cx fx kp hpp hyp
        go_wp2_with (first | refine wpList_load36 MP.out.x rfl rfl ?_ | (refine wpList_store36 MP.out.z rfl rfl rfl rfl rfl ?_; intro wf hbf hkf))
        exact bodyPost_ret (results_box rfl _ _ rfl hbf rfl) rfl ⟨_, ⟨0, 4, tt, pp, (wa : Int), (wb : Int), (sa : Int), (sb : Int), delta, ii, 0, 0, 0, 0, [], [], 0⟩, rfl, ⟨none, none, 0, 0, rfl, World.ownsRow_nil _ _ _ _, World.ownsRow_nil _ _ _ _, nofun⟩, made_ctr h1 h2 ⟨by omega, by omega, by omega, by omega⟩ (by omega) hii2 (.inr ⟨by omega, htt2, hpp2, HF.out.1, rfl, rfl, rfl, rfl⟩), MP.out.bel.trans (hkf.below MP.out.bel.size (fun k hk q => by omega))⟩
  · by_cases hls : lsn < 2
    · have hl2 : decide ((lsn : Int) < 2) = true := by simp; omega
      go_wp2_with (first | refine wpList_load36 M3.out.x rfl rfl ?_ | (refine wpList_store36 M3.out.z rfl rfl rfl rfl rfl ?_; intro wf hbf hkf))
      exact bodyPost_ret (results_box rfl _ _ rfl hbf rfl) rfl ⟨_, ⟨0, 1, tt, 0, 0, 0, 0, 0, 0, 0, 0, 0, 0, 0, [], [], 0⟩, rfl, ⟨none, none, 0, 0, rfl, World.ownsRow_nil _ _ _ _, World.ownsRow_nil _ _ _ _, nofun⟩, made_tx h1 h2 htt2 (.inl ⟨rfl, rfl⟩), M3.out.bel.trans (hkf.below M3.out.bel.size (fun k hk q => by omega))⟩
    · have hl2 : decide ((lsn : Int) < 2) = false := by simp; omega
      obtain ⟨m1, hm1⟩ : ∃ m1 : Nat, lsn = m1 + 1 := ⟨lsn - 1, by omega⟩
      have e52 : IntKind.i64.wrap ((lsn : Int) - 1) = (m1 : Int) := by rw [IntKind.wrap_i64]; omega
      have e53 : (lsn : Int) - 1 = (m1 : Int) := by omega
      have hm12 : 1 ≤ m1 ∧ m1 ≤ 100000 := by omega
      have HM1 := hide hm1
      clear hm1
      have kp := (M3.out.p.cells.get 3 _ rfl).1
      go_wp2_with fail
      refine (brought_lit prev m1 (m1 : Int) rfl _ (by omega) (by omega)).mono ?_
      rintro e w' ⟨yp, rfl, hyp, hw⟩
      obtain rfl : w3 = w' := hw.symm
      obtain ⟨pp, hpp⟩ : ∃ pp : Int, 1 + (yp : Int) = pp := ⟨_, rfl⟩
      have hpp2 : 1 ≤ pp ∧ pp ≤ (lsn : Int) - 1 := by have := HM1.out; omega
      obtain ⟨cx, fx⟩ := M3.out.x.cells.get 3 _ rfl
      have MP := M3.out.set 3 (.int .i64 pp)
      simp only [List.setIfInBounds_toArray, List.set_cons_zero, List.set_cons_succ] at MP
      have MP := hide MP
      go_upto_region 27 with fail
      generalize w3.setCell ⟨b7, 3, none⟩ (.int .i64 pp) = wq at *
      clear cx fx kp hpp hyp
      go_wp2_with (first | refine wpList_load36 MP.out.x rfl rfl ?_ | (refine wpList_store36 MP.out.z rfl rfl rfl rfl rfl ?_; intro wf hbf hkf))
      exact bodyPost_ret (results_box rfl _ _ rfl hbf rfl) rfl ⟨_, ⟨0, 5, tt, pp, 0, 0, 0, 0, 0, 0, 0, 0, 0, 0, [], [], 0⟩, rfl, ⟨none, none, 0, 0, rfl, World.ownsRow_nil _ _ _ _, World.ownsRow_nil _ _ _ _, nofun⟩, made_tx h1 h2 htt2 (.inr ⟨by omega, hpp2⟩), MP.out.bel.trans (hkf.below MP.out.bel.size (fun k hk q => by omega))⟩
  · by_cases hls : lsn < 2
    · have hl2 : decide ((lsn : Int) < 2) = true := by simp; omega
      go_wp2_with (first | refine wpList_load36 M3.out.x rfl rfl ?_ | (refine wpList_store36 M3.out.z rfl rfl rfl rfl rfl ?_; intro wf hbf hkf))
      exact bodyPost_ret (results_box rfl _ _ rfl hbf rfl) rfl ⟨_, ⟨0, 1, tt, 0, 0, 0, 0, 0, 0, 0, 0, 0, 0, 0, [], [], 0⟩, rfl, ⟨none, none, 0, 0, rfl, World.ownsRow_nil _ _ _ _, World.ownsRow_nil _ _ _ _, nofun⟩, made_tx h1 h2 htt2 (.inl ⟨rfl, rfl⟩), M3.out.bel.trans (hkf.below M3.out.bel.size (fun k hk q => by omega))⟩
    · have hl2 : decide ((lsn : Int) < 2) = false := by simp; omega
      obtain ⟨m1, hm1⟩ : ∃ m1 : Nat, lsn = m1 + 1 := ⟨lsn - 1, by omega⟩
      have e52 : IntKind.i64.wrap ((lsn : Int) - 1) = (m1 : Int) := by rw [IntKind.wrap_i64]; omega
      have e53 : (lsn : Int) - 1 = (m1 : Int) := by omega
      have hm12 : 1 ≤ m1 ∧ m1 ≤ 100000 := by omega
      have HM1 := hide hm1
      clear hm1
      have kp := (M3.out.p.cells.get 3 _ rfl).1
      go_wp2_with fail
      refine (brought_lit prev m1 (m1 : Int) rfl _ (by omega) (by omega)).mono ?_
      rintro e w' ⟨yp, rfl, hyp, hw⟩
      obtain rfl : w3 = w' := hw.symm
      obtain ⟨pp, hpp⟩ : ∃ pp : Int, 1 + (yp : Int) = pp := ⟨_, rfl⟩
      have hpp2 : 1 ≤ pp ∧ pp ≤ (lsn : Int) - 1 := by have := HM1.out; omega
      obtain ⟨cx, fx⟩ := M3.out.x.cells.get 3 _ rfl
      have MP := M3.out.set 3 (.int .i64 pp)
      simp only [List.setIfInBounds_toArray, List.set_cons_zero, List.set_cons_succ] at MP
      have MP := hide MP
      go_upto_region 27 with fail
      generalize w3.setCell ⟨b7, 3, none⟩ (.int .i64 pp) = wq at *
      clear cx fx kp hpp hyp
      go_wp2_with (first | refine wpList_load36 MP.out.x rfl rfl ?_ | (refine wpList_store36 MP.out.z rfl rfl rfl rfl rfl ?_; intro wf hbf hkf))
      exact bodyPost_ret (results_box rfl _ _ rfl hbf rfl) rfl ⟨_, ⟨0, 6, tt, pp, 0, 0, 0, 0, 0, 0, 0, 0, 0, 0, [], [], 0⟩, rfl, ⟨none, none, 0, 0, rfl, World.ownsRow_nil _ _ _ _, World.ownsRow_nil _ _ _ _, nofun⟩, made_tx h1 h2 htt2 (.inr ⟨by omega, hpp2⟩), MP.out.bel.trans (hkf.below MP.out.bel.size (fun k hk q => by omega))⟩
  · by_cases hls : lsn < 2
    · have hl2 : decide ((lsn : Int) < 2) = true := by simp; omega
      go_wp2_with (first | refine wpList_load36 M3.out.x rfl rfl ?_ | (refine wpList_store36 M3.out.z rfl rfl rfl rfl rfl ?_; intro wf hbf hkf))
      exact bodyPost_ret (results_box rfl _ _ rfl hbf rfl) rfl ⟨_, ⟨0, 1, tt, 0, 0, 0, 0, 0, 0, 0, 0, 0, 0, 0, [], [], 0⟩, rfl, ⟨none, none, 0, 0, rfl, World.ownsRow_nil _ _ _ _, World.ownsRow_nil _ _ _ _, nofun⟩, made_tx h1 h2 htt2 (.inl ⟨rfl, rfl⟩), M3.out.bel.trans (hkf.below M3.out.bel.size (fun k hk q => by omega))⟩
    · have hl2 : decide ((lsn : Int) < 2) = false := by simp; omega
      obtain ⟨m1, hm1⟩ : ∃ m1 : Nat, lsn = m1 + 1 := ⟨lsn - 1, by omega⟩
      have e52 : IntKind.i64.wrap ((lsn : Int) - 1) = (m1 : Int) := by rw [IntKind.wrap_i64]; omega
      have e53 : (lsn : Int) - 1 = (m1 : Int) := by omega
      have hm12 : 1 ≤ m1 ∧ m1 ≤ 100000 := by omega
      have HM1 := hide hm1
      clear hm1
      have kp := (M3.out.p.cells.get 3 _ rfl).1
      go_wp2_with fail
      refine (brought_lit prev m1 (m1 : Int) rfl _ (by omega) (by omega)).mono ?_
      rintro e w' ⟨yp, rfl, hyp, hw⟩
      obtain rfl : w3 = w' := hw.symm
      obtain ⟨pp, hpp⟩ : ∃ pp : Int, 1 + (yp : Int) = pp := ⟨_, rfl⟩
      have hpp2 : 1 ≤ pp ∧ pp ≤ (lsn : Int) - 1 := by have := HM1.out; omega
      obtain ⟨cx, fx⟩ := M3.out.x.cells.get 3 _ rfl
      have MP := M3.out.set 3 (.int .i64 pp)
      simp only [List.setIfInBounds_toArray, List.set_cons_zero, List.set_cons_succ] at MP
      have MP := hide MP
      go_upto_region 27 with fail
      generalize w3.setCell ⟨b7, 3, none⟩ (.int .i64 pp) = wq at *
      clear cx fx kp hpp hyp
      go_wp2_with (first | refine wpList_load36 MP.out.x rfl rfl ?_ | (refine wpList_store36 MP.out.z rfl rfl rfl rfl rfl ?_; intro wf hbf hkf))
      exact bodyPost_ret (results_box rfl _ _ rfl hbf rfl) rfl ⟨_, ⟨0, 7, tt, pp, 0, 0, 0, 0, 0, 0, 0, 0, 0, 0, [], [], 0⟩, rfl, ⟨none, none, 0, 0, rfl, World.ownsRow_nil _ _ _ _, World.ownsRow_nil _ _ _ _, nofun⟩, made_tx h1 h2 htt2 (.inr ⟨by omega, hpp2⟩), MP.out.bel.trans (hkf.below MP.out.bel.size (fun k hk q => by omega))⟩
  · by_cases hls : lsn < 2
    · have hl2 : decide ((lsn : Int) < 2) = true := by simp; omega
      have q14 := (M3.out.p.cells.get 14 _ rfl).1
      have q15 := (M3.out.p.cells.get 15 _ rfl).1
      have q16 := (M3.out.p.cells.get 16 _ rfl).1
      have KP := hide (points_any live dirty next lsn la da lc dc w3 (HL.out.below M3.out.bel) (HD.out.below M3.out.bel) h1 h2)
      go_wp2_with fail
      refine KP.out.mono ?_
      rintro e w4 ⟨vL, vD, nx, ls, ds, rfl, rl, rd, hld, hpt, b4⟩
      have M4 := hide (M3.out.below b4)
      have hsz := M3.out.bel.size
      have hxl := M3.out.x.lt
      have hbb := M3.out.hb
      obtain ⟨aL, cL, eL, _⟩ := GRow.lies rl
      obtain ⟨aD, cD, eD, _⟩ := GRow.lies rd
      subst eL eD
      have LL := hide (show ∀ g, (Value.slice aL ls.length cL).ownBlock = some g → ¬ g = w.heap.size + 1 from fun g q e => by have := (World.ownsRow.lt rl g q).1; omega)
      have DL := hide (show ∀ g, (Value.slice aD ds.length cD).ownBlock = some g → ¬ g = w.heap.size + 1 from fun g q e => by have := (World.ownsRow.lt rd g q).1; omega)
      have RL := hide (GRow.mono rl (B' := w.heap.size) (by omega))
      have RD := hide (GRow.mono rd (B' := w.heap.size) (by omega))
      have LDD := hide hld
      have PT := hide hpt
      clear KP b4 rl rd hld hpt q14 q15 q16 M3
      go_wp2_with (refine wpList_store36 (cs' := #[.int .i64 0, .int .i64 8, .int .i64 0, .int .i64 0, .int .i64 0, .int .i64 0, .int .i64 0, .int .i64 0, .int .i64 0, .int .i64 0, .int .i64 0, .int .i64 0, .int .i64 0, .int .i64 0, .slice aL ls.length cL, .slice aD ds.length cD, .int .i64 nx]) M4.out.z rfl rfl rfl rfl rfl ?_; intro wf hbf hkf)
      exact bodyPost_ret (results_box rfl _ _ rfl hbf rfl) rfl ⟨_, ⟨0, 8, 0, 0, 0, 0, 0, 0, 0, 0, 0, 0, 0, 0, ls, ds, nx⟩, rfl, ⟨aL, aD, cL, cD, rfl, GRow.keep RL.out hkf LL.out, GRow.keep RD.out hkf DL.out, LDD.out⟩, made_pts h1 h2 PT.out, M4.out.bel.trans (hkf.below M4.out.bel.size (fun k hk q => by omega))⟩
    · have hl2 : decide ((lsn : Int) < 2) = false := by simp; omega
      have q14 := (M3.out.p.cells.get 14 _ rfl).1
      have q15 := (M3.out.p.cells.get 15 _ rfl).1
      have q16 := (M3.out.p.cells.get 16 _ rfl).1
      have KP := hide (points_any live dirty next lsn la da lc dc w3 (HL.out.below M3.out.bel) (HD.out.below M3.out.bel) h1 h2)
      go_wp2_with fail
      refine KP.out.mono ?_
      rintro e w4 ⟨vL, vD, nx, ls, ds, rfl, rl, rd, hld, hpt, b4⟩
      have M4 := hide (M3.out.below b4)
      have hsz := M3.out.bel.size
      have hxl := M3.out.x.lt
      have hbb := M3.out.hb
      obtain ⟨aL, cL, eL, _⟩ := GRow.lies rl
      obtain ⟨aD, cD, eD, _⟩ := GRow.lies rd
      subst eL eD
      have LL := hide (show ∀ g, (Value.slice aL ls.length cL).ownBlock = some g → ¬ g = w.heap.size + 1 from fun g q e => by have := (World.ownsRow.lt rl g q).1; omega)
      have DL := hide (show ∀ g, (Value.slice aD ds.length cD).ownBlock = some g → ¬ g = w.heap.size + 1 from fun g q e => by have := (World.ownsRow.lt rd g q).1; omega)
      have RL := hide (GRow.mono rl (B' := w.heap.size) (by omega))
      have RD := hide (GRow.mono rd (B' := w.heap.size) (by omega))
      have LDD := hide hld
      have PT := hide hpt
      clear KP b4 rl rd hld hpt q14 q15 q16 M3
      go_wp2_with (refine wpList_store36 (cs' := #[.int .i64 0, .int .i64 8, .int .i64 0, .int .i64 0, .int .i64 0, .int .i64 0, .int .i64 0, .int .i64 0, .int .i64 0, .int .i64 0, .int .i64 0, .int .i64 0, .int .i64 0, .int .i64 0, .slice aL ls.length cL, .slice aD ds.length cD, .int .i64 nx]) M4.out.z rfl rfl rfl rfl rfl ?_; intro wf hbf hkf)
      exact bodyPost_ret (results_box rfl _ _ rfl hbf rfl) rfl ⟨_, ⟨0, 8, 0, 0, 0, 0, 0, 0, 0, 0, 0, 0, 0, 0, ls, ds, nx⟩, rfl, ⟨aL, aD, cL, cD, rfl, GRow.keep RL.out hkf LL.out, GRow.keep RD.out hkf DL.out, LDD.out⟩, made_pts h1 h2 PT.out, M4.out.bel.trans (hkf.below M4.out.bel.size (fun k hk q => by omega))⟩
end Go.Proofs.YtgpmghdoofcpaaaGreat.Lg
