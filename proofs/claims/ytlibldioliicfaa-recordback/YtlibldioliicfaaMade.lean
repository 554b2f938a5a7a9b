import Derived.Test.YtlibldioliicfaaPts3
import Derived.Test.YtlibldioliicfaaCutw
import Derived.Test.YtlibldioliicfaaDec8
import Derived.Test.YtlibldioliicfaaTh4
namespace Go.Proofs.Ytlibldioliicfaa
open Go.RowKit Go.QK
set_option maxRecDepth 100000
/-- What made holds: its argument, the result's block, its own record. -/
structure MB (w : World) (pc : Array Value) (wi : World) (rc : Array Value) : Prop where
  bel : Below w.heap.size w wi
  p : RBox wi w.heap.size 36 pc
  z : RBox wi (w.heap.size + 1) 36 #[.int .i64 0, .int .i64 0, .int .i64 0, .int .i64 0, .int .i64 0, .int .i64 0, .int .i64 0, .int .i64 0, .int .i64 0, .int .i64 0, .int .i64 0, .int .i64 0, .int .i64 0, .int .i64 0, .slice none 0 0, .slice none 0 0, .int .i64 0]
  x : RBox wi (w.heap.size + 2) 36 rc
theorem MB.below {w wi w' : World} {pc rc : Array Value} (h : MB w pc wi rc) (b : Below wi.heap.size wi w') : MB w pc w' rc := ⟨bnext h.bel b (Nat.le_refl _), h.p.below b, h.z.below b, h.x.below b⟩
theorem MB.set {w wi : World} {pc rc : Array Value} (h : MB w pc wi rc) (j : Nat) (v : Value) : MB w pc (wi.setCell ⟨w.heap.size + 2, j, none⟩ v) (rc.setIfInBounds j v) := by
  have k3 : Keep (fun k => k = w.heap.size + 2) wi (wi.setCell ⟨w.heap.size + 2, j, none⟩ v) := (Keep.refl (fun k => k = w.heap.size + 2) wi).setCell (fun _ => rfl) _
  exact ⟨h.bel.trans (k3.below h.bel.size (fun k hk q => by omega)), h.p.keep k3 (by omega), h.z.keep k3 (by omega), h.x.setCell j v⟩

set_option maxHeartbeats 8000000 in
theorem made_any (r : RecM) (la da : Option Addr) (lc dc : Nat) (w : World) (hl : Lies w la (liveCs r.live)) (hd : Lies w da (dirtyCs r.dirty)) (hf : Fits r) :
    Calls Try.prog 14 #[.agg (recC r la lc da dc)] w fun e w' => ∃ v r', e = .returned v ∧ RecOut w.heap.size w' v r' ∧ chkE r' = 0 ∧ Fits r' ∧ Below w.heap.size w w' := by
  obtain ⟨lsn, kind, tx, prev, wp, wi, sp, si, delta, id, grp, lo, hi, val, live, dirty, next⟩ := r
  simp only [recC] at *
  have HL := hide hl
  have HD := hide hd
  have HF := hide hf
  have sz1 : (w.alloc (.cells #[.int .i64 lsn, .int .i64 kind, .int .i64 tx, .int .i64 prev, .int .i64 wp, .int .i64 wi, .int .i64 sp, .int .i64 si, .int .i64 delta, .int .i64 id, .int .i64 grp, .int .i64 lo, .int .i64 hi, .int .i64 val, .slice la live.length lc, .slice da dirty.length dc, .int .i64 next] 36)).heap.size = w.heap.size + 1 := by simp
  have sz2 : ((w.alloc (.cells #[.int .i64 lsn, .int .i64 kind, .int .i64 tx, .int .i64 prev, .int .i64 wp, .int .i64 wi, .int .i64 sp, .int .i64 si, .int .i64 delta, .int .i64 id, .int .i64 grp, .int .i64 lo, .int .i64 hi, .int .i64 val, .slice la live.length lc, .slice da dirty.length dc, .int .i64 next] 36)).alloc (.cells #[.int .i64 0, .int .i64 0, .int .i64 0, .int .i64 0, .int .i64 0, .int .i64 0, .int .i64 0, .int .i64 0, .int .i64 0, .int .i64 0, .int .i64 0, .int .i64 0, .int .i64 0, .int .i64 0, .slice none 0 0, .slice none 0 0, .int .i64 0] 36)).heap.size = w.heap.size + 2 := by simp
  have b1 := alloc_below w (.cells #[.int .i64 lsn, .int .i64 kind, .int .i64 tx, .int .i64 prev, .int .i64 wp, .int .i64 wi, .int .i64 sp, .int .i64 si, .int .i64 delta, .int .i64 id, .int .i64 grp, .int .i64 lo, .int .i64 hi, .int .i64 val, .slice la live.length lc, .slice da dirty.length dc, .int .i64 next] 36)
  have b2 := alloc_below (w.alloc (.cells #[.int .i64 lsn, .int .i64 kind, .int .i64 tx, .int .i64 prev, .int .i64 wp, .int .i64 wi, .int .i64 sp, .int .i64 si, .int .i64 delta, .int .i64 id, .int .i64 grp, .int .i64 lo, .int .i64 hi, .int .i64 val, .slice la live.length lc, .slice da dirty.length dc, .int .i64 next] 36)) (.cells #[.int .i64 0, .int .i64 0, .int .i64 0, .int .i64 0, .int .i64 0, .int .i64 0, .int .i64 0, .int .i64 0, .int .i64 0, .int .i64 0, .int .i64 0, .int .i64 0, .int .i64 0, .int .i64 0, .slice none 0 0, .slice none 0 0, .int .i64 0] 36)
  have b3 := alloc_below ((w.alloc (.cells #[.int .i64 lsn, .int .i64 kind, .int .i64 tx, .int .i64 prev, .int .i64 wp, .int .i64 wi, .int .i64 sp, .int .i64 si, .int .i64 delta, .int .i64 id, .int .i64 grp, .int .i64 lo, .int .i64 hi, .int .i64 val, .slice la live.length lc, .slice da dirty.length dc, .int .i64 next] 36)).alloc (.cells #[.int .i64 0, .int .i64 0, .int .i64 0, .int .i64 0, .int .i64 0, .int .i64 0, .int .i64 0, .int .i64 0, .int .i64 0, .int .i64 0, .int .i64 0, .int .i64 0, .int .i64 0, .int .i64 0, .slice none 0 0, .slice none 0 0, .int .i64 0] 36)) (.cells #[.int .i64 0, .int .i64 0, .int .i64 0, .int .i64 0, .int .i64 0, .int .i64 0, .int .i64 0, .int .i64 0, .int .i64 0, .int .i64 0, .int .i64 0, .int .i64 0, .int .i64 0, .int .i64 0, .slice none 0 0, .slice none 0 0, .int .i64 0] 36)
  have Z := RBox.new (w.alloc (.cells #[.int .i64 lsn, .int .i64 kind, .int .i64 tx, .int .i64 prev, .int .i64 wp, .int .i64 wi, .int .i64 sp, .int .i64 si, .int .i64 delta, .int .i64 id, .int .i64 grp, .int .i64 lo, .int .i64 hi, .int .i64 val, .slice la live.length lc, .slice da dirty.length dc, .int .i64 next] 36)) #[.int .i64 0, .int .i64 0, .int .i64 0, .int .i64 0, .int .i64 0, .int .i64 0, .int .i64 0, .int .i64 0, .int .i64 0, .int .i64 0, .int .i64 0, .int .i64 0, .int .i64 0, .int .i64 0, .slice none 0 0, .slice none 0 0, .int .i64 0] 36
  have X := RBox.new ((w.alloc (.cells #[.int .i64 lsn, .int .i64 kind, .int .i64 tx, .int .i64 prev, .int .i64 wp, .int .i64 wi, .int .i64 sp, .int .i64 si, .int .i64 delta, .int .i64 id, .int .i64 grp, .int .i64 lo, .int .i64 hi, .int .i64 val, .slice la live.length lc, .slice da dirty.length dc, .int .i64 next] 36)).alloc (.cells #[.int .i64 0, .int .i64 0, .int .i64 0, .int .i64 0, .int .i64 0, .int .i64 0, .int .i64 0, .int .i64 0, .int .i64 0, .int .i64 0, .int .i64 0, .int .i64 0, .int .i64 0, .int .i64 0, .slice none 0 0, .slice none 0 0, .int .i64 0] 36)) #[.int .i64 0, .int .i64 0, .int .i64 0, .int .i64 0, .int .i64 0, .int .i64 0, .int .i64 0, .int .i64 0, .int .i64 0, .int .i64 0, .int .i64 0, .int .i64 0, .int .i64 0, .int .i64 0, .slice none 0 0, .slice none 0 0, .int .i64 0] 36
  rw [sz1] at Z
  rw [sz2] at X
  have M0 : MB w #[.int .i64 lsn, .int .i64 kind, .int .i64 tx, .int .i64 prev, .int .i64 wp, .int .i64 wi, .int .i64 sp, .int .i64 si, .int .i64 delta, .int .i64 id, .int .i64 grp, .int .i64 lo, .int .i64 hi, .int .i64 val, .slice la live.length lc, .slice da dirty.length dc, .int .i64 next] (((w.alloc (.cells #[.int .i64 lsn, .int .i64 kind, .int .i64 tx, .int .i64 prev, .int .i64 wp, .int .i64 wi, .int .i64 sp, .int .i64 si, .int .i64 delta, .int .i64 id, .int .i64 grp, .int .i64 lo, .int .i64 hi, .int .i64 val, .slice la live.length lc, .slice da dirty.length dc, .int .i64 next] 36)).alloc (.cells #[.int .i64 0, .int .i64 0, .int .i64 0, .int .i64 0, .int .i64 0, .int .i64 0, .int .i64 0, .int .i64 0, .int .i64 0, .int .i64 0, .int .i64 0, .int .i64 0, .int .i64 0, .int .i64 0, .slice none 0 0, .slice none 0 0, .int .i64 0] 36)).alloc (.cells #[.int .i64 0, .int .i64 0, .int .i64 0, .int .i64 0, .int .i64 0, .int .i64 0, .int .i64 0, .int .i64 0, .int .i64 0, .int .i64 0, .int .i64 0, .int .i64 0, .int .i64 0, .int .i64 0, .slice none 0 0, .slice none 0 0, .int .i64 0] 36)) #[.int .i64 0, .int .i64 0, .int .i64 0, .int .i64 0, .int .i64 0, .int .i64 0, .int .i64 0, .int .i64 0, .int .i64 0, .int .i64 0, .int .i64 0, .int .i64 0, .int .i64 0, .int .i64 0, .slice none 0 0, .slice none 0 0, .int .i64 0] :=
    ⟨bnext (bnext b1 b2 (Nat.le_refl _)) b3 (Nat.le_refl _), ((RBox.new w #[.int .i64 lsn, .int .i64 kind, .int .i64 tx, .int .i64 prev, .int .i64 wp, .int .i64 wi, .int .i64 sp, .int .i64 si, .int .i64 delta, .int .i64 id, .int .i64 grp, .int .i64 lo, .int .i64 hi, .int .i64 val, .slice la live.length lc, .slice da dirty.length dc, .int .i64 next] 36).below b2).below b3, Z.below b3, X⟩
  generalize hw0 : ((w.alloc (.cells #[.int .i64 lsn, .int .i64 kind, .int .i64 tx, .int .i64 prev, .int .i64 wp, .int .i64 wi, .int .i64 sp, .int .i64 si, .int .i64 delta, .int .i64 id, .int .i64 grp, .int .i64 lo, .int .i64 hi, .int .i64 val, .slice la live.length lc, .slice da dirty.length dc, .int .i64 next] 36)).alloc (.cells #[.int .i64 0, .int .i64 0, .int .i64 0, .int .i64 0, .int .i64 0, .int .i64 0, .int .i64 0, .int .i64 0, .int .i64 0, .int .i64 0, .int .i64 0, .int .i64 0, .int .i64 0, .int .i64 0, .slice none 0 0, .slice none 0 0, .int .i64 0] 36)).alloc (.cells #[.int .i64 0, .int .i64 0, .int .i64 0, .int .i64 0, .int .i64 0, .int .i64 0, .int .i64 0, .int .i64 0, .int .i64 0, .int .i64 0, .int .i64 0, .int .i64 0, .int .i64 0, .int .i64 0, .slice none 0 0, .slice none 0 0, .int .i64 0] 36) = w0 at *
  have M0 := hide M0
  have HW0 := hide hw0
  clear hl hd hf sz1 sz2 b1 b2 b3 Z X hw0
  go_enter Try.func14, Try.ntmps14
  go_upto_region 2 with fail
  rw [HW0.out]
  rw [show w.heap.size + 1 + 1 = w.heap.size + 2 from rfl]
  clear HW0
  generalize Value.agg #[.int .i64 lsn, .int .i64 kind, .int .i64 tx, .int .i64 prev, .int .i64 wp, .int .i64 wi, .int .i64 sp, .int .i64 si, .int .i64 delta, .int .i64 id, .int .i64 grp, .int .i64 lo, .int .i64 hi, .int .i64 val, .slice la live.length lc, .slice da dirty.length dc, .int .i64 next] = va
  have k1 := (M0.out.p.cells.get 1 _ rfl).1
  go_wp2_with fail
  refine (rest_any kind 1 8 _ (by omega) (by omega) (by omega)).mono ?_
  rintro e w' ⟨kk, rfl, hkk, hw⟩
  obtain rfl : w0 = w' := hw.symm
  have c0 := M0.out.x.cells.get 1 _ rfl
  obtain ⟨c0, f0⟩ := c0
  have M1 := M0.out.set 1 (.int .i64 kk)
  simp only [List.setIfInBounds_toArray, List.set_cons_zero, List.set_cons_succ] at M1
  go_upto_region 3 with fail
  generalize w0.setCell ⟨w.heap.size + 2, 1, none⟩ (.int .i64 kk) = w1 at *
  have M1 := hide M1
  clear c0 f0 M0 k1
  have k0 := (M1.out.p.cells.get 0 _ rfl).1
  go_wp2_with fail
  refine (rest_any lsn 2 2147483647 _ (by omega) (by omega) (by omega)).mono ?_
  rintro e w' ⟨ln, rfl, hln, hw⟩
  obtain rfl : w1 = w' := hw.symm
  have c0 := M1.out.x.cells.get 0 _ rfl
  obtain ⟨c0, f0⟩ := c0
  have M2 := M1.out.set 0 (.int .i64 ln)
  simp only [List.setIfInBounds_toArray, List.set_cons_zero] at M2
  go_upto_region 4 with fail
  generalize w1.setCell ⟨w.heap.size + 2, 0, none⟩ (.int .i64 ln) = w2 at *
  have M2 := hide M2
  clear c0 f0 M1 k0
  have k2 := (M2.out.p.cells.get 2 _ rfl).1
  go_wp2_with fail
  refine (rest_any tx 1 2147483647 _ (by omega) (by omega) (by omega)).mono ?_
  rintro e w' ⟨tt, rfl, htt, hw⟩
  obtain rfl : w2 = w' := hw.symm
  go_upto_region 5 with fail
  clear k2
  have x0 := (M2.out.x.cells.get 0 _ rfl).1
  have el : IntKind.i64.wrap (ln - 1) = ln - 1 := by rw [IntKind.wrap_i64]; omega
  have k3 := (M2.out.p.cells.get 3 _ rfl).1
  go_wp2_with fail
  refine (rest_any prev 1 (ln - 1) _ (by omega) (by omega) (by omega)).mono ?_
  rintro e w' ⟨pp, rfl, hpp, hw⟩
  obtain rfl : w2 = w' := hw.symm
  go_upto_region 6 with fail
  clear k3
  clear x0
  go_cut [6] (fun s w' => ∃ (b6 : Nat) (x y : Int), s = .pointer (some ⟨b6, 0, none⟩) ∧ (0 ≤ x ∧ x ≤ 62) ∧ (0 ≤ y ∧ y ≤ 30) ∧ w.heap.size + 2 < b6 ∧ Cells w' b6 [.int .i64 x, .int .i64 y] ∧ MB w #[.int .i64 lsn, .int .i64 kind, .int .i64 tx, .int .i64 prev, .int .i64 wp, .int .i64 wi, .int .i64 sp, .int .i64 si, .int .i64 delta, .int .i64 id, .int .i64 grp, .int .i64 lo, .int .i64 hi, .int .i64 val, .slice la live.length lc, .slice da dirty.length dc, .int .i64 next] w' #[.int .i64 ln, .int .i64 kk, .int .i64 0, .int .i64 0, .int .i64 0, .int .i64 0, .int .i64 0, .int .i64 0, .int .i64 0, .int .i64 0, .int .i64 0, .int .i64 0, .int .i64 0, .int .i64 0, .slice none 0 0, .slice none 0 0, .int .i64 0])
  case first =>
    have FX := hide (show w2.cell? ⟨w.heap.size, 4, none⟩ = some (.int .i64 wp) ∧ w2.cell? ⟨w.heap.size, 5, none⟩ = some (.int .i64 wi) from ⟨(M2.out.p.cells.get 4 _ rfl).1, (M2.out.p.cells.get 5 _ rfl).1⟩)
    have ME := hide (M2.out.below (Below.refl _ _).drew)
    refine wp_region_held_drew (S := fun wq => wq.cell? ⟨w.heap.size, 4, none⟩ = some (.int .i64 wp) ∧ wq.cell? ⟨w.heap.size, 5, none⟩ = some (.int .i64 wi)) (by kernel_rfl) FX.out (fun hS => ?_)
    generalize w2.drew = we at *
    clear FX
    refine take_at 0 (some 28) (v := ?_) rfl rfl (by kernel_rfl) (by kernel_rfl) (by kernel_rfl) (fun _ _ _ h => h) ⟨by rfl, ?_⟩ hS ?_
    rotate_left
    · intro wq hSw; go_simp; try rfl
    simp only [Act.put, List.setIfInBounds_toArray, List.set_cons_zero, List.set_cons_succ]
    refine take_at 1 (some 29) (v := ?_) rfl rfl (by kernel_rfl) (by kernel_rfl) (by kernel_rfl) (fun _ _ _ h => h) ⟨by rfl, ?_⟩ hS ?_
    rotate_left
    · intro wq hSw; go_simp; try rfl
    simp only [Act.put, List.setIfInBounds_toArray, List.set_cons_zero, List.set_cons_succ]
    refine take_at 2 (some 30) (v := ?_) rfl rfl (by kernel_rfl) (by kernel_rfl) (by kernel_rfl) (fun _ _ _ h => h) ⟨by rfl, ?_⟩ hS ?_
    rotate_left
    · intro wq hSw; obtain ⟨y0, y1⟩ := hSw; go_simp; try rfl
    simp only [Act.put, List.setIfInBounds_toArray, List.set_cons_zero, List.set_cons_succ]
    refine take_at 4 (some 32) (v := ?_) rfl rfl (by kernel_rfl) (by kernel_rfl) (by kernel_rfl) (fun _ _ _ h => h) ⟨by rfl, ?_⟩ hS ?_
    rotate_left
    · intro wq hSw; go_simp; try rfl
    simp only [Act.put, List.setIfInBounds_toArray, List.set_cons_zero, List.set_cons_succ]
    refine take_at 5 (some 33) (v := ?_) rfl rfl (by kernel_rfl) (by kernel_rfl) (by kernel_rfl) (fun _ _ _ h => h) ⟨by rfl, ?_⟩ hS ?_
    rotate_left
    · intro wq hSw; go_simp; try rfl
    simp only [Act.put, List.setIfInBounds_toArray, List.set_cons_zero, List.set_cons_succ]
    refine take_at 6 (some 34) (v := ?_) rfl rfl (by kernel_rfl) (by kernel_rfl) (by kernel_rfl) (fun _ _ _ h => h) ⟨by rfl, ?_⟩ hS ?_
    rotate_left
    · intro wq hSw; obtain ⟨y0, y1⟩ := hSw; go_simp; try rfl
    simp only [Act.put, List.setIfInBounds_toArray, List.set_cons_zero, List.set_cons_succ]
    refine wpAnyH_ready (rs := [3, 9]) (by kernel_rfl) (by simp) ?_
    refine AllReadyH.cons rfl (fun K hK => ?_) (AllReadyH.cons rfl (fun K hK => ?_) AllReadyH.nil)
    · go_simp
      go_wp2_with fail
      refine (rest_any wp 0 62 _ (by omega) (by omega) (by omega)).mono ?_
      rintro e w' ⟨xx, rfl, hxx, hw⟩
      obtain rfl : we = w' := hw.symm
      go_wp2_with fail
      refine hK.out _ _ ⟨(ME.out.p.cells.get 4 _ rfl).1, (ME.out.p.cells.get 5 _ rfl).1⟩ (fun hS => ?_)
      clear hK K
      (try simp only [Act.put, List.setIfInBounds_toArray, List.set_cons_zero, List.set_cons_succ])
      refine wpAnyH_ready (rs := [7, 9]) (by kernel_rfl) (by simp) ?_
      refine AllReadyH.cons rfl (fun K hK => ?_) (AllReadyH.cons rfl (fun K hK => ?_) AllReadyH.nil)
      · go_simp
        go_wp2_with fail
        refine (rest_any wi 0 30 _ (by omega) (by omega) (by omega)).mono ?_
        rintro e w' ⟨yx, rfl, hyx, hw⟩
        obtain rfl : we = w' := hw.symm
        go_wp2_with fail
        refine hK.out _ _ ⟨(ME.out.p.cells.get 4 _ rfl).1, (ME.out.p.cells.get 5 _ rfl).1⟩ (fun hS => ?_)
        clear hK K
        (try simp only [Act.put, List.setIfInBounds_toArray, List.set_cons_zero, List.set_cons_succ])
        refine take_at 8 (some 36) (v := ?_) rfl rfl (by kernel_rfl) (by kernel_rfl) (by kernel_rfl) (fun _ _ _ h => h) ⟨by rfl, ?_⟩ hS ?_
        rotate_left
        · intro wq hSw; go_simp; try rfl
        simp only [Act.put, List.setIfInBounds_toArray, List.set_cons_zero, List.set_cons_succ]
        refine wpAnyH_ready (rs := [9]) (by kernel_rfl) (by simp) ?_
        refine AllReadyH.cons rfl (fun K hK => ?_) AllReadyH.nil
        go_simp
        (try go_wp2_with fail)
        refine hK.out _ _ ⟨((ME.out.below (alloc_below we (.cells #[.int .i64 0, .int .i64 0] 26))).p.cells.get 4 _ rfl).1, ((ME.out.below (alloc_below we (.cells #[.int .i64 0, .int .i64 0] 26))).p.cells.get 5 _ rfl).1⟩ (fun hS => ?_)
        clear hK K
        (try simp only [Act.put, List.setIfInBounds_toArray, List.set_cons_zero, List.set_cons_succ])
        refine wpAnyH_ready (rs := [10]) (by kernel_rfl) (by simp) ?_
        refine AllReadyH.cons rfl (fun K hK => ?_) AllReadyH.nil
        go_simp
        go_wp2_with fail
        refine hK.out _ _ ⟨((ME.out.below (alloc_below we (.cells #[.int .i64 xx, .int .i64 yx] 26))).p.cells.get 4 _ rfl).1, ((ME.out.below (alloc_below we (.cells #[.int .i64 xx, .int .i64 yx] 26))).p.cells.get 5 _ rfl).1⟩ (fun hS => ?_)
        clear hK K
        (try simp only [Act.put, List.setIfInBounds_toArray, List.set_cons_zero, List.set_cons_succ])
        refine wpAnyH_done (by kernel_rfl) ?_ _
        (try go_wp2_with fail)
        go_meet
        exact ⟨_, xx, yx, rfl, hxx, hyx, ME.out.x.lt, Cells.new we #[.int .i64 xx, .int .i64 yx] 26, ME.out.below (alloc_below _ _)⟩
      · go_simp
        (try go_wp2_with fail)
        refine hK.out _ _ ⟨((ME.out.below (alloc_below we (.cells #[.int .i64 0, .int .i64 0] 26))).p.cells.get 4 _ rfl).1, ((ME.out.below (alloc_below we (.cells #[.int .i64 0, .int .i64 0] 26))).p.cells.get 5 _ rfl).1⟩ (fun hS => ?_)
        clear hK K
        (try simp only [Act.put, List.setIfInBounds_toArray, List.set_cons_zero, List.set_cons_succ])
        refine wpAnyH_ready (rs := [7]) (by kernel_rfl) (by simp) ?_
        refine AllReadyH.cons rfl (fun K hK => ?_) AllReadyH.nil
        go_simp
        go_wp2_with fail
        refine (rest_any wi 0 30 _ (by omega) (by omega) (by omega)).mono ?_
        rintro e w' ⟨yx, rfl, hyx, hw⟩
        subst hw
        go_wp2_with fail
        refine hK.out _ _ ⟨((ME.out.below (alloc_below we (.cells #[.int .i64 0, .int .i64 0] 26))).p.cells.get 4 _ rfl).1, ((ME.out.below (alloc_below we (.cells #[.int .i64 0, .int .i64 0] 26))).p.cells.get 5 _ rfl).1⟩ (fun hS => ?_)
        clear hK K
        (try simp only [Act.put, List.setIfInBounds_toArray, List.set_cons_zero, List.set_cons_succ])
        refine take_at 8 (some 36) (v := ?_) rfl rfl (by kernel_rfl) (by kernel_rfl) (by kernel_rfl) (fun _ _ _ h => h) ⟨by rfl, ?_⟩ hS ?_
        rotate_left
        · intro wq hSw; go_simp; try rfl
        simp only [Act.put, List.setIfInBounds_toArray, List.set_cons_zero, List.set_cons_succ]
        refine wpAnyH_ready (rs := [10]) (by kernel_rfl) (by simp) ?_
        refine AllReadyH.cons rfl (fun K hK => ?_) AllReadyH.nil
        go_simp
        go_wp2_with fail
        refine hK.out _ _ ⟨((ME.out.below (alloc_below we (.cells #[.int .i64 xx, .int .i64 yx] 26))).p.cells.get 4 _ rfl).1, ((ME.out.below (alloc_below we (.cells #[.int .i64 xx, .int .i64 yx] 26))).p.cells.get 5 _ rfl).1⟩ (fun hS => ?_)
        clear hK K
        (try simp only [Act.put, List.setIfInBounds_toArray, List.set_cons_zero, List.set_cons_succ])
        refine wpAnyH_done (by kernel_rfl) ?_ _
        (try go_wp2_with fail)
        go_meet
        exact ⟨_, xx, yx, rfl, hxx, hyx, ME.out.x.lt, Cells.new we #[.int .i64 xx, .int .i64 yx] 26, ME.out.below (alloc_below _ _)⟩
    · go_simp
      (try go_wp2_with fail)
      refine hK.out _ _ ⟨((ME.out.below (alloc_below we (.cells #[.int .i64 0, .int .i64 0] 26))).p.cells.get 4 _ rfl).1, ((ME.out.below (alloc_below we (.cells #[.int .i64 0, .int .i64 0] 26))).p.cells.get 5 _ rfl).1⟩ (fun hS => ?_)
      clear hK K
      (try simp only [Act.put, List.setIfInBounds_toArray, List.set_cons_zero, List.set_cons_succ])
      refine wpAnyH_ready (rs := [3]) (by kernel_rfl) (by simp) ?_
      refine AllReadyH.cons rfl (fun K hK => ?_) AllReadyH.nil
      go_simp
      go_wp2_with fail
      refine (rest_any wp 0 62 _ (by omega) (by omega) (by omega)).mono ?_
      rintro e w' ⟨xx, rfl, hxx, hw⟩
      subst hw
      go_wp2_with fail
      refine hK.out _ _ ⟨((ME.out.below (alloc_below we (.cells #[.int .i64 0, .int .i64 0] 26))).p.cells.get 4 _ rfl).1, ((ME.out.below (alloc_below we (.cells #[.int .i64 0, .int .i64 0] 26))).p.cells.get 5 _ rfl).1⟩ (fun hS => ?_)
      clear hK K
      (try simp only [Act.put, List.setIfInBounds_toArray, List.set_cons_zero, List.set_cons_succ])
      refine wpAnyH_ready (rs := [7]) (by kernel_rfl) (by simp) ?_
      refine AllReadyH.cons rfl (fun K hK => ?_) AllReadyH.nil
      go_simp
      go_wp2_with fail
      refine (rest_any wi 0 30 _ (by omega) (by omega) (by omega)).mono ?_
      rintro e w' ⟨yx, rfl, hyx, hw⟩
      subst hw
      go_wp2_with fail
      refine hK.out _ _ ⟨((ME.out.below (alloc_below we (.cells #[.int .i64 0, .int .i64 0] 26))).p.cells.get 4 _ rfl).1, ((ME.out.below (alloc_below we (.cells #[.int .i64 0, .int .i64 0] 26))).p.cells.get 5 _ rfl).1⟩ (fun hS => ?_)
      clear hK K
      (try simp only [Act.put, List.setIfInBounds_toArray, List.set_cons_zero, List.set_cons_succ])
      refine take_at 8 (some 36) (v := ?_) rfl rfl (by kernel_rfl) (by kernel_rfl) (by kernel_rfl) (fun _ _ _ h => h) ⟨by rfl, ?_⟩ hS ?_
      rotate_left
      · intro wq hSw; go_simp; try rfl
      simp only [Act.put, List.setIfInBounds_toArray, List.set_cons_zero, List.set_cons_succ]
      refine wpAnyH_ready (rs := [10]) (by kernel_rfl) (by simp) ?_
      refine AllReadyH.cons rfl (fun K hK => ?_) AllReadyH.nil
      go_simp
      go_wp2_with fail
      refine hK.out _ _ ⟨((ME.out.below (alloc_below we (.cells #[.int .i64 xx, .int .i64 yx] 26))).p.cells.get 4 _ rfl).1, ((ME.out.below (alloc_below we (.cells #[.int .i64 xx, .int .i64 yx] 26))).p.cells.get 5 _ rfl).1⟩ (fun hS => ?_)
      clear hK K
      (try simp only [Act.put, List.setIfInBounds_toArray, List.set_cons_zero, List.set_cons_succ])
      refine wpAnyH_done (by kernel_rfl) ?_ _
      (try go_wp2_with fail)
      go_meet
      exact ⟨_, xx, yx, rfl, hxx, hyx, ME.out.x.lt, Cells.new we #[.int .i64 xx, .int .i64 yx] 26, ME.out.below (alloc_below _ _)⟩
  case rest =>
    obtain ⟨b6, wpx, wix, rfl, hwp, hwi, lt6, C6, M3⟩ := hcut
    have M3 := hide M3
    have C6 := hide C6
    generalize hwcx : wc = w3 at *
    clear hwcx
    have ew : IntKind.i64.wrap (wpx + 1) = wpx + 1 := by rw [IntKind.wrap_i64]; omega
    go_upto_region 7 with fail
    go_cut [7] (fun s w' => ∃ (b7 : Nat) (x y : Int), s = .pointer (some ⟨b7, 0, none⟩) ∧ (wpx + 1 ≤ x ∧ x ≤ 63) ∧ (0 ≤ y ∧ y ≤ 83) ∧ w.heap.size + 2 < b7 ∧ Cells w' b7 [.int .i64 x, .int .i64 y] ∧ Cells w' b6 [.int .i64 wpx, .int .i64 wix] ∧ MB w #[.int .i64 lsn, .int .i64 kind, .int .i64 tx, .int .i64 prev, .int .i64 wp, .int .i64 wi, .int .i64 sp, .int .i64 si, .int .i64 delta, .int .i64 id, .int .i64 grp, .int .i64 lo, .int .i64 hi, .int .i64 val, .slice la live.length lc, .slice da dirty.length dc, .int .i64 next] w' #[.int .i64 ln, .int .i64 kk, .int .i64 0, .int .i64 0, .int .i64 0, .int .i64 0, .int .i64 0, .int .i64 0, .int .i64 0, .int .i64 0, .int .i64 0, .int .i64 0, .int .i64 0, .int .i64 0, .slice none 0 0, .slice none 0 0, .int .i64 0])
    case first =>
      have FX := hide (show w3.cell? ⟨w.heap.size, 6, none⟩ = some (.int .i64 sp) ∧ w3.cell? ⟨w.heap.size, 7, none⟩ = some (.int .i64 si) ∧ w3.cell? ⟨b6, 0, none⟩ = some (.int .i64 wpx) from ⟨(M3.out.p.cells.get 6 _ rfl).1, (M3.out.p.cells.get 7 _ rfl).1, (C6.out.get 0 _ rfl).1⟩)
      have ME := hide (M3.out.below (Below.refl _ _).drew)
      have CE := hide (C6.out.below (Below.refl _ _).drew)
      refine wp_region_held_drew (S := fun wq => wq.cell? ⟨w.heap.size, 6, none⟩ = some (.int .i64 sp) ∧ wq.cell? ⟨w.heap.size, 7, none⟩ = some (.int .i64 si) ∧ wq.cell? ⟨b6, 0, none⟩ = some (.int .i64 wpx)) (by kernel_rfl) FX.out (fun hS => ?_)
      generalize w3.drew = we at *
      clear FX
      refine take_at 0 (some 37) (v := ?_) rfl rfl (by kernel_rfl) (by kernel_rfl) (by kernel_rfl) (fun _ _ _ h => h) ⟨by rfl, ?_⟩ hS ?_
      rotate_left
      · intro wq hSw; go_simp; try rfl
      simp only [Act.put, List.setIfInBounds_toArray, List.set_cons_zero, List.set_cons_succ]
      refine take_at 1 (some 38) (v := ?_) rfl rfl (by kernel_rfl) (by kernel_rfl) (by kernel_rfl) (fun _ _ _ h => h) ⟨by rfl, ?_⟩ hS ?_
      rotate_left
      · intro wq hSw; go_simp; try rfl
      simp only [Act.put, List.setIfInBounds_toArray, List.set_cons_zero, List.set_cons_succ]
      refine take_at 2 (some 39) (v := ?_) rfl rfl (by kernel_rfl) (by kernel_rfl) (by kernel_rfl) (fun _ _ _ h => h) ⟨by rfl, ?_⟩ hS ?_
      rotate_left
      · intro wq hSw; obtain ⟨y0, y1, y2⟩ := hSw; go_simp; try rfl
      simp only [Act.put, List.setIfInBounds_toArray, List.set_cons_zero, List.set_cons_succ]
      refine take_at 3 (some 40) (v := ?_) rfl rfl (by kernel_rfl) (by kernel_rfl) (by kernel_rfl) (fun _ _ _ h => h) ⟨by rfl, ?_⟩ hS ?_
      rotate_left
      · intro wq hSw; go_simp; try rfl
      simp only [Act.put, List.setIfInBounds_toArray, List.set_cons_zero, List.set_cons_succ]
      refine take_at 4 (some 41) (v := ?_) rfl rfl (by kernel_rfl) (by kernel_rfl) (by kernel_rfl) (fun _ _ _ h => h) ⟨by rfl, ?_⟩ hS ?_
      rotate_left
      · intro wq hSw; obtain ⟨y0, y1, y2⟩ := hSw; go_simp; try rfl
      simp only [Act.put, List.setIfInBounds_toArray, List.set_cons_zero, List.set_cons_succ]
      refine take_at 5 (some 42) (v := ?_) rfl rfl (by kernel_rfl) (by kernel_rfl) (by kernel_rfl) (fun _ _ _ h => h) ⟨by rfl, ?_⟩ hS ?_
      rotate_left
      · intro wq hSw; go_simp; try rfl
      simp only [Act.put, List.setIfInBounds_toArray, List.set_cons_zero, List.set_cons_succ]
      refine take_at 7 (some 44) (v := ?_) rfl rfl (by kernel_rfl) (by kernel_rfl) (by kernel_rfl) (fun _ _ _ h => h) ⟨by rfl, ?_⟩ hS ?_
      rotate_left
      · intro wq hSw; go_simp; try rfl
      simp only [Act.put, List.setIfInBounds_toArray, List.set_cons_zero, List.set_cons_succ]
      refine take_at 8 (some 45) (v := ?_) rfl rfl (by kernel_rfl) (by kernel_rfl) (by kernel_rfl) (fun _ _ _ h => h) ⟨by rfl, ?_⟩ hS ?_
      rotate_left
      · intro wq hSw; go_simp; try rfl
      simp only [Act.put, List.setIfInBounds_toArray, List.set_cons_zero, List.set_cons_succ]
      refine take_at 9 (some 46) (v := ?_) rfl rfl (by kernel_rfl) (by kernel_rfl) (by kernel_rfl) (fun _ _ _ h => h) ⟨by rfl, ?_⟩ hS ?_
      rotate_left
      · intro wq hSw; obtain ⟨y0, y1, y2⟩ := hSw; go_simp; try rfl
      simp only [Act.put, List.setIfInBounds_toArray, List.set_cons_zero, List.set_cons_succ]
      refine wpAnyH_ready (rs := [6, 12]) (by kernel_rfl) (by simp) ?_
      refine AllReadyH.cons rfl (fun K hK => ?_) (AllReadyH.cons rfl (fun K hK => ?_) AllReadyH.nil)
      · go_simp
        go_wp2_with fail
        refine (rest_any sp (wpx + 1) 63 _ (by omega) (by omega) (by omega)).mono ?_
        rintro e w' ⟨xx, rfl, hxx, hw⟩
        obtain rfl : we = w' := hw.symm
        go_wp2_with fail
        refine hK.out _ _ ⟨(ME.out.p.cells.get 6 _ rfl).1, (ME.out.p.cells.get 7 _ rfl).1, (CE.out.get 0 _ rfl).1⟩ (fun hS => ?_)
        clear hK K
        (try simp only [Act.put, List.setIfInBounds_toArray, List.set_cons_zero, List.set_cons_succ])
        refine wpAnyH_ready (rs := [10, 12]) (by kernel_rfl) (by simp) ?_
        refine AllReadyH.cons rfl (fun K hK => ?_) (AllReadyH.cons rfl (fun K hK => ?_) AllReadyH.nil)
        · go_simp
          go_wp2_with fail
          refine (rest_any si 0 83 _ (by omega) (by omega) (by omega)).mono ?_
          rintro e w' ⟨yx, rfl, hyx, hw⟩
          obtain rfl : we = w' := hw.symm
          go_wp2_with fail
          refine hK.out _ _ ⟨(ME.out.p.cells.get 6 _ rfl).1, (ME.out.p.cells.get 7 _ rfl).1, (CE.out.get 0 _ rfl).1⟩ (fun hS => ?_)
          clear hK K
          (try simp only [Act.put, List.setIfInBounds_toArray, List.set_cons_zero, List.set_cons_succ])
          refine take_at 11 (some 48) (v := ?_) rfl rfl (by kernel_rfl) (by kernel_rfl) (by kernel_rfl) (fun _ _ _ h => h) ⟨by rfl, ?_⟩ hS ?_
          rotate_left
          · intro wq hSw; go_simp; try rfl
          simp only [Act.put, List.setIfInBounds_toArray, List.set_cons_zero, List.set_cons_succ]
          refine wpAnyH_ready (rs := [12]) (by kernel_rfl) (by simp) ?_
          refine AllReadyH.cons rfl (fun K hK => ?_) AllReadyH.nil
          go_simp
          (try go_wp2_with fail)
          refine hK.out _ _ ⟨((ME.out.below (alloc_below we (.cells #[.int .i64 0, .int .i64 0] 26))).p.cells.get 6 _ rfl).1, ((ME.out.below (alloc_below we (.cells #[.int .i64 0, .int .i64 0] 26))).p.cells.get 7 _ rfl).1, ((CE.out.below (alloc_below we (.cells #[.int .i64 0, .int .i64 0] 26))).get 0 _ rfl).1⟩ (fun hS => ?_)
          clear hK K
          (try simp only [Act.put, List.setIfInBounds_toArray, List.set_cons_zero, List.set_cons_succ])
          refine wpAnyH_ready (rs := [13]) (by kernel_rfl) (by simp) ?_
          refine AllReadyH.cons rfl (fun K hK => ?_) AllReadyH.nil
          go_simp
          go_wp2_with fail
          refine hK.out _ _ ⟨((ME.out.below (alloc_below we (.cells #[.int .i64 xx, .int .i64 yx] 26))).p.cells.get 6 _ rfl).1, ((ME.out.below (alloc_below we (.cells #[.int .i64 xx, .int .i64 yx] 26))).p.cells.get 7 _ rfl).1, ((CE.out.below (alloc_below we (.cells #[.int .i64 xx, .int .i64 yx] 26))).get 0 _ rfl).1⟩ (fun hS => ?_)
          clear hK K
          (try simp only [Act.put, List.setIfInBounds_toArray, List.set_cons_zero, List.set_cons_succ])
          refine wpAnyH_done (by kernel_rfl) ?_ _
          (try go_wp2_with fail)
          go_meet
          exact ⟨_, xx, yx, rfl, hxx, hyx, ME.out.x.lt, Cells.new we #[.int .i64 xx, .int .i64 yx] 26, CE.out.below (alloc_below _ _), ME.out.below (alloc_below _ _)⟩
        · go_simp
          (try go_wp2_with fail)
          refine hK.out _ _ ⟨((ME.out.below (alloc_below we (.cells #[.int .i64 0, .int .i64 0] 26))).p.cells.get 6 _ rfl).1, ((ME.out.below (alloc_below we (.cells #[.int .i64 0, .int .i64 0] 26))).p.cells.get 7 _ rfl).1, ((CE.out.below (alloc_below we (.cells #[.int .i64 0, .int .i64 0] 26))).get 0 _ rfl).1⟩ (fun hS => ?_)
          clear hK K
          (try simp only [Act.put, List.setIfInBounds_toArray, List.set_cons_zero, List.set_cons_succ])
          refine wpAnyH_ready (rs := [10]) (by kernel_rfl) (by simp) ?_
          refine AllReadyH.cons rfl (fun K hK => ?_) AllReadyH.nil
          go_simp
          go_wp2_with fail
          refine (rest_any si 0 83 _ (by omega) (by omega) (by omega)).mono ?_
          rintro e w' ⟨yx, rfl, hyx, hw⟩
          subst hw
          go_wp2_with fail
          refine hK.out _ _ ⟨((ME.out.below (alloc_below we (.cells #[.int .i64 0, .int .i64 0] 26))).p.cells.get 6 _ rfl).1, ((ME.out.below (alloc_below we (.cells #[.int .i64 0, .int .i64 0] 26))).p.cells.get 7 _ rfl).1, ((CE.out.below (alloc_below we (.cells #[.int .i64 0, .int .i64 0] 26))).get 0 _ rfl).1⟩ (fun hS => ?_)
          clear hK K
          (try simp only [Act.put, List.setIfInBounds_toArray, List.set_cons_zero, List.set_cons_succ])
          refine take_at 11 (some 48) (v := ?_) rfl rfl (by kernel_rfl) (by kernel_rfl) (by kernel_rfl) (fun _ _ _ h => h) ⟨by rfl, ?_⟩ hS ?_
          rotate_left
          · intro wq hSw; go_simp; try rfl
          simp only [Act.put, List.setIfInBounds_toArray, List.set_cons_zero, List.set_cons_succ]
          refine wpAnyH_ready (rs := [13]) (by kernel_rfl) (by simp) ?_
          refine AllReadyH.cons rfl (fun K hK => ?_) AllReadyH.nil
          go_simp
          go_wp2_with fail
          refine hK.out _ _ ⟨((ME.out.below (alloc_below we (.cells #[.int .i64 xx, .int .i64 yx] 26))).p.cells.get 6 _ rfl).1, ((ME.out.below (alloc_below we (.cells #[.int .i64 xx, .int .i64 yx] 26))).p.cells.get 7 _ rfl).1, ((CE.out.below (alloc_below we (.cells #[.int .i64 xx, .int .i64 yx] 26))).get 0 _ rfl).1⟩ (fun hS => ?_)
          clear hK K
          (try simp only [Act.put, List.setIfInBounds_toArray, List.set_cons_zero, List.set_cons_succ])
          refine wpAnyH_done (by kernel_rfl) ?_ _
          (try go_wp2_with fail)
          go_meet
          exact ⟨_, xx, yx, rfl, hxx, hyx, ME.out.x.lt, Cells.new we #[.int .i64 xx, .int .i64 yx] 26, CE.out.below (alloc_below _ _), ME.out.below (alloc_below _ _)⟩
      · go_simp
        (try go_wp2_with fail)
        refine hK.out _ _ ⟨((ME.out.below (alloc_below we (.cells #[.int .i64 0, .int .i64 0] 26))).p.cells.get 6 _ rfl).1, ((ME.out.below (alloc_below we (.cells #[.int .i64 0, .int .i64 0] 26))).p.cells.get 7 _ rfl).1, ((CE.out.below (alloc_below we (.cells #[.int .i64 0, .int .i64 0] 26))).get 0 _ rfl).1⟩ (fun hS => ?_)
        clear hK K
        (try simp only [Act.put, List.setIfInBounds_toArray, List.set_cons_zero, List.set_cons_succ])
        refine wpAnyH_ready (rs := [6]) (by kernel_rfl) (by simp) ?_
        refine AllReadyH.cons rfl (fun K hK => ?_) AllReadyH.nil
        go_simp
        go_wp2_with fail
        refine (rest_any sp (wpx + 1) 63 _ (by omega) (by omega) (by omega)).mono ?_
        rintro e w' ⟨xx, rfl, hxx, hw⟩
        subst hw
        go_wp2_with fail
        refine hK.out _ _ ⟨((ME.out.below (alloc_below we (.cells #[.int .i64 0, .int .i64 0] 26))).p.cells.get 6 _ rfl).1, ((ME.out.below (alloc_below we (.cells #[.int .i64 0, .int .i64 0] 26))).p.cells.get 7 _ rfl).1, ((CE.out.below (alloc_below we (.cells #[.int .i64 0, .int .i64 0] 26))).get 0 _ rfl).1⟩ (fun hS => ?_)
        clear hK K
        (try simp only [Act.put, List.setIfInBounds_toArray, List.set_cons_zero, List.set_cons_succ])
        refine wpAnyH_ready (rs := [10]) (by kernel_rfl) (by simp) ?_
        refine AllReadyH.cons rfl (fun K hK => ?_) AllReadyH.nil
        go_simp
        go_wp2_with fail
        refine (rest_any si 0 83 _ (by omega) (by omega) (by omega)).mono ?_
        rintro e w' ⟨yx, rfl, hyx, hw⟩
        subst hw
        go_wp2_with fail
        refine hK.out _ _ ⟨((ME.out.below (alloc_below we (.cells #[.int .i64 0, .int .i64 0] 26))).p.cells.get 6 _ rfl).1, ((ME.out.below (alloc_below we (.cells #[.int .i64 0, .int .i64 0] 26))).p.cells.get 7 _ rfl).1, ((CE.out.below (alloc_below we (.cells #[.int .i64 0, .int .i64 0] 26))).get 0 _ rfl).1⟩ (fun hS => ?_)
        clear hK K
        (try simp only [Act.put, List.setIfInBounds_toArray, List.set_cons_zero, List.set_cons_succ])
        refine take_at 11 (some 48) (v := ?_) rfl rfl (by kernel_rfl) (by kernel_rfl) (by kernel_rfl) (fun _ _ _ h => h) ⟨by rfl, ?_⟩ hS ?_
        rotate_left
        · intro wq hSw; go_simp; try rfl
        simp only [Act.put, List.setIfInBounds_toArray, List.set_cons_zero, List.set_cons_succ]
        refine wpAnyH_ready (rs := [13]) (by kernel_rfl) (by simp) ?_
        refine AllReadyH.cons rfl (fun K hK => ?_) AllReadyH.nil
        go_simp
        go_wp2_with fail
        refine hK.out _ _ ⟨((ME.out.below (alloc_below we (.cells #[.int .i64 xx, .int .i64 yx] 26))).p.cells.get 6 _ rfl).1, ((ME.out.below (alloc_below we (.cells #[.int .i64 xx, .int .i64 yx] 26))).p.cells.get 7 _ rfl).1, ((CE.out.below (alloc_below we (.cells #[.int .i64 xx, .int .i64 yx] 26))).get 0 _ rfl).1⟩ (fun hS => ?_)
        clear hK K
        (try simp only [Act.put, List.setIfInBounds_toArray, List.set_cons_zero, List.set_cons_succ])
        refine wpAnyH_done (by kernel_rfl) ?_ _
        (try go_wp2_with fail)
        go_meet
        exact ⟨_, xx, yx, rfl, hxx, hyx, ME.out.x.lt, Cells.new we #[.int .i64 xx, .int .i64 yx] 26, CE.out.below (alloc_below _ _), ME.out.below (alloc_below _ _)⟩
    case rest =>
      obtain ⟨b7, spx, six, rfl, hsp, hsi, lt7, C7, C6', M4⟩ := hcut
      have M4 := hide M4
      have C7 := hide C7
      have C6 := hide C6'
      generalize hwcx : wc = w4 at *
      clear hwcx M3
      have k9 := (M4.out.p.cells.get 9 _ rfl).1
      go_wp2_with fail
      refine (rest_any id 1 1048576 _ (by omega) (by omega) (by omega)).mono ?_
      rintro e w' ⟨ii, rfl, hii, hw⟩
      obtain rfl : w4 = w' := hw.symm
      have x1 := (M4.out.x.cells.get 1 _ rfl).1
      rcases kinds5 hkk.1 hkk.2 with q | q | q | q | q
      · subst q
        have c2 := M4.out.x.cells.get 2 _ rfl
        obtain ⟨c2, f2⟩ := c2
        have MF := (M4.out.set 2 (.int .i64 tt))
        simp only [List.setIfInBounds_toArray, List.set_cons_zero, List.set_cons_succ] at MF
        go_upto_region 34 with fail
        generalize (w4.setCell ⟨w.heap.size + 2, 2, none⟩ (.int .i64 tt)) = w5 at *
        have MF := hide MF
        clear c2 f2 M4
        go_wp2_with (first | refine wpList_load36 MF.out.x rfl rfl ?_ | (refine wpList_store36 MF.out.z rfl rfl rfl rfl rfl ?_; intro wf hbf hkf))
        have FT : Fits ⟨ln, 1, tt, 0, 0, 0, 0, 0, 0, 0, 0, 0, 0, 0, [], [], 0⟩ := by
          unfold Fits
          simp
        have OK : okB ⟨ln, 1, tt, 0, 0, 0, 0, 0, 0, 0, 0, 0, 0, 0, [], [], 0⟩ = true := by
          simp [okB, fromB, aheadB, oneB, slotsB, slotB, firstB, pointsB, hTx, hPrev, hCtr, hFirst, hDelta, hPts]
          omega
        refine bodyPost_ret (results_box rfl _ _ rfl hbf rfl) rfl ?_
        exact ⟨_, ⟨ln, 1, tt, 0, 0, 0, 0, 0, 0, 0, 0, 0, 0, 0, [], [], 0⟩, rfl, ⟨none, none, 0, 0, rfl, World.ownsRow_nil _ _ _ _, World.ownsRow_nil _ _ _ _, nofun⟩, chkE_of (by simp) (by simp) OK, FT, MF.out.bel.trans (hkf.below MF.out.bel.size (fun k hk q => by omega))⟩

      · subst q
        have c4 := M4.out.x.cells.get 4 _ rfl
        obtain ⟨c4, f4⟩ := c4
        have c5 := M4.out.x.cells.get 5 _ rfl
        obtain ⟨c5, f5⟩ := c5
        have c6 := M4.out.x.cells.get 6 _ rfl
        obtain ⟨c6, f6⟩ := c6
        have c7 := M4.out.x.cells.get 7 _ rfl
        obtain ⟨c7, f7⟩ := c7
        have c9 := M4.out.x.cells.get 9 _ rfl
        obtain ⟨c9, f9⟩ := c9
        have c10 := M4.out.x.cells.get 10 _ rfl
        obtain ⟨c10, f10⟩ := c10
        have c11 := M4.out.x.cells.get 11 _ rfl
        obtain ⟨c11, f11⟩ := c11
        have c12 := M4.out.x.cells.get 12 _ rfl
        obtain ⟨c12, f12⟩ := c12
        have c13 := M4.out.x.cells.get 13 _ rfl
        obtain ⟨c13, f13⟩ := c13
        have d0 := (C6.out.get 0 _ rfl).1
        have d1 := (C6.out.get 1 _ rfl).1
        have e0 := (C7.out.get 0 _ rfl).1
        have e1 := (C7.out.get 1 _ rfl).1
        have n6 : ¬ (b6 = w.heap.size + 2) := by omega
        have n7 : ¬ (b7 = w.heap.size + 2) := by omega
        have n8 : ¬ (w.heap.size = w.heap.size + 2) := by omega
        have p10 := (M4.out.p.cells.get 10 _ rfl).1
        have p11 := (M4.out.p.cells.get 11 _ rfl).1
        have p12 := (M4.out.p.cells.get 12 _ rfl).1
        have p13 := (M4.out.p.cells.get 13 _ rfl).1
        obtain ⟨mn, hmn⟩ : ∃ m, m = (if hi < lo then hi else lo) := ⟨_, rfl⟩
        obtain ⟨mx, hmx⟩ : ∃ m, m = (if lo < hi then hi else lo) := ⟨_, rfl⟩
        obtain ⟨v1, hv1⟩ : ∃ m, m = (if val < mn then mn else val) := ⟨_, rfl⟩
        obtain ⟨v2, hv2⟩ : ∃ m, m = (if mx < v1 then mx else v1) := ⟨_, rfl⟩
        have HV := hide (show (mn ≤ v2 ∧ v2 ≤ mx) ∧ (-9223372036854775808 ≤ mn ∧ mn ≤ 9223372036854775807) ∧ (-9223372036854775808 ≤ mx ∧ mx ≤ 9223372036854775807) ∧ (-9223372036854775808 ≤ v2 ∧ v2 ≤ 9223372036854775807) by
          obtain ⟨_, g2, g3, g4⟩ := HF.out
          simp only at g2 g3 g4
          have a1 : (mn = lo ∧ mx = hi ∧ lo ≤ hi) ∨ (mn = hi ∧ mx = lo ∧ hi ≤ lo) := by rw [hmn, hmx]; split <;> split <;> omega
          have a2 : v2 = mn ∨ v2 = mx ∨ (v2 = val ∧ mn ≤ val ∧ val ≤ mx) := by rw [hv2]; split <;> rw [hv1] at * <;> split at * <;> omega
          omega)
        have E1 := hmn.symm
        have E2 := hmx.symm
        have E3 := hv1.symm
        have E4 := hv2.symm
        clear hmn hmx hv1 hv2
        go_wp2_with fail
        refine (rest_any grp 1 1048576 _ (by omega) (by omega) (by omega)).mono ?_
        rintro e w' ⟨gg, rfl, hgg, hw⟩
        subst hw
        have MF := ((((((((((((M4.out.set 4 (.int .i64 wpx)).set 5 (.int .i64 wix)).set 6 (.int .i64 spx)).set 7 (.int .i64 six)).set 9 (.int .i64 ii)).set 10 (.int .i64 gg)).set 11 (.int .i64 0)).set 12 (.int .i64 0)).set 13 (.int .i64 0)).set 11 (.int .i64 mn)).set 12 (.int .i64 mx)).set 13 (.int .i64 v2))
        simp only [List.setIfInBounds_toArray, List.set_cons_zero, List.set_cons_succ] at MF
        go_upto_region 34 with fail
        generalize ((((((((((((w4.setCell ⟨w.heap.size + 2, 4, none⟩ (.int .i64 wpx)).setCell ⟨w.heap.size + 2, 5, none⟩ (.int .i64 wix)).setCell ⟨w.heap.size + 2, 6, none⟩ (.int .i64 spx)).setCell ⟨w.heap.size + 2, 7, none⟩ (.int .i64 six)).setCell ⟨w.heap.size + 2, 9, none⟩ (.int .i64 ii)).setCell ⟨w.heap.size + 2, 10, none⟩ (.int .i64 gg)).setCell ⟨w.heap.size + 2, 11, none⟩ (.int .i64 0)).setCell ⟨w.heap.size + 2, 12, none⟩ (.int .i64 0)).setCell ⟨w.heap.size + 2, 13, none⟩ (.int .i64 0)).setCell ⟨w.heap.size + 2, 11, none⟩ (.int .i64 mn)).setCell ⟨w.heap.size + 2, 12, none⟩ (.int .i64 mx)).setCell ⟨w.heap.size + 2, 13, none⟩ (.int .i64 v2)) = w5 at *
        have MF := hide MF
        clear c4 f4 c5 f5 c6 f6 c7 f7 c9 f9 c10 f10 c11 f11 c12 f12 c13 f13 M4 p10 p11 p12 p13 E1 E2 E3 E4
        go_wp2_with (first | refine wpList_load36 MF.out.x rfl rfl ?_ | (refine wpList_store36 MF.out.z rfl rfl rfl rfl rfl ?_; intro wf hbf hkf))
        obtain ⟨hv, hm1, hm2, hm3⟩ := HV.out
        have FT : Fits ⟨ln, 2, 0, 0, wpx, wix, spx, six, 0, ii, gg, mn, mx, v2, [], [], 0⟩ := by
          unfold Fits
          simp
          omega
        have OK : okB ⟨ln, 2, 0, 0, wpx, wix, spx, six, 0, ii, gg, mn, mx, v2, [], [], 0⟩ = true := by
          simp [okB, fromB, aheadB, oneB, slotsB, slotB, firstB, pointsB, hTx, hPrev, hCtr, hFirst, hDelta, hPts]
          omega
        refine bodyPost_ret (results_box rfl _ _ rfl hbf rfl) rfl ?_
        exact ⟨_, ⟨ln, 2, 0, 0, wpx, wix, spx, six, 0, ii, gg, mn, mx, v2, [], [], 0⟩, rfl, ⟨none, none, 0, 0, rfl, World.ownsRow_nil _ _ _ _, World.ownsRow_nil _ _ _ _, nofun⟩, chkE_of (by simp) (by simp) OK, FT, MF.out.bel.trans (hkf.below MF.out.bel.size (fun k hk q => by omega))⟩

      · rcases q with q | q
        · subst q
          have c2 := M4.out.x.cells.get 2 _ rfl
          obtain ⟨c2, f2⟩ := c2
          have c3 := M4.out.x.cells.get 3 _ rfl
          obtain ⟨c3, f3⟩ := c3
          have c4 := M4.out.x.cells.get 4 _ rfl
          obtain ⟨c4, f4⟩ := c4
          have c5 := M4.out.x.cells.get 5 _ rfl
          obtain ⟨c5, f5⟩ := c5
          have c6 := M4.out.x.cells.get 6 _ rfl
          obtain ⟨c6, f6⟩ := c6
          have c7 := M4.out.x.cells.get 7 _ rfl
          obtain ⟨c7, f7⟩ := c7
          have c8 := M4.out.x.cells.get 8 _ rfl
          obtain ⟨c8, f8⟩ := c8
          have c9 := M4.out.x.cells.get 9 _ rfl
          obtain ⟨c9, f9⟩ := c9
          have d0 := (C6.out.get 0 _ rfl).1
          have d1 := (C6.out.get 1 _ rfl).1
          have e0 := (C7.out.get 0 _ rfl).1
          have e1 := (C7.out.get 1 _ rfl).1
          have p8 := (M4.out.p.cells.get 8 _ rfl).1
          have n6 : ¬ (b6 = w.heap.size + 2) := by omega
          have n7 : ¬ (b7 = w.heap.size + 2) := by omega
          have n8 : ¬ (w.heap.size = w.heap.size + 2) := by omega
          have MF := ((((((((M4.out.set 2 (.int .i64 tt)).set 3 (.int .i64 pp)).set 4 (.int .i64 wpx)).set 5 (.int .i64 wix)).set 6 (.int .i64 spx)).set 7 (.int .i64 six)).set 9 (.int .i64 ii)).set 8 (.int .i64 delta))
          simp only [List.setIfInBounds_toArray, List.set_cons_zero, List.set_cons_succ] at MF
          go_upto_region 34 with fail
          generalize ((((((((w4.setCell ⟨w.heap.size + 2, 2, none⟩ (.int .i64 tt)).setCell ⟨w.heap.size + 2, 3, none⟩ (.int .i64 pp)).setCell ⟨w.heap.size + 2, 4, none⟩ (.int .i64 wpx)).setCell ⟨w.heap.size + 2, 5, none⟩ (.int .i64 wix)).setCell ⟨w.heap.size + 2, 6, none⟩ (.int .i64 spx)).setCell ⟨w.heap.size + 2, 7, none⟩ (.int .i64 six)).setCell ⟨w.heap.size + 2, 9, none⟩ (.int .i64 ii)).setCell ⟨w.heap.size + 2, 8, none⟩ (.int .i64 delta)) = w5 at *
          have MF := hide MF
          clear c2 f2 c3 f3 c4 f4 c5 f5 c6 f6 c7 f7 c8 f8 c9 f9 M4
          go_wp2_with (first | refine wpList_load36 MF.out.x rfl rfl ?_ | (refine wpList_store36 MF.out.z rfl rfl rfl rfl rfl ?_; intro wf hbf hkf))
          have FT : Fits ⟨ln, 3, tt, pp, wpx, wix, spx, six, delta, ii, 0, 0, 0, 0, [], [], 0⟩ := by
            obtain ⟨g1, _⟩ := HF.out
            unfold Fits
            simp at g1 ⊢
            exact g1
          have OK : okB ⟨ln, 3, tt, pp, wpx, wix, spx, six, delta, ii, 0, 0, 0, 0, [], [], 0⟩ = true := by
            simp [okB, fromB, aheadB, oneB, slotsB, slotB, firstB, pointsB, hTx, hPrev, hCtr, hFirst, hDelta, hPts]
            omega
          refine bodyPost_ret (results_box rfl _ _ rfl hbf rfl) rfl ?_
          exact ⟨_, ⟨ln, 3, tt, pp, wpx, wix, spx, six, delta, ii, 0, 0, 0, 0, [], [], 0⟩, rfl, ⟨none, none, 0, 0, rfl, World.ownsRow_nil _ _ _ _, World.ownsRow_nil _ _ _ _, nofun⟩, chkE_of (by simp) (by simp) OK, FT, MF.out.bel.trans (hkf.below MF.out.bel.size (fun k hk q => by omega))⟩

        · subst q
          have c2 := M4.out.x.cells.get 2 _ rfl
          obtain ⟨c2, f2⟩ := c2
          have c3 := M4.out.x.cells.get 3 _ rfl
          obtain ⟨c3, f3⟩ := c3
          have c4 := M4.out.x.cells.get 4 _ rfl
          obtain ⟨c4, f4⟩ := c4
          have c5 := M4.out.x.cells.get 5 _ rfl
          obtain ⟨c5, f5⟩ := c5
          have c6 := M4.out.x.cells.get 6 _ rfl
          obtain ⟨c6, f6⟩ := c6
          have c7 := M4.out.x.cells.get 7 _ rfl
          obtain ⟨c7, f7⟩ := c7
          have c8 := M4.out.x.cells.get 8 _ rfl
          obtain ⟨c8, f8⟩ := c8
          have c9 := M4.out.x.cells.get 9 _ rfl
          obtain ⟨c9, f9⟩ := c9
          have d0 := (C6.out.get 0 _ rfl).1
          have d1 := (C6.out.get 1 _ rfl).1
          have e0 := (C7.out.get 0 _ rfl).1
          have e1 := (C7.out.get 1 _ rfl).1
          have p8 := (M4.out.p.cells.get 8 _ rfl).1
          have n6 : ¬ (b6 = w.heap.size + 2) := by omega
          have n7 : ¬ (b7 = w.heap.size + 2) := by omega
          have n8 : ¬ (w.heap.size = w.heap.size + 2) := by omega
          have MF := ((((((((M4.out.set 2 (.int .i64 tt)).set 3 (.int .i64 pp)).set 4 (.int .i64 wpx)).set 5 (.int .i64 wix)).set 6 (.int .i64 spx)).set 7 (.int .i64 six)).set 9 (.int .i64 ii)).set 8 (.int .i64 delta))
          simp only [List.setIfInBounds_toArray, List.set_cons_zero, List.set_cons_succ] at MF
          go_upto_region 34 with fail
          generalize ((((((((w4.setCell ⟨w.heap.size + 2, 2, none⟩ (.int .i64 tt)).setCell ⟨w.heap.size + 2, 3, none⟩ (.int .i64 pp)).setCell ⟨w.heap.size + 2, 4, none⟩ (.int .i64 wpx)).setCell ⟨w.heap.size + 2, 5, none⟩ (.int .i64 wix)).setCell ⟨w.heap.size + 2, 6, none⟩ (.int .i64 spx)).setCell ⟨w.heap.size + 2, 7, none⟩ (.int .i64 six)).setCell ⟨w.heap.size + 2, 9, none⟩ (.int .i64 ii)).setCell ⟨w.heap.size + 2, 8, none⟩ (.int .i64 delta)) = w5 at *
          have MF := hide MF
          clear c2 f2 c3 f3 c4 f4 c5 f5 c6 f6 c7 f7 c8 f8 c9 f9 M4
          go_wp2_with (first | refine wpList_load36 MF.out.x rfl rfl ?_ | (refine wpList_store36 MF.out.z rfl rfl rfl rfl rfl ?_; intro wf hbf hkf))
          have FT : Fits ⟨ln, 4, tt, pp, wpx, wix, spx, six, delta, ii, 0, 0, 0, 0, [], [], 0⟩ := by
            obtain ⟨g1, _⟩ := HF.out
            unfold Fits
            simp at g1 ⊢
            exact g1
          have OK : okB ⟨ln, 4, tt, pp, wpx, wix, spx, six, delta, ii, 0, 0, 0, 0, [], [], 0⟩ = true := by
            simp [okB, fromB, aheadB, oneB, slotsB, slotB, firstB, pointsB, hTx, hPrev, hCtr, hFirst, hDelta, hPts]
            omega
          refine bodyPost_ret (results_box rfl _ _ rfl hbf rfl) rfl ?_
          exact ⟨_, ⟨ln, 4, tt, pp, wpx, wix, spx, six, delta, ii, 0, 0, 0, 0, [], [], 0⟩, rfl, ⟨none, none, 0, 0, rfl, World.ownsRow_nil _ _ _ _, World.ownsRow_nil _ _ _ _, nofun⟩, chkE_of (by simp) (by simp) OK, FT, MF.out.bel.trans (hkf.below MF.out.bel.size (fun k hk q => by omega))⟩

      · rcases q with q | q | q
        · subst q
          have c2 := M4.out.x.cells.get 2 _ rfl
          obtain ⟨c2, f2⟩ := c2
          have c3 := M4.out.x.cells.get 3 _ rfl
          obtain ⟨c3, f3⟩ := c3
          have MF := ((M4.out.set 2 (.int .i64 tt)).set 3 (.int .i64 pp))
          simp only [List.setIfInBounds_toArray, List.set_cons_zero, List.set_cons_succ] at MF
          go_upto_region 34 with fail
          generalize ((w4.setCell ⟨w.heap.size + 2, 2, none⟩ (.int .i64 tt)).setCell ⟨w.heap.size + 2, 3, none⟩ (.int .i64 pp)) = w5 at *
          have MF := hide MF
          clear c2 f2 c3 f3 M4
          go_wp2_with (first | refine wpList_load36 MF.out.x rfl rfl ?_ | (refine wpList_store36 MF.out.z rfl rfl rfl rfl rfl ?_; intro wf hbf hkf))
          have FT : Fits ⟨ln, 5, tt, pp, 0, 0, 0, 0, 0, 0, 0, 0, 0, 0, [], [], 0⟩ := by
            unfold Fits
            simp
          have OK : okB ⟨ln, 5, tt, pp, 0, 0, 0, 0, 0, 0, 0, 0, 0, 0, [], [], 0⟩ = true := by
            simp [okB, fromB, aheadB, oneB, slotsB, slotB, firstB, pointsB, hTx, hPrev, hCtr, hFirst, hDelta, hPts]
            omega
          refine bodyPost_ret (results_box rfl _ _ rfl hbf rfl) rfl ?_
          exact ⟨_, ⟨ln, 5, tt, pp, 0, 0, 0, 0, 0, 0, 0, 0, 0, 0, [], [], 0⟩, rfl, ⟨none, none, 0, 0, rfl, World.ownsRow_nil _ _ _ _, World.ownsRow_nil _ _ _ _, nofun⟩, chkE_of (by simp) (by simp) OK, FT, MF.out.bel.trans (hkf.below MF.out.bel.size (fun k hk q => by omega))⟩

        · subst q
          have c2 := M4.out.x.cells.get 2 _ rfl
          obtain ⟨c2, f2⟩ := c2
          have c3 := M4.out.x.cells.get 3 _ rfl
          obtain ⟨c3, f3⟩ := c3
          have MF := ((M4.out.set 2 (.int .i64 tt)).set 3 (.int .i64 pp))
          simp only [List.setIfInBounds_toArray, List.set_cons_zero, List.set_cons_succ] at MF
          go_upto_region 34 with fail
          generalize ((w4.setCell ⟨w.heap.size + 2, 2, none⟩ (.int .i64 tt)).setCell ⟨w.heap.size + 2, 3, none⟩ (.int .i64 pp)) = w5 at *
          have MF := hide MF
          clear c2 f2 c3 f3 M4
          go_wp2_with (first | refine wpList_load36 MF.out.x rfl rfl ?_ | (refine wpList_store36 MF.out.z rfl rfl rfl rfl rfl ?_; intro wf hbf hkf))
          have FT : Fits ⟨ln, 6, tt, pp, 0, 0, 0, 0, 0, 0, 0, 0, 0, 0, [], [], 0⟩ := by
            unfold Fits
            simp
          have OK : okB ⟨ln, 6, tt, pp, 0, 0, 0, 0, 0, 0, 0, 0, 0, 0, [], [], 0⟩ = true := by
            simp [okB, fromB, aheadB, oneB, slotsB, slotB, firstB, pointsB, hTx, hPrev, hCtr, hFirst, hDelta, hPts]
            omega
          refine bodyPost_ret (results_box rfl _ _ rfl hbf rfl) rfl ?_
          exact ⟨_, ⟨ln, 6, tt, pp, 0, 0, 0, 0, 0, 0, 0, 0, 0, 0, [], [], 0⟩, rfl, ⟨none, none, 0, 0, rfl, World.ownsRow_nil _ _ _ _, World.ownsRow_nil _ _ _ _, nofun⟩, chkE_of (by simp) (by simp) OK, FT, MF.out.bel.trans (hkf.below MF.out.bel.size (fun k hk q => by omega))⟩

        · subst q
          have c2 := M4.out.x.cells.get 2 _ rfl
          obtain ⟨c2, f2⟩ := c2
          have c3 := M4.out.x.cells.get 3 _ rfl
          obtain ⟨c3, f3⟩ := c3
          have MF := ((M4.out.set 2 (.int .i64 tt)).set 3 (.int .i64 pp))
          simp only [List.setIfInBounds_toArray, List.set_cons_zero, List.set_cons_succ] at MF
          go_upto_region 34 with fail
          generalize ((w4.setCell ⟨w.heap.size + 2, 2, none⟩ (.int .i64 tt)).setCell ⟨w.heap.size + 2, 3, none⟩ (.int .i64 pp)) = w5 at *
          have MF := hide MF
          clear c2 f2 c3 f3 M4
          go_wp2_with (first | refine wpList_load36 MF.out.x rfl rfl ?_ | (refine wpList_store36 MF.out.z rfl rfl rfl rfl rfl ?_; intro wf hbf hkf))
          have FT : Fits ⟨ln, 7, tt, pp, 0, 0, 0, 0, 0, 0, 0, 0, 0, 0, [], [], 0⟩ := by
            unfold Fits
            simp
          have OK : okB ⟨ln, 7, tt, pp, 0, 0, 0, 0, 0, 0, 0, 0, 0, 0, [], [], 0⟩ = true := by
            simp [okB, fromB, aheadB, oneB, slotsB, slotB, firstB, pointsB, hTx, hPrev, hCtr, hFirst, hDelta, hPts]
            omega
          refine bodyPost_ret (results_box rfl _ _ rfl hbf rfl) rfl ?_
          exact ⟨_, ⟨ln, 7, tt, pp, 0, 0, 0, 0, 0, 0, 0, 0, 0, 0, [], [], 0⟩, rfl, ⟨none, none, 0, 0, rfl, World.ownsRow_nil _ _ _ _, World.ownsRow_nil _ _ _ _, nofun⟩, chkE_of (by simp) (by simp) OK, FT, MF.out.bel.trans (hkf.below MF.out.bel.size (fun k hk q => by omega))⟩

      · subst q
        have p14 := (M4.out.p.cells.get 14 _ rfl).1
        have p15 := (M4.out.p.cells.get 15 _ rfl).1
        have p16 := (M4.out.p.cells.get 16 _ rfl).1
        have x0 := (M4.out.x.cells.get 0 _ rfl).1
        have lt2 := M4.out.x.lt
        go_wp2_with fail
        refine (points_any live dirty la da lc dc next ln _ (HL.out.below M4.out.bel) (HD.out.below M4.out.bel) hln.1 hln.2).mono ?_
        rintro e w5 ⟨vL, vD, nx, ls, ds, rfl, rl, rd, ld, pts, b5⟩
        have M5 := M4.out.below b5
        have BL := fun g q => (World.ownsRow.lt rl g q).1
        have BD := fun g q => (World.ownsRow.lt rd g q).1
        obtain ⟨aL, cL, eL, _⟩ := GRow.lies rl
        obtain ⟨aD, cD, eD, _⟩ := GRow.lies rd
        subst eL eD
        have rl := GRow.mono rl M4.out.bel.size
        have rd := GRow.mono rd M4.out.bel.size
        have PTS := hide pts
        have LD := hide ld
        clear p14 p15 p16 x0 b5 pts ld
        have c14 := M5.x.cells.get 14 _ rfl
        obtain ⟨c14, f14⟩ := c14
        have c15 := M5.x.cells.get 15 _ rfl
        obtain ⟨c15, f15⟩ := c15
        have c16 := M5.x.cells.get 16 _ rfl
        obtain ⟨c16, f16⟩ := c16
        have MF := (((M5.set 14 (.slice aL ls.length cL)).set 15 (.slice aD ds.length cD)).set 16 (.int .i64 nx))
        simp only [List.setIfInBounds_toArray, List.set_cons_zero, List.set_cons_succ] at MF
        have kx := ((((Keep.refl (fun k => k = w.heap.size + 2) w5).setCell (fun _ => rfl) (.slice aL ls.length cL) (j := 14)).setCell (fun _ => rfl) (.slice aD ds.length cD) (j := 15)).setCell (fun _ => rfl) (.int .i64 nx) (j := 16))
        have RL := hide (GRow.keep rl kx (fun g q e => by have := BL g q; have e1 : g = w.heap.size + 2 := e; omega))
        have RD := hide (GRow.keep rd kx (fun g q e => by have := BD g q; have e1 : g = w.heap.size + 2 := e; omega))
        have BL := hide (show ∀ g, (Value.slice aL ls.length cL).ownBlock = some g → w.heap.size + 2 < g from fun g q => by have := BL g q; omega)
        have BD := hide (show ∀ g, (Value.slice aD ds.length cD).ownBlock = some g → w.heap.size + 2 < g from fun g q => by have := BD g q; omega)
        clear rl rd kx
        go_upto_region 34 with fail
        generalize (((w5.setCell ⟨w.heap.size + 2, 14, none⟩ (.slice aL ls.length cL)).setCell ⟨w.heap.size + 2, 15, none⟩ (.slice aD ds.length cD)).setCell ⟨w.heap.size + 2, 16, none⟩ (.int .i64 nx)) = w6 at *
        have MF := hide MF
        clear c14 f14 c15 f15 c16 f16 M4 M5
        go_wp2_with (first | refine wpList_load36 MF.out.x rfl rfl ?_ | (refine wpList_store36 MF.out.z rfl rfl rfl rfl rfl ?_; intro wf hbf hkf))
        have OK : okB ⟨ln, 8, 0, 0, 0, 0, 0, 0, 0, 0, 0, 0, 0, 0, ls, ds, nx⟩ = true := by
          have p := PTS.out
          simp [okB, fromB, aheadB, oneB, slotsB, firstB, hTx, hPrev, hCtr, hFirst, hDelta, hPts, p]
          omega
        have FT : Fits ⟨ln, 8, 0, 0, 0, 0, 0, 0, 0, 0, 0, 0, 0, 0, ls, ds, nx⟩ := by
          unfold Fits
          simp
        refine bodyPost_ret (results_box rfl _ _ rfl hbf rfl) rfl ?_
        exact ⟨_, ⟨ln, 8, 0, 0, 0, 0, 0, 0, 0, 0, 0, 0, 0, 0, ls, ds, nx⟩, rfl, ⟨aL, aD, cL, cD, rfl, GRow.keep RL.out hkf (fun g q e => by have := BL.out g q; have e1 : g = w.heap.size + 1 := e; omega), GRow.keep RD.out hkf (fun g q e => by have := BD.out g q; have e1 : g = w.heap.size + 1 := e; omega), LD.out⟩, chkE_of (by simp) (by simp) OK, FT, MF.out.bel.trans (hkf.below MF.out.bel.size (fun k hk q => by omega))⟩

end Go.Proofs.Ytlibldioliicfaa
