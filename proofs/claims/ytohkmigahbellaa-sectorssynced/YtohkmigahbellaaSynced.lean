import Derived.Test.YtohkmigahbellaaWrote
import Derived.Test.YtohkmigahbellaaArmed
import Derived.Test.YtohkmigahbellaaSyncM
namespace Go.Proofs.Ytohkmigahbellaa
open Go.RowKit Go.QK

set_option maxRecDepth 100000 in
theorem entry_fits (x : Nat) (p : Int × Nat) (hx : 1 ≤ x) : Fits (512 * x) (entry x p) := by
  have := bring_lt p.1 x hx
  exact ⟨by show 512 * bring p.1 x + 512 ≤ _; omega, by show (filledB p.2 512).length = 512; exact filledB_length _ _, by show AllB (filledB p.2 512); exact filledB_allB _ _⟩
def zeros (x : Nat) : List Nat := List.replicate (512 * x) 0
theorem zeros_allB (x : Nat) : AllB (zeros x) := fun y hy => by simp [zeros] at hy; omega
theorem div200_le (r : Nat) (h : r < 512) : r / 200 ≤ 2 := by omega
theorem small_u8 (z : Nat) (h : z ≤ 2) : IntKind.i64.wrap (z : Int) = (z : Int) ∧ IntKind.u8.wrap (z : Int) = (z : Int) ∧ (z : Int) % 256 = (z : Int) := by
  refine ⟨by rw [IntKind.wrap_i64]; omega, by rw [IntKind.wrap_u8]; omega, by omega⟩
theorem small_64 (z : Nat) (h : z ≤ 10) : wrap64 (z : Int) = (z : Int) := by unfold wrap64; omega
theorem add_u8 (p z : Nat) : IntKind.u8.wrap ((p : Int) + (z : Int)) = (((p + z) % 256 : Nat) : Int) ∧ ((p : Int) + (z : Int)) % 256 = (((p + z) % 256 : Nat) : Int) := by
  refine ⟨by rw [IntKind.wrap_u8]; omega, by omega⟩
theorem filledB_get (f r : Nat) (h : r < 512) : (filledB f 512).getD r 0 = (f + r / 200) % 256 := by
  simp [filledB, h]
theorem mayTo_entry (us : List (Int × Nat)) (n i x y k : Nat) (hk : k < us.length) : mayTo (us.map (entry n)) i x y (k + 1) = if bring us[k].1 n = i / 512 then (mayTo (us.map (entry n)) i x y k || decide (x = (us[k].2 + i % 512 / 200) % 256)) else mayTo (us.map (entry n)) i x y k := by
  have e1 : ((us.map (entry n)).getD k (0, [])) = entry n us[k] := by simp [hk]
  have e2 : (entry n us[k]).1 = bring us[k].1 n := rfl
  have e3 : (entry n us[k]).2.getD (i % 512) 0 = (us[k].2 + i % 512 / 200) % 256 := by
    simp only [entry]
    exact filledB_get us[k].2 (i % 512) (Nat.mod_lt _ (by decide))
  rw [mayTo, e1, e2, e3]
theorem lastTo_entry (us : List (Int × Nat)) (n i k : Nat) (hk : k < us.length) : lastTo (us.map (entry n)) i (k + 1) = if bring us[k].1 n = i / 512 then (k : Int) else lastTo (us.map (entry n)) i k := by
  have e1 : ((us.map (entry n)).getD k (0, [])) = entry n us[k] := by simp [hk]
  have e2 : (entry n us[k]).1 = bring us[k].1 n := rfl
  rw [lastTo, e1, e2]
theorem entry_get (us : List (Int × Nat)) (n k : Nat) (hk : k < us.length) (h : k < (us.map (entry n)).length) (r : Nat) (hr : r < 512) : ((us.map (entry n))[k]).2.getD r 0 = (us[k].2 + r / 200) % 256 := by
  rw [List.getElem_map]
  simp only [entry]
  exact filledB_get us[k].2 r hr
def wantOf (x : Nat) (ps : List (Int × Nat)) : List Nat := syncAll (ps.map (entry x)) (zeros x)
theorem wantOf_step (x : Nat) (ps : List (Int × Nat)) (k : Nat) (h : k < ps.length) : wantOf x (ps.take (k + 1)) = lay (wantOf x (ps.take k)) (bring ps[k].1 x) (filledB ps[k].2 512) 512 := by
  unfold wantOf
  rw [List.map_take, List.map_take, syncAll_take (ps.map (entry x)) (zeros x) k (by simpa using h)]
  simp [entry]
theorem wantOf_ok (x : Nat) (ps : List (Int × Nat)) (hx : 1 ≤ x) : (wantOf x ps).length = 512 * x ∧ AllB (wantOf x ps) := by
  refine syncAll_ok (ps.map (entry x)) (zeros x) (fun p hp => ?_) (by simp [zeros]) (zeros_allB x)
  obtain ⟨q, _, rfl⟩ := List.mem_map.1 hp
  exact entry_fits x q hx

set_option maxHeartbeats 4000000 in
set_option maxRecDepth 100000 in
theorem synced_walk (size : Int) (a1 : Option Addr) (c1 : Nat) (ps1 : List (Int × Nat)) (a2 : Option Addr) (c2 : Nat) (ps2 : List (Int × Nat)) (la : Option Addr) (lc : Nat) (l : Loss) (w : World) (hp1 : PutsAt w a1 ps1) (hc1 : ps1.length ≤ c1) (ha1 : a1 = none → c1 = 0) (hm1 : c1 ≤ maxLen)
    (hp2 : PutsAt w a2 ps2) (hc2 : ps2.length ≤ c2) (ha2 : a2 = none → c2 = 0) (hm2 : c2 ≤ maxLen) (hl : LossAt w l la lc) :
    Calls Try.prog 5 #[.int .i64 size, .slice a1 ps1.length c1, .slice a2 ps2.length c2, .agg #[.slice la l.keep.length lc, .int .i64 l.torn, .int .i64 l.off]] w fun e w' => e = .returned (.bool true) ∧ Below w.heap.size w w' := by
  have B0 := alloc_below w (.cells #[.slice la l.keep.length lc, .int .i64 l.torn, .int .i64 l.off] 26)
  have HL := hide hl
  have HP1 := hide hp1
  have HP2 := hide hp2
  clear hl hp1 hp2
  go_enter Try.func5, Try.ntmps5
  go_wp2_with fail
  refine (brought_any size 9 _ (by decide) (by decide)).mono ?_
  rintro e w' ⟨rfl, hw⟩
  subst hw
  have hx9 := bring_lt size 9 (by decide)
  generalize bring size 9 = x at *
  go_wp2_with fail
  have NW := new_ok (1 + x) (w.alloc (.cells #[.slice la l.keep.length lc, .int .i64 l.torn, .int .i64 l.off] 26)) (by omega) (by omega)
  rw [show ((1 + x : Nat) : Int) = 1 + (x : Int) by omega] at NW
  refine NW.mono ?_
  rintro e w1 ⟨d, S, rfl, D1, f1, b1⟩
  have L1 := hide (show Live w.heap.size w w1 S d (Dev.new (1 + x)) from ⟨D1, fun b hb => by have := f1 b hb; simp at this; omega, bnext B0 b1 (Nat.le_refl _), Nat.le_refl _⟩)
  have A1 := hide (show Aside w1 (fun b => S b ∨ False) w.heap.size [.slice la l.keep.length lc, .int .i64 l.torn, .int .i64 l.off] by
    refine Aside.below (w := w.alloc (.cells #[.slice la l.keep.length lc, .int .i64 l.torn, .int .i64 l.off] 26)) ⟨fun j v hv => ?_, fun q => by have := f1 _ (q.resolve_right id); simp at this; omega, by simp⟩ b1
    rw [World.cell?_alloc_new]
    simpa using hv)
  clear D1 f1 b1 NW
  go_wp2_with fail
  refine (num_any _ _).mono ?_
  rintro e w' ⟨rfl, hw⟩
  obtain rfl : w1 = w' := hw.symm
  go_wp2_with fail
  refine (awake_any _).mono ?_
  rintro e w3 ⟨rfl, b3⟩
  have L3 := hide (L1.out.below b3)
  have A3 := hide (A1.out.below b3)
  clear b3 L1 A1
  go_wp2_with fail
  have SE := sectors_any L3.out.dev
  rw [show (Dev.new (1 + x)).n = 1 + x by simp [Dev.new, Dev.n], show ((1 + x : Nat) : Int) = 1 + (x : Int) by omega] at SE
  refine SE.mono ?_
  rintro e w' ⟨rfl, hw⟩
  obtain rfl : w3 = w' := hw.symm
  clear SE
  go_wp2_with fail
  refine (cutPuts_any a1 ps1.length c1 w3 hc1 ha1 hm1).mono ?_
  rintro e w' ⟨rfl, hw⟩
  obtain rfl : w3 = w' := hw.symm
  go_wp2_with fail
  refine (cutPuts_any a2 ps2.length c2 w3 hc2 ha2 hm2).mono ?_
  rintro e w' ⟨rfl, hw⟩
  obtain rfl : w3 = w' := hw.symm
  obtain ⟨qs, hqs⟩ : ∃ qs, qs = ps1.take 120 := ⟨_, rfl⟩
  obtain ⟨us, hus⟩ : ∃ us, us = ps2.take 120 := ⟨_, rfl⟩
  rw [show min ps1.length 120 = qs.length by rw [hqs]; simp; omega, show min ps2.length 120 = us.length by rw [hus]; simp; omega]
  have hq120 : qs.length ≤ 120 := by rw [hqs]; simp; omega
  have hu120 : us.length ≤ 120 := by rw [hus]; simp; omega
  have HQ := hide (show PutsAt w a1 qs by rw [hqs]; exact HP1.out.take 120)
  have HU := hide (show PutsAt w a2 us by rw [hus]; exact HP2.out.take 120)
  clear hqs hus HP1 HP2
  obtain ⟨w4, m4, o4, b4, z4⟩ := makeB w3 (512 * (1 + x)) (by omega)
  have em : IntKind.i64.wrap ((1 + (x : Int)) * 512) = ((512 * (1 + x) : Nat) : Int) := by rw [IntKind.wrap_i64]; omega
  obtain ⟨mm, hmm⟩ : ∃ mm, mm = 512 * (1 + x) := ⟨_, rfl⟩
  rw [← hmm] at m4 o4 em
  have HMM := hide hmm
  have hm1 : mm ≤ 4608 := by omega
  obtain ⟨gw, hgw⟩ : ∃ gw, gw = w3.heap.size := ⟨_, rfl⟩
  rw [← hgw] at m4 o4
  have L4 := hide (L3.out.below b4)
  have A4 := hide (A3.out.below b4)
  have hgwS : ¬ S gw := fun q => by have := L3.out.dev.lt _ q; omega
  have hgwB : w.heap.size < gw := by have := A3.out.lt; omega
  have W4 := hide (show OwnB w4 0 (.slice (some ⟨gw, 0, none⟩) mm mm) (wantOf (1 + x) (qs.take 0)) by
    have q := Owns.base o4 (Nat.zero_le gw)
    rw [hmm] at q ⊢
    exact q)
  clear hmm
  clear o4 b4 L3 A3 hgw
  go_wp2_with fail
  go_loopw [13] (fun i wr => ∃ j : Nat, j ≤ qs.length ∧ i = .int .i64 (j : Int) ∧ OwnB wr 0 (.slice (some ⟨gw, 0, none⟩) mm mm) (wantOf (1 + x) (qs.take j)) ∧ Live w.heap.size w wr S d (Dev.new (1 + x)) ∧ Aside wr (fun b => S b ∨ False) w.heap.size [.slice la l.keep.length lc, .int .i64 l.torn, .int .i64 l.off]) (fun i _ => qs.length - (intOf i).toNat)
  case atStart => exact ⟨0, Nat.zero_le _, rfl, W4.out, L4.out, A4.out⟩
  case round =>
    obtain ⟨j, hj, rfl, hW5, hL5, hA5⟩ := hrel
    have W5 := hide hW5
    have L5 := hide hL5
    have A5 := hide hA5
    clear hW5 hL5 hA5 W4 L4 A4
    by_cases hlt : j < qs.length
    · have hlt' : (j : Int) < (qs.length : Int) := by omega
      obtain ⟨b, off, rfl, hbl0, _⟩ := HQ.out j hlt
      obtain ⟨b', off', e, hbw, p0, p1⟩ := (HQ.out.below L5.out.bel) j hlt
      cases e
      have HSTEP := hide (wantOf_step (1 + x) qs j hlt)
      have hbr := bring_lt qs[j].1 (1 + x) (by omega)
      have hwl := (wantOf_ok (1 + x) (qs.take j) (by omega)).1
      obtain ⟨wt, hwt⟩ : ∃ wt, wt = wantOf (1 + x) (qs.take j) := ⟨_, rfl⟩
      obtain ⟨g0, hg0⟩ : ∃ g0, g0 = Dev.new (1 + x) := ⟨_, rfl⟩
      rw [← hwt] at W5 HSTEP hwl
      rw [← hg0] at L5
      obtain ⟨S5, hS5⟩ : ∃ S5, S5 = S := ⟨_, rfl⟩
      subst hS5
      generalize qs[j].1 = pi at *
      generalize qs[j].2 = pf at *
      have HG0 := hide hg0
      clear hwt hg0
      go_upto_region 11 with fail
      refine wp_region_held_drew (S := fun x => x.cell? ⟨b, off + j * 2, none⟩ = some (.int .i64 pi) ∧ x.cell? ⟨b, off + j * 2 + 1, none⟩ = some (.int .u8 (pf : Int))) (by kernel_rfl) ⟨p0, p1⟩ (fun hS => ?_)
      refine take_at 0 (some 52) (v := ?_) rfl rfl (by kernel_rfl) (by kernel_rfl) (by kernel_rfl) (fun _ _ _ h => h) ⟨by rfl, ?_⟩ hS ?_
      rotate_left
      · intro wq hSw; obtain ⟨x0, x1⟩ := hSw; go_simp; try rfl
      simp only [Act.put, List.setIfInBounds_toArray, List.set_cons_zero, List.set_cons_succ]
      refine take_at 1 (some 53) (v := ?_) rfl rfl (by kernel_rfl) (by kernel_rfl) (by kernel_rfl) (fun _ _ _ h => h) ⟨by rfl, ?_⟩ hS ?_
      rotate_left
      · intro wq hSw; obtain ⟨x0, x1⟩ := hSw; go_simp; try rfl
      simp only [Act.put, List.setIfInBounds_toArray, List.set_cons_zero, List.set_cons_succ]
      refine take_at 2 (some 54) (v := ?_) rfl rfl (by kernel_rfl) (by kernel_rfl) (by kernel_rfl) (fun _ _ _ h => h) ⟨by rfl, ?_⟩ hS ?_
      rotate_left
      · intro wq hSw; obtain ⟨x0, x1⟩ := hSw; go_simp; try rfl
      simp only [Act.put, List.setIfInBounds_toArray, List.set_cons_zero, List.set_cons_succ]
      refine take_at 3 (some 55) (v := ?_) rfl rfl (by kernel_rfl) (by kernel_rfl) (by kernel_rfl) (fun _ _ _ h => h) ⟨by rfl, ?_⟩ hS ?_
      rotate_left
      · intro wq hSw; obtain ⟨x0, x1⟩ := hSw; go_simp; try rfl
      simp only [Act.put, List.setIfInBounds_toArray, List.set_cons_zero, List.set_cons_succ]
      refine take_at 4 (some 56) (v := ?_) rfl rfl (by kernel_rfl) (by kernel_rfl) (by kernel_rfl) (fun _ _ _ h => h) ⟨by rfl, ?_⟩ hS ?_
      rotate_left
      · intro wq hSw; obtain ⟨x0, x1⟩ := hSw; go_simp; try rfl
      simp only [Act.put, List.setIfInBounds_toArray, List.set_cons_zero, List.set_cons_succ]
      refine take_at 5 (some 57) (v := ?_) rfl rfl (by kernel_rfl) (by kernel_rfl) (by kernel_rfl) (fun _ _ _ h => h) ⟨by rfl, ?_⟩ hS ?_
      rotate_left
      · intro wq hSw; obtain ⟨x0, x1⟩ := hSw; go_simp; try rfl
      simp only [Act.put, List.setIfInBounds_toArray, List.set_cons_zero, List.set_cons_succ]
      refine take_at 6 (some 58) (v := ?_) rfl rfl (by kernel_rfl) (by kernel_rfl) (by kernel_rfl) (fun _ _ _ h => h) ⟨by rfl, ?_⟩ hS ?_
      rotate_left
      · intro wq hSw; obtain ⟨x0, x1⟩ := hSw; go_simp; try rfl
      simp only [Act.put, List.setIfInBounds_toArray, List.set_cons_zero, List.set_cons_succ]
      refine take_at 10 (some 62) (v := ?_) rfl rfl (by kernel_rfl) (by kernel_rfl) (by kernel_rfl) (fun _ _ _ h => h) ⟨by rfl, ?_⟩ hS ?_
      rotate_left
      · intro wq hSw; obtain ⟨x0, x1⟩ := hSw; go_simp; try rfl
      simp only [Act.put, List.setIfInBounds_toArray, List.set_cons_zero, List.set_cons_succ]
      refine take_at 11 (some 63) (v := ?_) rfl rfl (by kernel_rfl) (by kernel_rfl) (by kernel_rfl) (fun _ _ _ h => h) ⟨by rfl, ?_⟩ hS ?_
      rotate_left
      · intro wq hSw; obtain ⟨x0, x1⟩ := hSw; go_simp; try rfl
      simp only [Act.put, List.setIfInBounds_toArray, List.set_cons_zero, List.set_cons_succ]
      refine take_at 12 (some 64) (v := ?_) rfl rfl (by kernel_rfl) (by kernel_rfl) (by kernel_rfl) (fun _ _ _ h => h) ⟨by rfl, ?_⟩ hS ?_
      rotate_left
      · intro wq hSw; obtain ⟨x0, x1⟩ := hSw; go_simp; try rfl
      simp only [Act.put, List.setIfInBounds_toArray, List.set_cons_zero, List.set_cons_succ]
      refine take_at 13 (some 65) (v := ?_) rfl rfl (by kernel_rfl) (by kernel_rfl) (by kernel_rfl) (fun _ _ _ h => h) ⟨by rfl, ?_⟩ hS ?_
      rotate_left
      · intro wq hSw; obtain ⟨x0, x1⟩ := hSw; go_simp; try rfl
      simp only [Act.put, List.setIfInBounds_toArray, List.set_cons_zero, List.set_cons_succ]
      refine take_at 14 (some 66) (v := ?_) rfl rfl (by kernel_rfl) (by kernel_rfl) (by kernel_rfl) (fun _ _ _ h => h) ⟨by rfl, ?_⟩ hS ?_
      rotate_left
      · intro wq hSw; obtain ⟨x0, x1⟩ := hSw; go_simp; try rfl
      simp only [Act.put, List.setIfInBounds_toArray, List.set_cons_zero, List.set_cons_succ]
      refine take_at 15 (some 67) (v := ?_) rfl rfl (by kernel_rfl) (by kernel_rfl) (by kernel_rfl) (fun _ _ _ h => h) ⟨by rfl, ?_⟩ hS ?_
      rotate_left
      · intro wq hSw; obtain ⟨x0, x1⟩ := hSw; go_simp; try rfl
      simp only [Act.put, List.setIfInBounds_toArray, List.set_cons_zero, List.set_cons_succ]
      refine wpAnyH_ready (rs := [7]) (by kernel_rfl) (by simp) ?_
      refine AllReadyH.cons rfl (fun K hK => ?_) AllReadyH.nil
      go_simp
      go_wp2_with fail
      have BR := brought_any pi (1 + x) wr.drew (by omega) (by omega)
      rw [show ((1 + x : Nat) : Int) = 1 + (x : Int) by omega] at BR
      refine BR.mono ?_
      rintro e w' ⟨rfl, hw⟩
      subst hw
      clear BR
      go_wp2_with fail
      refine hK.out _ _ hS (fun _ => ?_)
      clear hK K
      generalize hse : bring pi (1 + x) = s at *
      obtain ⟨u, hu⟩ : ∃ u, u = 512 * s := ⟨_, rfl⟩
      have hs0 : u + 512 ≤ mm := by have := HMM.out; omega
      have ews : IntKind.i64.wrap ((s : Int) * 512) = (u : Int) := by rw [IntKind.wrap_i64]; omega
      have HU5 := hide hu
      clear hu
      have hs1 : (u : Int) ≤ (mm : Int) := by omega
      have hs2 : ¬ mm = u := by omega
      refine take_at 8 (some 60) (v := ?_) rfl rfl (by kernel_rfl) (by kernel_rfl) (by kernel_rfl) (fun _ _ _ h => h) ⟨by rfl, ?_⟩ hS ?_
      rotate_left
      · intro wq hSw; obtain ⟨x0, x1⟩ := hSw; go_simp; try rfl
      simp only [Act.put, List.setIfInBounds_toArray, List.set_cons_zero, List.set_cons_succ]
      refine take_at 9 (some 61) (v := ?_) rfl rfl (by kernel_rfl) (by kernel_rfl) (by kernel_rfl) (fun _ _ _ h => h) ⟨by rfl, ?_⟩ hS ?_
      rotate_left
      · intro wq hSw; obtain ⟨x0, x1⟩ := hSw; go_simp; try rfl
      simp only [Act.put, List.setIfInBounds_toArray, List.set_cons_zero, List.set_cons_succ]
      refine wpAnyH_ready (rs := [16]) (by kernel_rfl) (by simp) ?_
      refine AllReadyH.cons rfl (fun K hK => ?_) AllReadyH.nil
      go_simp
      go_wp2_with fail
      have FL := filled_any 0 false 0 pf 0 none 0 0 0 0 wr.drew
      unfold opC at FL
      rw [fillLen0] at FL
      refine FL.mono ?_
      rintro e w2 ⟨gb, rfl, o2, b2⟩
      have O2 := hide (Owns.seen_at o2)
      have L2 := hide (L5.out.below (below_undrew b2))
      have A2 := hide (A5.out.below (below_undrew b2))
      have W2 := hide (Owns.below W5.out (below_undrew b2))
      have sz2 : wr.heap.size ≤ w2.heap.size := b2.size
      clear FL
      go_wp2_with fail
      have hS2 := (⟨(b2.cell (p := ⟨b, off + j * 2, none⟩) hbw).trans hS.1, (b2.cell (p := ⟨b, off + j * 2 + 1, none⟩) hbw).trans hS.2⟩ : w2.cell? ⟨b, off + j * 2, none⟩ = some (.int .i64 pi) ∧ w2.cell? ⟨b, off + j * 2 + 1, none⟩ = some (.int .u8 (pf : Int)))
      refine hK.out _ _ hS2 (fun _ => ?_)
      clear hK K
      clear hS o2 b2
      have hS := hS2
      clear hS2
      refine wpAnyH_ready (rs := [17]) (by kernel_rfl) (by simp) ?_
      refine AllReadyH.cons rfl (fun K hK => ?_) AllReadyH.nil
      refine wp_copy (k := .u8) rfl (.tmp 61) (.tmp 68) 37 37 5 rfl Try.underlying37 (by kernel_rfl) 0 gw mm mm u (mm - u) (mm - u) (ints wt) W2.out ⟨gb, 0, none⟩ 512 512 (ints (filledB pf 512)) rfl rfl O2.out (by rw [ints_length, filledB_length]; show 512 = min 512 (mm - u); omega) (by rw [ints_length, filledB_length]; omega) ?_
      intro w3 o3 k3
      have hsp := hide (splice_ints wt u (filledB pf 512))
      have L3 := hide (show Live w.heap.size w w3 S5 d g0 from ⟨L2.out.dev.keep k3 (fun b hb => by rw [hb]; exact hgwS), L2.out.far, L2.out.bel.trans (k3.below (Nat.le_trans L2.out.le L2.out.bel.size) (fun j hj q => by omega)), L2.out.le⟩)
      have A3 := hide (show Aside w3 (fun b => S5 b ∨ False) w.heap.size [.slice la l.keep.length lc, .int .i64 l.torn, .int .i64 l.off] from ⟨fun i v hv => (k3.cell (p := ⟨w.heap.size, i, none⟩) A2.out.lt (by show ¬ w.heap.size = gw; omega)).trans (A2.out.cell i v hv), A2.out.out, Nat.lt_of_lt_of_le A2.out.lt k3.size⟩)
      have W3 := hide (show OwnB w3 0 (.slice (some ⟨gw, 0, none⟩) (mm) (mm)) (lay wt s (filledB pf 512) 512) by unfold lay OwnB; rw [← HU5.out, List.take_of_length_le (by rw [filledB_length]; exact Nat.le_refl _), hsp.out]; exact o3)
      refine hK.out _ _ ⟨(k3.cell (p := ⟨b, off + j * 2, none⟩) (Nat.lt_of_lt_of_le hbw sz2) (by show ¬ b = gw; omega)).trans hS.1, (k3.cell (p := ⟨b, off + j * 2 + 1, none⟩) (Nat.lt_of_lt_of_le hbw sz2) (by show ¬ b = gw; omega)).trans hS.2⟩ (fun _ => ?_)
      clear hK K
      refine wpAnyH_done (by kernel_rfl) ?_ _
      clear hS o3 k3
      go_wp2_with fail
      go_roundw
      case rel => exact ⟨j + 1, by omega, by go_num, by rw [HSTEP.out]; exact W3.out, by rw [← HG0.out]; exact L3.out, A3.out⟩
      case measure => simp [intOf]; omega
    · obtain rfl : j = qs.length := by omega
      rw [List.take_length] at W5
      have hwo := wantOf_ok (1 + x) qs (by omega)
      obtain ⟨wt, hwt⟩ : ∃ wt, wt = wantOf (1 + x) qs := ⟨_, rfl⟩
      rw [← hwt] at W5 hwo
      have HWT := hide hwt
      have hwl : wt.length = mm := by rw [hwo.1]; exact HMM.out.symm
      have gq := L5.out.dev.lt
      have P5 := hide (show Apart wr S gw wt from ⟨Owns.seen_at W5.out, hgwS, (World.ownsRow.lt W5.out gw rfl).2⟩)
      have low1 : qs ≠ [] → ∀ ad, a1 = some ad → ad.block < w.heap.size := fun hne ad had => by
        obtain ⟨b, off, e, hb, _⟩ := HQ.out 0 (by cases qs with | nil => exact (hne rfl).elim | cons _ _ => simp)
        rw [had] at e; cases e; exact hb
      have low2 : us ≠ [] → ∀ ad, a2 = some ad → ad.block < w.heap.size := fun hne ad had => by
        obtain ⟨b, off, e, hb, _⟩ := HU.out 0 (by cases us with | nil => exact (hne rfl).elim | cons _ _ => simp)
        rw [had] at e; cases e; exact hb
      clear hwt W5
      go_wp2_with fail
      have WR := wrote_any L5.out.dev a1 c1 qs 120 (HQ.out.below L5.out.bel) (fun hne ad had q => by have := low1 hne ad had; have := L5.out.far _ q; omega) (by decide) rfl rfl (by simp [Dev.new]) (by simp [Dev.new]) (by unfold maxLen; omega)
      rw [List.take_of_length_le hq120] at WR
      refine WR.mono ?_
      rintro e w6 ⟨S6, rfl, D6, st6⟩
      have L6 := hide (L5.out.step D6 st6)
      have A6 := hide (A5.out.left st6)
      have P6 := hide (P5.out.step st6)
      have hpd : (wroteD (Dev.new (1 + x)) qs).pend = qs.map (entry (1 + x)) := by simp [wroteD, Dev.new, Dev.n]
      have HPD := hide hpd
      clear D6 st6 WR L5 A5 P5 hpd
      go_wp2_with fail
      refine (cache_any L6.out.dev (by rw [HPD.out]; simp; omega)).mono ?_
      rintro e w7 ⟨vs, rfl, v1, v2, v3, b7⟩
      have hvl : vs.length = qs.length := by have := congrArg List.length v1; rw [HPD.out] at this; simpa using this
      rw [hvl]
      have L7 := hide (L6.out.below b7)
      have A7 := hide (A6.out.below b7)
      have P7 := hide (P6.out.below b7)
      clear v1 v2 v3 b7 L6 A6 P6 hvl
      go_wp2_with fail
      have SY := sync_any L7.out.dev (by rw [HPD.out]; simp; omega) (by simp [wroteD, Dev.new]; omega)
      have es0 : (wroteD (Dev.new (1 + x)) qs).syncE = 0 := by simp [Dev.syncE, wroteD, Dev.new]
      rw [es0] at SY
      refine SY.mono ?_
      rintro e w8 ⟨rfl, D8, k8⟩
      obtain ⟨g1, hg1⟩ : ∃ g1, g1 = (wroteD (Dev.new (1 + x)) qs).sync := ⟨_, rfl⟩
      have eg1 : g1 = { Dev.new (1 + x) with img := wt, calls := qs.length + 1 } := by
        rw [hg1, HWT.out]
        unfold Dev.sync
        rw [if_neg (by simp [wroteD, Dev.new]), if_neg (by simp [wroteD, Dev.new])]
        simp [Dev.strike, Dev.settle, wroteD, Dev.new, Dev.n, wantOf, zeros]
      rw [← hg1] at D8
      have L8 := hide (L7.out.keep D8 k8)
      have A8 := hide (A7.out.left (Step.of_keep k8))
      have P8 := hide (P7.out.keep k8)
      have i1 : g1.img = wt := by rw [eg1]
      have n1 : g1.n = 1 + x := by rw [eg1]; unfold Dev.n; rw [hwl, HMM.out]; omega
      have p1' : g1.pend = [] := by rw [eg1]; rfl
      have d1 : g1.down = false := by rw [eg1]; rfl
      have l1 : g1.left = 0 := by rw [eg1]; rfl
      have k1' : g1.calls = qs.length + 1 := by rw [eg1]
      have HI1 := hide i1
      have HN1 := hide n1
      have HP1 := hide p1'
      clear D8 k8 SY L7 A7 P7 hg1 eg1 es0 i1 n1 p1'
      go_wp2_with fail
      refine (num_any _ _).mono ?_
      rintro e w' ⟨rfl, hw⟩
      obtain rfl : w8 = w' := hw.symm
      go_wp2_with fail
      refine (cache_any L8.out.dev (by rw [HP1.out]; simp)).mono ?_
      rintro e w9 ⟨vs, rfl, v1, v2, v3, b9⟩
      have hvl : vs.length = 0 := by have := congrArg List.length v1; rw [HP1.out] at this; simpa using this
      rw [hvl]
      have L9 := hide (L8.out.below b9)
      have A9 := hide (A8.out.below b9)
      have P9 := hide (P8.out.below b9)
      clear v1 v2 v3 b9 L8 A8 P8 hvl
      go_wp2_with fail
      have IM := image_any L9.out.dev
      rw [HI1.out] at IM
      refine IM.mono ?_
      rintro e w10 ⟨v, rfl, o10, b10⟩
      obtain ⟨ia, ic, rfl, is10, _, _, _⟩ := o10.seen
      rw [ints_length, hwl]
      have IS10 := hide is10
      have L10 := hide (L9.out.below b10)
      have A10 := hide (A9.out.below b10)
      have P10 := hide (P9.out.below b10)
      clear o10 b10 is10 L9 A9 P9 IM
      go_wp2_with fail
      have SA := same_any ia (some ⟨gw, 0, none⟩) wt wt ic mm w10 IS10.out P10.out.bytes hwo.2 hwo.2
      rw [decide_eq_true rfl, hwl] at SA
      refine SA.mono ?_
      rintro e w' ⟨rfl, hw⟩
      obtain rfl : w10 = w' := hw.symm
      clear SA IS10
      go_wp2_with fail
      have WR := wrote_any L10.out.dev a2 c2 us 120 (HU.out.below L10.out.bel) (fun hne ad had q => by have := low2 hne ad had; have := L10.out.far _ q; omega) (by decide) d1 l1 (by rw [HP1.out]; simp) (by omega) (by unfold maxLen; omega)
      rw [List.take_of_length_le hu120] at WR
      refine WR.mono ?_
      rintro e w11 ⟨S11, rfl, D11, st11⟩
      obtain ⟨g2, hg2⟩ : ∃ g2, g2 = wroteD g1 us := ⟨_, rfl⟩
      rw [← hg2] at D11
      have L11 := hide (L10.out.step D11 st11)
      have A11 := hide (A10.out.left st11)
      have P11 := hide (P10.out.step st11)
      have HI2 := hide (show g2.img = wt by rw [hg2]; exact HI1.out)
      have HP2 := hide (show g2.pend = us.map (entry (1 + x)) by rw [hg2]; simp [wroteD, HP1.out, HN1.out])
      have d2 : g2.down = false := by rw [hg2]; exact d1
      clear D11 st11 WR L10 A10 P10 hg2
      go_wp2_with fail
      have IM := image_any L11.out.dev
      rw [HI2.out] at IM
      refine IM.mono ?_
      rintro e w12 ⟨v, rfl, o12, b12⟩
      obtain ⟨ia, ic, rfl, is12, _, _, _⟩ := o12.seen
      rw [ints_length, hwl]
      have IS12 := hide is12
      have L12 := hide (L11.out.below b12)
      have A12 := hide (A11.out.below b12)
      have P12 := hide (P11.out.below b12)
      clear o12 b12 is12 L11 A11 P11 IM
      go_wp2_with fail
      have SA := same_any ia (some ⟨gw, 0, none⟩) wt wt ic mm w12 IS12.out P12.out.bytes hwo.2 hwo.2
      rw [decide_eq_true rfl, hwl] at SA
      refine SA.mono ?_
      rintro e w' ⟨rfl, hw⟩
      obtain rfl : w12 = w' := hw.symm
      clear SA IS12
      have q0 := A12.out.cell 0 _ rfl
      have q1 := A12.out.cell 1 _ rfl
      have q2 := A12.out.cell 2 _ rfl
      go_wp2_with fail
      have CR := crash_any L12.out.dev l la lc (HL.out.below L12.out.bel) (fun hk ad had q => by have := L12.out.far _ q; have := HL.out.low hk ad had; omega) (by rw [HP2.out]; simp; omega)
      have ec0 : g2.crashE = 0 := by unfold Dev.crashE; rw [if_neg (by rw [d2]; decide)]
      rw [ec0] at CR
      refine CR.mono ?_
      rintro e w13 ⟨rfl, D13, k13⟩
      obtain ⟨got, hgot⟩ : ∃ got, got = fallFrom l 0 (us.map (entry (1 + x))) wt := ⟨_, rfl⟩
      have HI3 := hide (show (g2.crash l).img = got by rw [hgot, ← HP2.out, ← HI2.out]; unfold Dev.crash; rw [if_neg (by rw [d2]; decide)]; rfl)
      have HP3 := hide (show (g2.crash l).pend = [] by unfold Dev.crash; rw [if_neg (by rw [d2]; decide)]; rfl)
      have L13 := hide (L12.out.keep D13 k13)
      have A13 := hide (A12.out.left (Step.of_keep k13))
      have P13 := hide (P12.out.keep k13)
      have hefit : ∀ p ∈ us.map (entry (1 + x)), Fits mm p := fun p hp => by
        obtain ⟨q, _, rfl⟩ := List.mem_map.1 hp
        rw [HMM.out]
        exact entry_fits (1 + x) q (by omega)
      have hgo := fallFrom_ok l (us.map (entry (1 + x))) 0 wt hefit hwl hwo.2
      rw [← hgot] at hgo
      have HGOT := hide hgot
      have HEF := hide hefit
      clear D13 k13 CR L12 A12 P12 q0 q1 q2 ec0 hgot hefit
      go_wp2_with fail
      refine (num_any _ _).mono ?_
      rintro e w' ⟨rfl, hw⟩
      obtain rfl : w13 = w' := hw.symm
      go_wp2_with fail
      have IM := image_any L13.out.dev
      rw [HI3.out] at IM
      refine IM.mono ?_
      rintro e w14 ⟨v, rfl, o14, b14⟩
      obtain ⟨gg, gc, hv14, hgc, _, hggl⟩ := o14.form (by rw [ints_length, hgo.1]; omega)
      rw [ints_length, hgo.1] at hv14
      subst hv14
      have IS14 := hide (Owns.seen_at o14)
      have L14 := hide (L13.out.below b14)
      have A14 := hide (A13.out.below b14)
      have P14 := hide (P13.out.below b14)
      clear o14 b14 L13 A13 P13 IM
      go_wp2_with fail
      refine (cache_any L14.out.dev (by rw [HP3.out]; simp)).mono ?_
      rintro e w15 ⟨vs, rfl, v1, v2, v3, b15⟩
      have hvl : vs.length = 0 := by have := congrArg List.length v1; rw [HP3.out] at this; simpa using this
      rw [hvl]
      have BL := hide (bnext L14.out.bel b15 (Nat.le_refl _))
      have A15 := hide (A14.out.below b15)
      have WT := hide (Seen.below P14.out.bytes b15)
      have GT := hide (Seen.below IS14.out b15)
      have PU := hide (HU.out.below BL.out)
      have LO := hide (HL.out.below BL.out)
      clear v1 v2 v3 b15 L14 A14 P14 IS14 hvl
      go_wp2_with fail
      go_loopw [15] (fun s wy => ∃ i : Nat, i ≤ mm ∧ s = .int .i64 (i : Int) ∧ Below w15.heap.size w15 wy) (fun s _ => mm - (intOf s).toNat)
      case atStart => exact ⟨0, Nat.zero_le _, rfl, Below.refl _ _⟩
      case round =>
        obtain ⟨i, hi, rfl, hby⟩ := hrel
        by_cases hlt : i < mm
        · have hlt' : (i : Int) < (mm : Int) := by omega
          obtain ⟨_, _, eg, hgl0, yg⟩ := Bytes.at (Seen.below GT.out hby) (i := i) (by rw [hgo.1]; exact hlt)
          cases eg
          obtain ⟨_, _, ew, hwl0, yw⟩ := Bytes.at (Seen.below WT.out hby) (i := i) (by rw [hwl]; exact hlt)
          cases ew
          rw [Nat.zero_add] at yg yw
          have X1 := hide (fall_byte (l := l) HEF.out hwl hwo.2 i (us.map (entry (1 + x))).length (Nat.le_refl _))
          have X2 := hide (fun j h1 h2 => fall_last (l := l) HEF.out hwl hwo.2 i (us.map (entry (1 + x))).length (Nat.le_refl _) j h1 h2)
          rw [List.take_length, ← HGOT.out] at X1
          obtain ⟨gotb, hgb⟩ : ∃ gotb, gotb = got.getD i 0 := ⟨_, rfl⟩
          obtain ⟨wtb, hwb⟩ : ∃ wtb, wtb = wt.getD i 0 := ⟨_, rfl⟩
          rw [← hgb] at yg
          rw [← hwb] at yw
          rw [← hgb, ← hwb] at X1
          have HGB := hide hgb
          clear hgb hwb
          go_upto_region 22 with fail
          go_quiet (fail)
          go_wp2_with fail
          have eb0 : ((gotb : Int) == (wtb : Int)) = mayTo (us.map (entry (1 + x))) i gotb wtb 0 := by
            unfold mayTo
            by_cases q : gotb = wtb
            · rw [decide_eq_true q, q]; simp
            · rw [decide_eq_false q, beq_eq_false_iff_ne]; omega
          rw [eb0]
          clear yg yw eb0 hgl0 hwl0
          go_loopw [16, 17, 18] (fun m la k wz => ∃ kk : Nat, kk ≤ us.length ∧ k = .int .i64 (kk : Int) ∧ m = .bool (mayTo (us.map (entry (1 + x))) i gotb wtb kk) ∧ la = .int .i64 (lastTo (us.map (entry (1 + x))) i kk) ∧ Below w15.heap.size w15 wz) (fun _ _ k _ => us.length - (intOf k).toNat)
          case atStart => exact ⟨0, Nat.zero_le _, rfl, rfl, by rw [lastTo], below_drewN hby _⟩
          case round =>
            obtain ⟨kk, hkk, rfl, rfl, rfl, bx⟩ := hrel
            by_cases hku : kk < us.length
            · have hku' : (kk : Int) < (us.length : Int) := by omega
              obtain ⟨pb, poff, rfl, hpbl, p0, p1⟩ := (PU.out.below bx) kk hku
              obtain ⟨_, _, eg, hgl, yg⟩ := Bytes.at (Seen.below GT.out bx) (i := i) (by rw [hgo.1]; exact hlt)
              cases eg
              rw [Nat.zero_add, ← HGB.out] at yg
              have M1 := mayTo_entry us (1 + x) i gotb wtb kk hku
              have M2 := lastTo_entry us (1 + x) i kk hku
              have HM1 := hide M1
              have HM2 := hide M2
              have BR := fun X => brought_any us[kk].1 (1 + x) X (by omega) (by omega)
              rw [show ((1 + x : Nat) : Int) = 1 + (x : Int) by omega] at BR
              have HBR := hide BR
              clear BR M1 M2
              generalize us[kk].1 = pi at *
              generalize us[kk].2 = pf at *
              generalize bring pi (1 + x) = sc at *
              generalize mayTo (us.map (entry (1 + x))) i gotb wtb kk = mb at *
              generalize lastTo (us.map (entry (1 + x))) i kk = lb at *
              go_wp2_with fail
              refine (HBR.out _).mono ?_
              rintro e w' ⟨rfl, hw⟩
              subst hw
              by_cases hsc : sc = i / 512
              · rw [if_pos hsc] at HM1 HM2
                have hs1 : ((sc : Int) == (i : Int) / 512) = true := by rw [beq_iff_eq, hsc]; omega
                clear hsc
                cases mb with
                | true =>
                  go_upto_region 28 with fail
                  go_quiet (fail)
                  go_wp2_with fail
                  go_roundw
                  case rel => first | exact ⟨kk + 1, by omega, by go_num, by rw [HM1.out]; rfl, by rw [HM2.out], below_drewN bx _⟩ | ((repeat apply Exists.intro); exact ⟨⟨kk + 1, by omega, by go_num, by rw [HM1.out]; rfl, by rw [HM2.out], below_drewN bx _⟩, rfl⟩)
                  case measure => simp [intOf]; omega
                | false =>
                  have ebv : ((gotb : Int) == ((pf : Int) + (i : Int) % 512 / 200) % 256) = (false || decide (gotb = (pf + i % 512 / 200) % 256)) := by
                    by_cases q : gotb = (pf + i % 512 / 200) % 256
                    · rw [decide_eq_true q, q]; simp
                    · rw [decide_eq_false q, Bool.or_false, beq_eq_false_iff_ne]; exact fun h => q (by omega)
                  have HEB := hide ebv
                  clear ebv
                  go_upto_region 28 with fail
                  go_quiet (fail)
                  go_wp2_with fail
                  go_roundw
                  case rel => first | exact ⟨kk + 1, by omega, by go_num, by rw [HM1.out, ← HEB.out], by rw [HM2.out], below_drewN bx _⟩ | ((repeat apply Exists.intro); exact ⟨⟨kk + 1, by omega, by go_num, by rw [HM1.out, ← HEB.out], by rw [HM2.out], below_drewN bx _⟩, rfl⟩)
                  case measure => simp [intOf]; omega
              · rw [if_neg hsc] at HM1 HM2
                have hs1 : ((sc : Int) == (i : Int) / 512) = false := by rw [beq_eq_false_iff_ne]; exact fun h => hsc (by omega)
                clear hsc
                go_wp2_with fail
                go_roundw
                case rel => first | exact ⟨kk + 1, by omega, by go_num, by rw [HM1.out], by rw [HM2.out], bx⟩ | ((repeat apply Exists.intro); exact ⟨⟨kk + 1, by omega, by go_num, by rw [HM1.out], by rw [HM2.out], bx⟩, rfl⟩)
                case measure => simp [intOf]; omega
            · obtain rfl : kk = us.length := by omega
              have hmt : mayTo (us.map (entry (1 + x))) i gotb wtb us.length = true := by
                have q := mayTo_of X1.out
                rw [List.length_map] at q
                exact q
              rw [hmt]
              have hll := lastTo_lt (us.map (entry (1 + x))) i us.length
              obtain ⟨lt, hlt0⟩ : ∃ lt, lt = lastTo (us.map (entry (1 + x))) i us.length := ⟨_, rfl⟩
              rw [← hlt0] at hll ⊢
              have HLT := hide hlt0
              clear hlt0 hmt
              by_cases hneg : lt < 0
              · obtain rfl : lt = -1 := by omega
                go_upto_region 30 with fail
                go_quiet (fail)
                go_wp2_with fail
                go_roundw
                case rel => first | exact ⟨i + 1, by omega, by go_num, below_drewN bx _⟩ | ((repeat apply Exists.intro); exact ⟨⟨i + 1, by omega, by go_num, below_drewN bx _⟩, rfl⟩)
                case measure => simp [intOf]; omega
              · obtain ⟨jl, hjl⟩ : ∃ jl : Nat, lt = (jl : Int) := ⟨lt.toNat, by omega⟩
                subst hjl
                have hjlu : jl < us.length := by omega
                have hjlu' : (jl : Int) < (us.length : Int) := by omega
                have hnn : (0 : Int) ≤ (jl : Int) := by omega
                obtain ⟨pb, poff, rfl, hpbl, _, yp⟩ := (PU.out.below bx) jl hjlu
                obtain ⟨_, _, eg, hgl, yg⟩ := Bytes.at (Seen.below GT.out bx) (i := i) (by rw [hgo.1]; exact hlt)
                cases eg
                rw [Nat.zero_add, ← HGB.out] at yg
                have y0 := (A15.out.below bx).cell 0 _ rfl
                have y1 := (A15.out.below bx).cell 1 _ rfl
                have y2 := (A15.out.below bx).cell 2 _ rfl
                have hlb := (A15.out.below bx).lt
                have HLx := hide (show LossAt wr.drew l la lc from LO.out.below bx.drew)
                have ER512 := hide (rem512 i)
                have hr5 : i % 512 < 512 := Nat.mod_lt _ (by decide)
                have EQ2 := hide (quo200 (i % 512))
                have KX := hide (fun hk => X2.out jl (by rw [List.length_map]; exact HLT.out.symm) hk)
                rw [List.take_length, ← HGOT.out, ← HGB.out] at KX
                have KY := hide (show keptN l.keep jl = true → gotb = (us[jl].2 + i % 512 / 200) % 256 from fun hk => by
                  obtain ⟨hh, e⟩ := KX.out hk
                  rw [e]
                  exact entry_get us (1 + x) jl hjlu hh (i % 512) hr5)
                clear KX
                generalize us[jl].2 = pf at *
                generalize hr : i % 512 = r at *
                generalize hz : r / 200 = z at *
                have hzb : z ≤ 2 := by rw [← hz]; exact div200_le _ hr5
                obtain ⟨ewz, ez1, ez2⟩ := small_u8 z hzb
                obtain ⟨ey1, ey2⟩ := add_u8 pf z
                obtain ⟨yv, hyv⟩ : ∃ yv, yv = (pf + z) % 256 := ⟨_, rfl⟩
                rw [← hyv] at KY ey1 ey2
                have HHR := hide hr
                have HHZ := hide hz
                clear hr hz hyv
                have er512 := ER512.out
                have eq2 := EQ2.out
                cases hkp : keptN l.keep jl with
                | true =>
                  have hgy := KY.out hkp
                  have hne : ((gotb : Int) != (yv : Int)) = false := by rw [hgy]; simp
                  have HGY := hide hgy
                  clear hgy
                  go_upto_region 30 with fail
                  refine wp_region_held_drew (S := fun X => X.cell? ⟨w.heap.size, 0, none⟩ = some (.slice la l.keep.length lc) ∧ X.cell? ⟨w.heap.size, 1, none⟩ = some (.int .i64 l.torn) ∧ X.cell? ⟨w.heap.size, 2, none⟩ = some (.int .i64 l.off) ∧ X.cell? ⟨gg, i, none⟩ = some (.int .u8 ((gotb : Nat) : Int)) ∧ X.cell? ⟨pb, poff + jl * 2 + 1, none⟩ = some (.int .u8 (pf : Int))) (by kernel_rfl) ⟨y0, y1, y2, yg, yp⟩ (fun hS => ?_)
                  refine take_at 0 (some 182) (v := ?_) rfl rfl (by kernel_rfl) (by kernel_rfl) (by kernel_rfl) (fun _ _ _ h => h) ⟨by rfl, ?_⟩ hS ?_
                  rotate_left
                  · intro wq hSw; obtain ⟨x0, x1, x2, x3, x4⟩ := hSw; go_simp; try rfl
                  simp only [Act.put, List.setIfInBounds_toArray, List.set_cons_zero, List.set_cons_succ]
                  refine take_at 1 (some 183) (v := ?_) rfl rfl (by kernel_rfl) (by kernel_rfl) (by kernel_rfl) (fun _ _ _ h => h) ⟨by rfl, ?_⟩ hS ?_
                  rotate_left
                  · intro wq hSw; obtain ⟨x0, x1, x2, x3, x4⟩ := hSw; go_simp; try rfl
                  simp only [Act.put, List.setIfInBounds_toArray, List.set_cons_zero, List.set_cons_succ]
                  refine take_at 2 (some 184) (v := ?_) rfl rfl (by kernel_rfl) (by kernel_rfl) (by kernel_rfl) (fun _ _ _ h => h) ⟨by rfl, ?_⟩ hS ?_
                  rotate_left
                  · intro wq hSw; obtain ⟨x0, x1, x2, x3, x4⟩ := hSw; go_simp; try rfl
                  simp only [Act.put, List.setIfInBounds_toArray, List.set_cons_zero, List.set_cons_succ]
                  refine take_at 3 (some 185) (v := ?_) rfl rfl (by kernel_rfl) (by kernel_rfl) (by kernel_rfl) (fun _ _ _ h => h) ⟨by rfl, ?_⟩ hS ?_
                  rotate_left
                  · intro wq hSw; obtain ⟨x0, x1, x2, x3, x4⟩ := hSw; go_simp; try rfl
                  simp only [Act.put, List.setIfInBounds_toArray, List.set_cons_zero, List.set_cons_succ]
                  refine take_at 4 (some 186) (v := ?_) rfl rfl (by kernel_rfl) (by kernel_rfl) (by kernel_rfl) (fun _ _ _ h => h) ⟨by rfl, ?_⟩ hS ?_
                  rotate_left
                  · intro wq hSw; obtain ⟨x0, x1, x2, x3, x4⟩ := hSw; go_simp; try rfl
                  simp only [Act.put, List.setIfInBounds_toArray, List.set_cons_zero, List.set_cons_succ]
                  refine wpAnyH_ready (rs := [5]) (by kernel_rfl) (by simp) ?_
                  refine AllReadyH.cons rfl (fun K hK => ?_) AllReadyH.nil
                  go_simp
                  go_wp2_with fail
                  refine (kept_any la l.keep lc jl l.torn l.off wr.drew (by exact HLx.out.seen) (by clear er512 eq2 ey1 ey2 ez1 ez2 ewz; omega) HL.out.ok.keep).mono ?_
                  rintro e w2 ⟨rfl, b2⟩
                  rw [hkp]
                  go_wp2_with fail
                  have hS2 := (⟨(b2.cell (p := ⟨w.heap.size, 0, none⟩) hlb).trans hS.1, (b2.cell (p := ⟨w.heap.size, 1, none⟩) hlb).trans hS.2.1, (b2.cell (p := ⟨w.heap.size, 2, none⟩) hlb).trans hS.2.2.1, (b2.cell (p := ⟨gg, i, none⟩) hgl).trans hS.2.2.2.1, (b2.cell (p := ⟨pb, poff + jl * 2 + 1, none⟩) hpbl).trans hS.2.2.2.2⟩ : (fun X => X.cell? ⟨w.heap.size, 0, none⟩ = some (.slice la l.keep.length lc) ∧ X.cell? ⟨w.heap.size, 1, none⟩ = some (.int .i64 l.torn) ∧ X.cell? ⟨w.heap.size, 2, none⟩ = some (.int .i64 l.off) ∧ X.cell? ⟨gg, i, none⟩ = some (.int .u8 ((gotb : Nat) : Int)) ∧ X.cell? ⟨pb, poff + jl * 2 + 1, none⟩ = some (.int .u8 (pf : Int))) w2)
                  refine hK.out _ _ hS2 (fun _ => ?_)
                  clear hK K
                  have BX := hide (bx.trans ((below_undrew b2).mono bx.size))
                  clear hS b2
                  have hS := hS2
                  clear hS2
                  refine take_at 6 (some 188) (v := ?_) rfl rfl (by kernel_rfl) (by kernel_rfl) (by kernel_rfl) (fun _ _ _ h => h) ⟨by rfl, ?_⟩ hS ?_
                  rotate_left
                  · intro wq hSw; obtain ⟨x0, x1, x2, x3, x4⟩ := hSw; go_simp; try rfl
                  simp only [Act.put, List.setIfInBounds_toArray, List.set_cons_zero, List.set_cons_succ]
                  refine take_at 7 (some 189) (v := ?_) rfl rfl (by kernel_rfl) (by kernel_rfl) (by kernel_rfl) (fun _ _ _ h => h) ⟨by rfl, ?_⟩ hS ?_
                  rotate_left
                  · intro wq hSw; obtain ⟨x0, x1, x2, x3, x4⟩ := hSw; go_simp; try rfl
                  simp only [Act.put, List.setIfInBounds_toArray, List.set_cons_zero, List.set_cons_succ]
                  refine take_at 8 (some 190) (v := ?_) rfl rfl (by kernel_rfl) (by kernel_rfl) (by kernel_rfl) (fun _ _ _ h => h) ⟨by rfl, ?_⟩ hS ?_
                  rotate_left
                  · intro wq hSw; obtain ⟨x0, x1, x2, x3, x4⟩ := hSw; go_simp; try rfl
                  simp only [Act.put, List.setIfInBounds_toArray, List.set_cons_zero, List.set_cons_succ]
                  refine take_at 9 (some 191) (v := ?_) rfl rfl (by kernel_rfl) (by kernel_rfl) (by kernel_rfl) (fun _ _ _ h => h) ⟨by rfl, ?_⟩ hS ?_
                  rotate_left
                  · intro wq hSw; obtain ⟨x0, x1, x2, x3, x4⟩ := hSw; go_simp; try rfl
                  simp only [Act.put, List.setIfInBounds_toArray, List.set_cons_zero, List.set_cons_succ]
                  refine take_at 10 (some 192) (v := ?_) rfl rfl (by kernel_rfl) (by kernel_rfl) (by kernel_rfl) (fun _ _ _ h => h) ⟨by rfl, ?_⟩ hS ?_
                  rotate_left
                  · intro wq hSw; obtain ⟨x0, x1, x2, x3, x4⟩ := hSw; go_simp; try rfl
                  simp only [Act.put, List.setIfInBounds_toArray, List.set_cons_zero, List.set_cons_succ]
                  refine take_at 11 (some 193) (v := ?_) rfl rfl (by kernel_rfl) (by kernel_rfl) (by kernel_rfl) (fun _ _ _ h => h) ⟨by rfl, ?_⟩ hS ?_
                  rotate_left
                  · intro wq hSw; obtain ⟨x0, x1, x2, x3, x4⟩ := hSw; go_simp; try rfl
                  simp only [Act.put, List.setIfInBounds_toArray, List.set_cons_zero, List.set_cons_succ]
                  refine take_at 12 (some 194) (v := ?_) rfl rfl (by kernel_rfl) (by kernel_rfl) (by kernel_rfl) (fun _ _ _ h => h) ⟨by rfl, ?_⟩ hS ?_
                  rotate_left
                  · intro wq hSw; obtain ⟨x0, x1, x2, x3, x4⟩ := hSw; go_simp; try rfl
                  simp only [Act.put, List.setIfInBounds_toArray, List.set_cons_zero, List.set_cons_succ]
                  refine take_at 13 (some 195) (v := ?_) rfl rfl (by kernel_rfl) (by kernel_rfl) (by kernel_rfl) (fun _ _ _ h => h) ⟨by rfl, ?_⟩ hS ?_
                  rotate_left
                  · intro wq hSw; obtain ⟨x0, x1, x2, x3, x4⟩ := hSw; go_simp; try rfl
                  simp only [Act.put, List.setIfInBounds_toArray, List.set_cons_zero, List.set_cons_succ]
                  refine take_at 14 (some 196) (v := ?_) rfl rfl (by kernel_rfl) (by kernel_rfl) (by kernel_rfl) (fun _ _ _ h => h) ⟨by rfl, ?_⟩ hS ?_
                  rotate_left
                  · intro wq hSw; obtain ⟨x0, x1, x2, x3, x4⟩ := hSw; go_simp; try rfl
                  simp only [Act.put, List.setIfInBounds_toArray, List.set_cons_zero, List.set_cons_succ]
                  refine take_at 15 (some 197) (v := ?_) rfl rfl (by kernel_rfl) (by kernel_rfl) (by kernel_rfl) (fun _ _ _ h => h) ⟨by rfl, ?_⟩ hS ?_
                  rotate_left
                  · intro wq hSw; obtain ⟨x0, x1, x2, x3, x4⟩ := hSw; go_simp; try rfl
                  simp only [Act.put, List.setIfInBounds_toArray, List.set_cons_zero, List.set_cons_succ]
                  refine take_at 16 (some 198) (v := ?_) rfl rfl (by kernel_rfl) (by kernel_rfl) (by kernel_rfl) (fun _ _ _ h => h) ⟨by rfl, ?_⟩ hS ?_
                  rotate_left
                  · intro wq hSw; obtain ⟨x0, x1, x2, x3, x4⟩ := hSw; go_simp; try rfl
                  simp only [Act.put, List.setIfInBounds_toArray, List.set_cons_zero, List.set_cons_succ]
                  refine take_at 17 (some 199) (v := ?_) rfl rfl (by kernel_rfl) (by kernel_rfl) (by kernel_rfl) (fun _ _ _ h => h) ⟨by rfl, ?_⟩ hS ?_
                  rotate_left
                  · intro wq hSw; obtain ⟨x0, x1, x2, x3, x4⟩ := hSw; go_simp; try rfl
                  simp only [Act.put, List.setIfInBounds_toArray, List.set_cons_zero, List.set_cons_succ]
                  refine take_at 18 (some 200) (v := ?_) rfl rfl (by kernel_rfl) (by kernel_rfl) (by kernel_rfl) (fun _ _ _ h => h) ⟨by rfl, ?_⟩ hS ?_
                  rotate_left
                  · intro wq hSw; obtain ⟨x0, x1, x2, x3, x4⟩ := hSw; go_simp; try rfl
                  simp only [Act.put, List.setIfInBounds_toArray, List.set_cons_zero, List.set_cons_succ]
                  refine take_at 19 (some 201) (v := ?_) rfl rfl (by kernel_rfl) (by kernel_rfl) (by kernel_rfl) (fun _ _ _ h => h) ⟨by rfl, ?_⟩ hS ?_
                  rotate_left
                  · intro wq hSw; obtain ⟨x0, x1, x2, x3, x4⟩ := hSw; go_simp; try rfl
                  simp only [Act.put, List.setIfInBounds_toArray, List.set_cons_zero, List.set_cons_succ]
                  refine take_at 20 (some 202) (v := ?_) rfl rfl (by kernel_rfl) (by kernel_rfl) (by kernel_rfl) (fun _ _ _ h => h) ⟨by rfl, ?_⟩ hS ?_
                  rotate_left
                  · intro wq hSw; obtain ⟨x0, x1, x2, x3, x4⟩ := hSw; go_simp; try rfl
                  simp only [Act.put, List.setIfInBounds_toArray, List.set_cons_zero, List.set_cons_succ]
                  refine take_at 21 (some 203) (v := ?_) rfl rfl (by kernel_rfl) (by kernel_rfl) (by kernel_rfl) (fun _ _ _ h => h) ⟨by rfl, ?_⟩ hS ?_
                  rotate_left
                  · intro wq hSw; obtain ⟨x0, x1, x2, x3, x4⟩ := hSw; go_simp; try rfl
                  simp only [Act.put, List.setIfInBounds_toArray, List.set_cons_zero, List.set_cons_succ]
                  refine take_at 22 (some 204) (v := ?_) rfl rfl (by kernel_rfl) (by kernel_rfl) (by kernel_rfl) (fun _ _ _ h => h) ⟨by rfl, ?_⟩ hS ?_
                  rotate_left
                  · intro wq hSw; obtain ⟨x0, x1, x2, x3, x4⟩ := hSw; go_simp; try rfl
                  simp only [Act.put, List.setIfInBounds_toArray, List.set_cons_zero, List.set_cons_succ]
                  refine take_at 23 (some 205) (v := ?_) rfl rfl (by kernel_rfl) (by kernel_rfl) (by kernel_rfl) (fun _ _ _ h => h) ⟨by rfl, ?_⟩ hS ?_
                  rotate_left
                  · intro wq hSw; obtain ⟨x0, x1, x2, x3, x4⟩ := hSw; go_simp; try rfl
                  simp only [Act.put, List.setIfInBounds_toArray, List.set_cons_zero, List.set_cons_succ]
                  refine wpAnyH_done (by kernel_rfl) ?_ _
                  clear hS y0 y1 y2 yg yp er512 eq2 ey1 ey2 ez1 ez2 ewz
                  go_wp2_with fail
                  go_roundw
                  case rel => first | exact ⟨i + 1, by omega, by go_num, BX.out⟩ | ((repeat apply Exists.intro); exact ⟨⟨i + 1, by omega, by go_num, BX.out⟩, rfl⟩)
                  case measure => simp [intOf]; omega
                | false =>
                  go_upto_region 30 with fail
                  refine wp_region_held_drew (S := fun X => X.cell? ⟨w.heap.size, 0, none⟩ = some (.slice la l.keep.length lc) ∧ X.cell? ⟨w.heap.size, 1, none⟩ = some (.int .i64 l.torn) ∧ X.cell? ⟨w.heap.size, 2, none⟩ = some (.int .i64 l.off) ∧ X.cell? ⟨gg, i, none⟩ = some (.int .u8 ((gotb : Nat) : Int)) ∧ X.cell? ⟨pb, poff + jl * 2 + 1, none⟩ = some (.int .u8 (pf : Int))) (by kernel_rfl) ⟨y0, y1, y2, yg, yp⟩ (fun hS => ?_)
                  refine take_at 0 (some 182) (v := ?_) rfl rfl (by kernel_rfl) (by kernel_rfl) (by kernel_rfl) (fun _ _ _ h => h) ⟨by rfl, ?_⟩ hS ?_
                  rotate_left
                  · intro wq hSw; obtain ⟨x0, x1, x2, x3, x4⟩ := hSw; go_simp; try rfl
                  simp only [Act.put, List.setIfInBounds_toArray, List.set_cons_zero, List.set_cons_succ]
                  refine take_at 1 (some 183) (v := ?_) rfl rfl (by kernel_rfl) (by kernel_rfl) (by kernel_rfl) (fun _ _ _ h => h) ⟨by rfl, ?_⟩ hS ?_
                  rotate_left
                  · intro wq hSw; obtain ⟨x0, x1, x2, x3, x4⟩ := hSw; go_simp; try rfl
                  simp only [Act.put, List.setIfInBounds_toArray, List.set_cons_zero, List.set_cons_succ]
                  refine take_at 2 (some 184) (v := ?_) rfl rfl (by kernel_rfl) (by kernel_rfl) (by kernel_rfl) (fun _ _ _ h => h) ⟨by rfl, ?_⟩ hS ?_
                  rotate_left
                  · intro wq hSw; obtain ⟨x0, x1, x2, x3, x4⟩ := hSw; go_simp; try rfl
                  simp only [Act.put, List.setIfInBounds_toArray, List.set_cons_zero, List.set_cons_succ]
                  refine take_at 3 (some 185) (v := ?_) rfl rfl (by kernel_rfl) (by kernel_rfl) (by kernel_rfl) (fun _ _ _ h => h) ⟨by rfl, ?_⟩ hS ?_
                  rotate_left
                  · intro wq hSw; obtain ⟨x0, x1, x2, x3, x4⟩ := hSw; go_simp; try rfl
                  simp only [Act.put, List.setIfInBounds_toArray, List.set_cons_zero, List.set_cons_succ]
                  refine take_at 4 (some 186) (v := ?_) rfl rfl (by kernel_rfl) (by kernel_rfl) (by kernel_rfl) (fun _ _ _ h => h) ⟨by rfl, ?_⟩ hS ?_
                  rotate_left
                  · intro wq hSw; obtain ⟨x0, x1, x2, x3, x4⟩ := hSw; go_simp; try rfl
                  simp only [Act.put, List.setIfInBounds_toArray, List.set_cons_zero, List.set_cons_succ]
                  refine wpAnyH_ready (rs := [5]) (by kernel_rfl) (by simp) ?_
                  refine AllReadyH.cons rfl (fun K hK => ?_) AllReadyH.nil
                  go_simp
                  go_wp2_with fail
                  refine (kept_any la l.keep lc jl l.torn l.off wr.drew (by exact HLx.out.seen) (by clear er512 eq2 ey1 ey2 ez1 ez2 ewz; omega) HL.out.ok.keep).mono ?_
                  rintro e w2 ⟨rfl, b2⟩
                  rw [hkp]
                  go_wp2_with fail
                  have hS2 := (⟨(b2.cell (p := ⟨w.heap.size, 0, none⟩) hlb).trans hS.1, (b2.cell (p := ⟨w.heap.size, 1, none⟩) hlb).trans hS.2.1, (b2.cell (p := ⟨w.heap.size, 2, none⟩) hlb).trans hS.2.2.1, (b2.cell (p := ⟨gg, i, none⟩) hgl).trans hS.2.2.2.1, (b2.cell (p := ⟨pb, poff + jl * 2 + 1, none⟩) hpbl).trans hS.2.2.2.2⟩ : (fun X => X.cell? ⟨w.heap.size, 0, none⟩ = some (.slice la l.keep.length lc) ∧ X.cell? ⟨w.heap.size, 1, none⟩ = some (.int .i64 l.torn) ∧ X.cell? ⟨w.heap.size, 2, none⟩ = some (.int .i64 l.off) ∧ X.cell? ⟨gg, i, none⟩ = some (.int .u8 ((gotb : Nat) : Int)) ∧ X.cell? ⟨pb, poff + jl * 2 + 1, none⟩ = some (.int .u8 (pf : Int))) w2)
                  refine hK.out _ _ hS2 (fun _ => ?_)
                  clear hK K
                  have BX := hide (bx.trans ((below_undrew b2).mono bx.size))
                  clear hS b2
                  have hS := hS2
                  clear hS2
                  refine take_at 6 (some 188) (v := ?_) rfl rfl (by kernel_rfl) (by kernel_rfl) (by kernel_rfl) (fun _ _ _ h => h) ⟨by rfl, ?_⟩ hS ?_
                  rotate_left
                  · intro wq hSw; obtain ⟨x0, x1, x2, x3, x4⟩ := hSw; go_simp; try rfl
                  simp only [Act.put, List.setIfInBounds_toArray, List.set_cons_zero, List.set_cons_succ]
                  refine take_at 7 (some 189) (v := ?_) rfl rfl (by kernel_rfl) (by kernel_rfl) (by kernel_rfl) (fun _ _ _ h => h) ⟨by rfl, ?_⟩ hS ?_
                  rotate_left
                  · intro wq hSw; obtain ⟨x0, x1, x2, x3, x4⟩ := hSw; go_simp; try rfl
                  simp only [Act.put, List.setIfInBounds_toArray, List.set_cons_zero, List.set_cons_succ]
                  refine pass_at 8 (some 190) rfl rfl (by kernel_rfl) (by kernel_rfl) (by kernel_rfl) (fun _ _ _ h => h) (by rfl) hS ?_
                  simp only [Act.put, List.setIfInBounds_toArray, List.set_cons_zero, List.set_cons_succ]
                  refine pass_at 9 (some 191) rfl rfl (by kernel_rfl) (by kernel_rfl) (by kernel_rfl) (fun _ _ _ h => h) (by rfl) hS ?_
                  simp only [Act.put, List.setIfInBounds_toArray, List.set_cons_zero, List.set_cons_succ]
                  refine pass_at 10 (some 192) rfl rfl (by kernel_rfl) (by kernel_rfl) (by kernel_rfl) (fun _ _ _ h => h) (by rfl) hS ?_
                  simp only [Act.put, List.setIfInBounds_toArray, List.set_cons_zero, List.set_cons_succ]
                  refine pass_at 11 (some 193) rfl rfl (by kernel_rfl) (by kernel_rfl) (by kernel_rfl) (fun _ _ _ h => h) (by rfl) hS ?_
                  simp only [Act.put, List.setIfInBounds_toArray, List.set_cons_zero, List.set_cons_succ]
                  refine pass_at 12 (some 194) rfl rfl (by kernel_rfl) (by kernel_rfl) (by kernel_rfl) (fun _ _ _ h => h) (by rfl) hS ?_
                  simp only [Act.put, List.setIfInBounds_toArray, List.set_cons_zero, List.set_cons_succ]
                  refine pass_at 13 (some 195) rfl rfl (by kernel_rfl) (by kernel_rfl) (by kernel_rfl) (fun _ _ _ h => h) (by rfl) hS ?_
                  simp only [Act.put, List.setIfInBounds_toArray, List.set_cons_zero, List.set_cons_succ]
                  refine pass_at 14 (some 196) rfl rfl (by kernel_rfl) (by kernel_rfl) (by kernel_rfl) (fun _ _ _ h => h) (by rfl) hS ?_
                  simp only [Act.put, List.setIfInBounds_toArray, List.set_cons_zero, List.set_cons_succ]
                  refine pass_at 15 (some 197) rfl rfl (by kernel_rfl) (by kernel_rfl) (by kernel_rfl) (fun _ _ _ h => h) (by rfl) hS ?_
                  simp only [Act.put, List.setIfInBounds_toArray, List.set_cons_zero, List.set_cons_succ]
                  refine pass_at 16 (some 198) rfl rfl (by kernel_rfl) (by kernel_rfl) (by kernel_rfl) (fun _ _ _ h => h) (by rfl) hS ?_
                  simp only [Act.put, List.setIfInBounds_toArray, List.set_cons_zero, List.set_cons_succ]
                  refine pass_at 17 (some 199) rfl rfl (by kernel_rfl) (by kernel_rfl) (by kernel_rfl) (fun _ _ _ h => h) (by rfl) hS ?_
                  simp only [Act.put, List.setIfInBounds_toArray, List.set_cons_zero, List.set_cons_succ]
                  refine pass_at 18 (some 200) rfl rfl (by kernel_rfl) (by kernel_rfl) (by kernel_rfl) (fun _ _ _ h => h) (by rfl) hS ?_
                  simp only [Act.put, List.setIfInBounds_toArray, List.set_cons_zero, List.set_cons_succ]
                  refine pass_at 19 (some 201) rfl rfl (by kernel_rfl) (by kernel_rfl) (by kernel_rfl) (fun _ _ _ h => h) (by rfl) hS ?_
                  simp only [Act.put, List.setIfInBounds_toArray, List.set_cons_zero, List.set_cons_succ]
                  refine pass_at 20 (some 202) rfl rfl (by kernel_rfl) (by kernel_rfl) (by kernel_rfl) (fun _ _ _ h => h) (by rfl) hS ?_
                  simp only [Act.put, List.setIfInBounds_toArray, List.set_cons_zero, List.set_cons_succ]
                  refine pass_at 21 (some 203) rfl rfl (by kernel_rfl) (by kernel_rfl) (by kernel_rfl) (fun _ _ _ h => h) (by rfl) hS ?_
                  simp only [Act.put, List.setIfInBounds_toArray, List.set_cons_zero, List.set_cons_succ]
                  refine pass_at 22 (some 204) rfl rfl (by kernel_rfl) (by kernel_rfl) (by kernel_rfl) (fun _ _ _ h => h) (by rfl) hS ?_
                  simp only [Act.put, List.setIfInBounds_toArray, List.set_cons_zero, List.set_cons_succ]
                  refine take_at 23 (some 205) (v := ?_) rfl rfl (by kernel_rfl) (by kernel_rfl) (by kernel_rfl) (fun _ _ _ h => h) ⟨by rfl, ?_⟩ hS ?_
                  rotate_left
                  · intro wq hSw; obtain ⟨x0, x1, x2, x3, x4⟩ := hSw; go_simp; try rfl
                  simp only [Act.put, List.setIfInBounds_toArray, List.set_cons_zero, List.set_cons_succ]
                  refine wpAnyH_done (by kernel_rfl) ?_ _
                  clear hS y0 y1 y2 yg yp er512 eq2 ey1 ey2 ez1 ez2 ewz
                  go_wp2_with fail
                  go_roundw
                  case rel => first | exact ⟨i + 1, by omega, by go_num, BX.out⟩ | ((repeat apply Exists.intro); exact ⟨⟨i + 1, by omega, by go_num, BX.out⟩, rfl⟩)
                  case measure => simp [intOf]; omega
        · obtain rfl : i = mm := by omega
          go_wp2_with fail
          go_ret
          exact ⟨rfl, BL.out.trans (hby.mono BL.out.size)⟩
end Go.Proofs.Ytohkmigahbellaa
