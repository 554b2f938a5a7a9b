import Derived.Test.YtokcocmenndlmaaTx36
namespace Go.Proofs.Ytokcocmenndlmaa
open Go.RowKit Go.QK Go.Maps Go.QM Go.QT
set_option maxRecDepth 100000
set_option maxHeartbeats 8000000 in
theorem play1_t (lab : Nat → Nat) (B : Nat) (T : Tab) (n lsn k tx prev z4 z5 z6 z7 z8 z9 z10 z11 z12 z13 nx pnx : Int) (la da pla pda : Option Addr) (lc dc plc pdc : Nat) (L PL : List Lv) (D PD : List (Int × Int)) (w : World) (h : Tb lab w B T) (he : ∀ j, j < 2 → T.rp j = T.rq j) (ha : Arg B w n tx la da pla pda lc dc plc pdc L PL D PD) (_hm : T.ls.length + 2 ≤ 100000) :
    Calls Try.prog 21 #[ptr T.t, .agg (List.toArray [.int .i64 1, .bool true, .int .i64 n, .int .i64 lsn, .int .i64 k, .int .i64 tx, .int .i64 prev, .int .i64 z4, .int .i64 z5, .int .i64 z6, .int .i64 z7, .int .i64 z8, .int .i64 z9, .int .i64 z10, .int .i64 z11, .int .i64 z12, .int .i64 z13, .slice la L.length lc, .slice da D.length dc, .int .i64 nx, .slice pla PL.length plc, .slice pda PD.length pdc, .int .i64 pnx])] w (TPost 2 w B T) := by
  have HBS := hide (show B ≤ w.heap.size by have := h.low.1; have := h.box.1; omega)
  have HQ := hide he
  have HT0 := hide h
  have HA := hide ha
  clear h he ha
  go_enter Try.func21, Try.ntmps21
  go_upto_region 1 with fail
  refine named (P := Code.wp _ _ _ _) ?_
  intro w1 hw1
  obtain ⟨bx, hbx⟩ : ∃ b, b = w.heap.size := ⟨_, rfl⟩
  have HX := hide (show Cells w1 bx [.int .i64 1, .bool true, .int .i64 n, .int .i64 lsn, .int .i64 k, .int .i64 tx, .int .i64 prev, .int .i64 z4, .int .i64 z5, .int .i64 z6, .int .i64 z7, .int .i64 z8, .int .i64 z9, .int .i64 z10, .int .i64 z11, .int .i64 z12, .int .i64 z13, .slice la L.length lc, .slice da D.length dc, .int .i64 nx, .slice pla PL.length plc, .slice pda PD.length pdc, .int .i64 pnx] by rw [hw1, hbx]; exact Cells.new w _ _)
  have HB := hide (show Below w.heap.size w w1 by rw [hw1]; exact alloc_below _ _)
  have HBB := hide (HB.out.mono HBS.out)
  have HT := hide (HT0.out.below HB.out)
  rw [← hbx]
  clear hw1 hbx HT0
  obtain ⟨v0, -⟩ := HX.out.get 0 _ rfl
  obtain ⟨v1, -⟩ := HX.out.get 1 _ rfl
  obtain ⟨v2, -⟩ := HX.out.get 2 _ rfl
  by_cases hR : isNext n = true
  · have HR := hide hR
    clear hR
    go_wp2_with fail
    refine (new_yes n w1 HR.out).mono ?_
    rintro e w2 ⟨rfl, pt, hh, sz⟩
    obtain ⟨b, hb⟩ : ∃ b, b = w1.heap.size + 1 := ⟨_, rfl⟩
    rw [← hb] at pt ⊢
    have H2 := hide hh
    have PT2 := hide pt
    have S2 := hide sz
    have HBE := hide hb
    clear hh pt sz hb v2
    obtain ⟨v2, -⟩ := (HX.out.below H2.out).get 2 _ rfl
    go_wp2_with fail
    refine (rnew_yes n w2 HR.out).mono ?_
    rintro e w3 ⟨rfl, rt, hh, sz⟩
    obtain ⟨c, hc⟩ : ∃ b, b = w2.heap.size := ⟨_, rfl⟩
    rw [← hc] at rt ⊢
    have H3 := hide hh
    have RT3 := hide rt
    have HCE := hide hc
    clear hh rt sz hc v2
    have B3 := hide (H2.out.trans (H3.out.mono H2.out.size))
    have BXB := hide (HT.out.below B3.out).box
    have KB : Calls Try.prog 20 #[ptr T.t, .int .i64 1, ptr b, .int .i64 0, ptr c, .int .i64 0] w3 _ := begins_yes T.t 1 b c _ w3 BXB.out rfl (by omega)
    go_wp2_with fail
    refine KB.mono ?_
    rintro e w4 ⟨rfl, hw4⟩
    have H4 := hide hw4
    clear hw4 KB
    go_wp2_with fail
    go_ret
    refine ((begunPost HT.out HQ.out (i := 1) (by omega) B3.out (PT2.out.below H3.out) (RT3.out.mono (B' := w1.heap.size) (by rw [HCE.out]; exact H2.out.size)) ⟨by rw [HBE.out]; omega, Nat.le_refl _⟩ ⟨by rw [HCE.out, S2.out, HBE.out]; omega, by rw [HCE.out, S2.out]; omega, fun g hg => by cases hg⟩ H4.out).after HBB.out).more
  · have hR2 : isNext n = false := by simpa using hR
    have HR := hide hR2
    clear hR hR2
    go_wp2_with fail
    refine (new_no n w1 HR.out).mono ?_
    rintro e w2 ⟨rfl, rfl⟩
    go_wp2_with fail
    refine (rnew_no n w1 HR.out).mono ?_
    rintro e w3 ⟨rfl, rfl⟩
    have KB : Calls Try.prog 20 #[ptr T.t, .int .i64 1, .pointer none, .int .i64 4, .pointer none, .int .i64 4] w1 _ := begins_no T.t 1 4 w1
    go_wp2_with fail
    refine KB.mono ?_
    rintro e w4 ⟨rfl, rfl⟩
    go_wp2_with fail
    go_ret
    exact ((stayPost HT.out HQ.out (Below.refl _ _)).after HBB.out).more
set_option maxHeartbeats 8000000 in
theorem play4_t (lab : Nat → Nat) (B : Nat) (T : Tab) (n lsn k tx prev z4 z5 z6 z7 z8 z9 z10 z11 z12 z13 nx pnx : Int) (la da pla pda : Option Addr) (lc dc plc pdc : Nat) (L PL : List Lv) (D PD : List (Int × Int)) (w : World) (h : Tb lab w B T) (he : ∀ j, j < 2 → T.rp j = T.rq j) (ha : Arg B w n tx la da pla pda lc dc plc pdc L PL D PD) (_hm : T.ls.length + 2 ≤ 100000) :
    Calls Try.prog 21 #[ptr T.t, .agg (List.toArray [.int .i64 4, .bool true, .int .i64 n, .int .i64 lsn, .int .i64 k, .int .i64 tx, .int .i64 prev, .int .i64 z4, .int .i64 z5, .int .i64 z6, .int .i64 z7, .int .i64 z8, .int .i64 z9, .int .i64 z10, .int .i64 z11, .int .i64 z12, .int .i64 z13, .slice la L.length lc, .slice da D.length dc, .int .i64 nx, .slice pla PL.length plc, .slice pda PD.length pdc, .int .i64 pnx])] w (TPost 2 w B T) := by
  have HBS := hide (show B ≤ w.heap.size by have := h.low.1; have := h.box.1; omega)
  have HQ := hide he
  have HT0 := hide h
  have HA := hide ha
  clear h he ha
  go_enter Try.func21, Try.ntmps21
  go_upto_region 1 with fail
  refine named (P := Code.wp _ _ _ _) ?_
  intro w1 hw1
  obtain ⟨bx, hbx⟩ : ∃ b, b = w.heap.size := ⟨_, rfl⟩
  have HX := hide (show Cells w1 bx [.int .i64 4, .bool true, .int .i64 n, .int .i64 lsn, .int .i64 k, .int .i64 tx, .int .i64 prev, .int .i64 z4, .int .i64 z5, .int .i64 z6, .int .i64 z7, .int .i64 z8, .int .i64 z9, .int .i64 z10, .int .i64 z11, .int .i64 z12, .int .i64 z13, .slice la L.length lc, .slice da D.length dc, .int .i64 nx, .slice pla PL.length plc, .slice pda PD.length pdc, .int .i64 pnx] by rw [hw1, hbx]; exact Cells.new w _ _)
  have HB := hide (show Below w.heap.size w w1 by rw [hw1]; exact alloc_below _ _)
  have HBB := hide (HB.out.mono HBS.out)
  have HT := hide (HT0.out.below HB.out)
  rw [← hbx]
  have HLT0 := hide (show T.b 1 < bx ∧ T.m 1 < bx ∧ T.c 1 < bx ∧ T.t < bx ∧ (∀ g, (T.v 1).ownBlock = some g → g < bx) by rw [hbx]; exact ⟨(HT0.out.pr 1 (by omega)).lt.1, (HT0.out.pr 1 (by omega)).lt.2, (HT0.out.rr 1 (by omega)).lt.1, HT0.out.box.1, (HT0.out.rr 1 (by omega)).lt.2⟩)
  clear hw1 hbx HT0
  obtain ⟨v0, -⟩ := HX.out.get 0 _ rfl
  obtain ⟨v1, -⟩ := HX.out.get 1 _ rfl
  obtain ⟨v2, -⟩ := HX.out.get 2 _ rfl
  have HLT := hide (show T.b 1 < bx ∧ T.m 1 < bx ∧ T.c 1 < bx ∧ T.t < bx ∧ (∀ g, (T.v 1).ownBlock = some g → g < bx) from HLT0.out)
  have KB := Begin_any (T.b 1) (T.m 1) (T.rp 1) n w1.drew ((HT.out.below (Below.refl _ _).drew).pr 1 (by omega))
  obtain ⟨A1, hA1⟩ : ∃ x, x = (T.rp 1).beginN n := ⟨_, rfl⟩
  obtain ⟨A2, hA2⟩ : ∃ x, x = (T.rp 1).beginE n := ⟨_, rfl⟩
  obtain ⟨r1, hr1⟩ : ∃ x, x = (T.rp 1).beginT n := ⟨_, rfl⟩
  rw [← hA1, ← hA2, ← hr1] at KB
  have HE := hide (And.intro hA1 (And.intro hA2 hr1))
  clear hA1 hA2 hr1 v2
  go_upto_region 14 with fail
  refine wp_region_held_drew (S := fun wq => Keep (fun z => z = T.b 1 ∨ z = T.m 1) w1 wq) (by kernel_rfl) (Keep.refl _ _).drew (fun hS => ?_)
  refine take_at 0 (some 58) (v := ?_) rfl rfl (by kernel_rfl) (by kernel_rfl) (by kernel_rfl) (fun _ _ _ h => h) ⟨by rfl, ?_⟩ hS ?_
  rotate_left
  · intro wq hSw; go_simp; try rfl
  simp only [Act.put, List.setIfInBounds_toArray, List.set_cons_zero, List.set_cons_succ]
  refine take_at 1 (some 59) (v := ?_) rfl rfl (by kernel_rfl) (by kernel_rfl) (by kernel_rfl) (fun _ _ _ h => h) ⟨by rfl, ?_⟩ hS ?_
  rotate_left
  · intro wq hSw; go_simp; try rfl
  simp only [Act.put, List.setIfInBounds_toArray, List.set_cons_zero, List.set_cons_succ]
  refine take_at 2 (some 60) (v := ?_) rfl rfl (by kernel_rfl) (by kernel_rfl) (by kernel_rfl) (fun _ _ _ h => h) ⟨by rfl, ?_⟩ hS ?_
  rotate_left
  · intro wq hSw; go_simp; try rfl
  simp only [Act.put, List.setIfInBounds_toArray, List.set_cons_zero, List.set_cons_succ]
  refine take_at 3 (some 61) (v := ?_) rfl rfl (by kernel_rfl) (by kernel_rfl) (by kernel_rfl) (fun _ _ _ h => h) ⟨by rfl, ?_⟩ hS ?_
  rotate_left
  · intro wq hSw; go_simp; try rfl
  simp only [Act.put, List.setIfInBounds_toArray, List.set_cons_zero, List.set_cons_succ]
  refine take_at 4 (some 62) (v := ?_) rfl rfl (by kernel_rfl) (by kernel_rfl) (by kernel_rfl) (fun _ _ _ h => h) ⟨by rfl, ?_⟩ hS ?_
  rotate_left
  · intro wq hSw; go_simp; try rfl
  simp only [Act.put, List.setIfInBounds_toArray, List.set_cons_zero, List.set_cons_succ]
  refine take_at 5 (some 63) (v := ?_) rfl rfl (by kernel_rfl) (by kernel_rfl) (by kernel_rfl) (fun _ _ _ h => h) ⟨by rfl, ?_⟩ hS ?_
  rotate_left
  · intro wq hSw; have q : wq.cell? ⟨T.t, 1, none⟩ = some (ptr (T.b 1)) := (hSw.cell (p := ⟨T.t, 1, none⟩) HT.out.box.1 (fun q => by have hl := HLT.out; rcases q with q | q; (have e9 : T.t = T.b 1 := q; have l2 := (HT.out.l2 1 (by omega)); rw [← e9] at l2; have := HT.out.l1; omega); (have e9 : T.t = T.m 1 := q; have l2 := (HT.out.l2 1 (by omega)); rw [← e9] at l2; have := HT.out.l1; omega))).trans (HT.out.cP (i := 1) (by omega)).1; go_simp; try rfl
  simp only [Act.put, List.setIfInBounds_toArray, List.set_cons_zero, List.set_cons_succ]
  refine take_at 6 (some 64) (v := ?_) rfl rfl (by kernel_rfl) (by kernel_rfl) (by kernel_rfl) (fun _ _ _ h => h) ⟨by rfl, ?_⟩ hS ?_
  rotate_left
  · intro wq hSw; go_simp; try rfl
  simp only [Act.put, List.setIfInBounds_toArray, List.set_cons_zero, List.set_cons_succ]
  refine take_at 7 (some 65) (v := ?_) rfl rfl (by kernel_rfl) (by kernel_rfl) (by kernel_rfl) (fun _ _ _ h => h) ⟨by rfl, ?_⟩ hS ?_
  rotate_left
  · intro wq hSw; have q := ((HX.out.keep hSw (fun q => by have hl := HLT.out; rcases q with q | q; (have e9 : bx = T.b 1 := q; omega); (have e9 : bx = T.m 1 := q; omega))).get 2 _ rfl).1; go_simp; try rfl
  simp only [Act.put, List.setIfInBounds_toArray, List.set_cons_zero, List.set_cons_succ]
  refine wpAnyH_ready (rs := [8]) (by kernel_rfl) (by simp) ?_
  refine AllReadyH.cons rfl (fun K hK => ?_) AllReadyH.nil
  go_simp
  go_wp2_with fail
  refine KB.mono ?_
  rintro e w2 ⟨rfl, pt, kp⟩
  have P2 := hide pt
  have K2 := hide (hS.trans kp (fun _ _ q => q))
  clear pt kp hS KB
  go_wp2_with fail
  refine hK.out _ _ K2.out (fun hS => ?_)
  clear hK K
  (try simp only [Act.put, List.setIfInBounds_toArray, List.set_cons_zero, List.set_cons_succ])
  refine take_at 9 (some 57) (v := ?_) rfl rfl (by kernel_rfl) (by kernel_rfl) (by kernel_rfl) (fun _ _ _ h => h) ⟨by rfl, ?_⟩ hS ?_
  rotate_left
  · intro wq hSw; go_simp; try rfl
  simp only [Act.put, List.setIfInBounds_toArray, List.set_cons_zero, List.set_cons_succ]
  refine take_at 10 (some 67) (v := ?_) rfl rfl (by kernel_rfl) (by kernel_rfl) (by kernel_rfl) (fun _ _ _ h => h) ⟨by rfl, ?_⟩ hS ?_
  rotate_left
  · intro wq hSw; go_simp; try rfl
  simp only [Act.put, List.setIfInBounds_toArray, List.set_cons_zero, List.set_cons_succ]
  refine take_at 11 (some 68) (v := ?_) rfl rfl (by kernel_rfl) (by kernel_rfl) (by kernel_rfl) (fun _ _ _ h => h) ⟨by rfl, ?_⟩ hS ?_
  rotate_left
  · intro wq hSw; go_simp; try rfl
  simp only [Act.put, List.setIfInBounds_toArray, List.set_cons_zero, List.set_cons_succ]
  refine take_at 12 (some 10) (v := ?_) rfl rfl (by kernel_rfl) (by kernel_rfl) (by kernel_rfl) (fun _ _ _ h => h) ⟨by rfl, ?_⟩ hS ?_
  rotate_left
  · intro wq hSw; go_simp; try rfl
  simp only [Act.put, List.setIfInBounds_toArray, List.set_cons_zero, List.set_cons_succ]
  refine take_at 13 (some 11) (v := ?_) rfl rfl (by kernel_rfl) (by kernel_rfl) (by kernel_rfl) (fun _ _ _ h => h) ⟨by rfl, ?_⟩ hS ?_
  rotate_left
  · intro wq hSw; go_simp; try rfl
  simp only [Act.put, List.setIfInBounds_toArray, List.set_cons_zero, List.set_cons_succ]
  clear hS
  refine wpAnyH_done (by kernel_rfl) ?_ _
  have TB2 := hide (HT.out.took (i := 1) (by omega) P2.out K2.out)
  have HX2 := hide (HX.out.keep K2.out (fun q => by have hl := HLT.out; rcases q with q | q; (have e9 : bx = T.b 1 := q; omega); (have e9 : bx = T.m 1 := q; omega)))
  have B2 := hide (show Below B w w2 from HBB.out.trans (K2.out.below (Nat.le_trans HBS.out HB.out.size) (fun z hz q => by have lo := HT.out.low.2 1 (by omega); rcases q with q | q; (have e9 : z = T.b 1 := q; omega); (have e9 : z = T.m 1 := q; omega))))
  have KR := rBegin_any B (T.c 1) (T.v 1) (T.rq 1) n w2.drew ((TB2.out.below (Below.refl _ _).drew).rr 1 (by omega))
  rw [← HQ.out 1 (by omega), ← HE.out.1, ← HE.out.2.1, ← HE.out.2.2] at KR
  have SZ2 := hide (Nat.le_trans HB.out.size K2.out.size)
  clear P2 K2
  go_upto_region 15 with fail
  refine wp_region_held_drew (S := fun wq => Keep (fun z => z = T.c 1 ∨ (T.v 1).ownBlock = some z) w2 wq) (by kernel_rfl) (Keep.refl _ _).drew (fun hS => ?_)
  refine take_at 0 (some 70) (v := ?_) rfl rfl (by kernel_rfl) (by kernel_rfl) (by kernel_rfl) (fun _ _ _ h => h) ⟨by rfl, ?_⟩ hS ?_
  rotate_left
  · intro wq hSw; go_simp; try rfl
  simp only [Act.put, List.setIfInBounds_toArray, List.set_cons_zero, List.set_cons_succ]
  refine take_at 1 (some 71) (v := ?_) rfl rfl (by kernel_rfl) (by kernel_rfl) (by kernel_rfl) (fun _ _ _ h => h) ⟨by rfl, ?_⟩ hS ?_
  rotate_left
  · intro wq hSw; go_simp; try rfl
  simp only [Act.put, List.setIfInBounds_toArray, List.set_cons_zero, List.set_cons_succ]
  refine take_at 2 (some 72) (v := ?_) rfl rfl (by kernel_rfl) (by kernel_rfl) (by kernel_rfl) (fun _ _ _ h => h) ⟨by rfl, ?_⟩ hS ?_
  rotate_left
  · intro wq hSw; go_simp; try rfl
  simp only [Act.put, List.setIfInBounds_toArray, List.set_cons_zero, List.set_cons_succ]
  refine take_at 3 (some 73) (v := ?_) rfl rfl (by kernel_rfl) (by kernel_rfl) (by kernel_rfl) (fun _ _ _ h => h) ⟨by rfl, ?_⟩ hS ?_
  rotate_left
  · intro wq hSw; go_simp; try rfl
  simp only [Act.put, List.setIfInBounds_toArray, List.set_cons_zero, List.set_cons_succ]
  refine take_at 4 (some 74) (v := ?_) rfl rfl (by kernel_rfl) (by kernel_rfl) (by kernel_rfl) (fun _ _ _ h => h) ⟨by rfl, ?_⟩ hS ?_
  rotate_left
  · intro wq hSw; go_simp; try rfl
  simp only [Act.put, List.setIfInBounds_toArray, List.set_cons_zero, List.set_cons_succ]
  refine take_at 5 (some 75) (v := ?_) rfl rfl (by kernel_rfl) (by kernel_rfl) (by kernel_rfl) (fun _ _ _ h => h) ⟨by rfl, ?_⟩ hS ?_
  rotate_left
  · intro wq hSw; have q : wq.cell? ⟨T.t, 2 + 1, none⟩ = some (ptr (T.c 1)) := (hSw.cell (p := ⟨T.t, 2 + 1, none⟩) TB2.out.box.1 (fun q => by have hl := HLT.out; rcases q with q | q; (have e9 : T.t = T.c 1 := q; have l2 := (HT.out.l4 1 (by omega)).1; rw [← e9] at l2; have := HT.out.l1; omega); (have e9 : (T.v 1).ownBlock = some T.t := q; have l9 := HLT.out.2.2.2.2 _ e9; have l2 := (HT.out.l4 1 (by omega)).2 _ e9; have := HT.out.l1; omega))).trans (TB2.out.cR (i := 1) (by omega)).1; go_simp; try rfl
  simp only [Act.put, List.setIfInBounds_toArray, List.set_cons_zero, List.set_cons_succ]
  refine take_at 6 (some 76) (v := ?_) rfl rfl (by kernel_rfl) (by kernel_rfl) (by kernel_rfl) (fun _ _ _ h => h) ⟨by rfl, ?_⟩ hS ?_
  rotate_left
  · intro wq hSw; go_simp; try rfl
  simp only [Act.put, List.setIfInBounds_toArray, List.set_cons_zero, List.set_cons_succ]
  refine take_at 7 (some 77) (v := ?_) rfl rfl (by kernel_rfl) (by kernel_rfl) (by kernel_rfl) (fun _ _ _ h => h) ⟨by rfl, ?_⟩ hS ?_
  rotate_left
  · intro wq hSw; have q := ((HX2.out.keep hSw (fun q => by have hl := HLT.out; rcases q with q | q; (have e9 : bx = T.c 1 := q; omega); (have e9 : (T.v 1).ownBlock = some bx := q; have l9 := HLT.out.2.2.2.2 _ e9; omega))).get 2 _ rfl).1; go_simp; try rfl
  simp only [Act.put, List.setIfInBounds_toArray, List.set_cons_zero, List.set_cons_succ]
  refine wpAnyH_ready (rs := [8]) (by kernel_rfl) (by simp) ?_
  refine AllReadyH.cons rfl (fun K hK => ?_) AllReadyH.nil
  go_simp
  go_wp2_with fail
  refine KR.mono ?_
  rintro e w3 ⟨rfl, rp⟩
  have RP3 := hide rp
  obtain ⟨v9, h91, h92, k9⟩ := rp
  have K3 := hide (hS.trans k9 (fun _ _ q => q))
  clear v9 h91 h92 k9 hS KR
  go_wp2_with fail
  refine hK.out _ _ K3.out (fun hS => ?_)
  clear hK K
  (try simp only [Act.put, List.setIfInBounds_toArray, List.set_cons_zero, List.set_cons_succ])
  refine take_at 9 (some 69) (v := ?_) rfl rfl (by kernel_rfl) (by kernel_rfl) (by kernel_rfl) (fun _ _ _ h => h) ⟨by rfl, ?_⟩ hS ?_
  rotate_left
  · intro wq hSw; go_simp; try rfl
  simp only [Act.put, List.setIfInBounds_toArray, List.set_cons_zero, List.set_cons_succ]
  refine take_at 10 (some 79) (v := ?_) rfl rfl (by kernel_rfl) (by kernel_rfl) (by kernel_rfl) (fun _ _ _ h => h) ⟨by rfl, ?_⟩ hS ?_
  rotate_left
  · intro wq hSw; go_simp; try rfl
  simp only [Act.put, List.setIfInBounds_toArray, List.set_cons_zero, List.set_cons_succ]
  refine take_at 11 (some 80) (v := ?_) rfl rfl (by kernel_rfl) (by kernel_rfl) (by kernel_rfl) (fun _ _ _ h => h) ⟨by rfl, ?_⟩ hS ?_
  rotate_left
  · intro wq hSw; go_simp; try rfl
  simp only [Act.put, List.setIfInBounds_toArray, List.set_cons_zero, List.set_cons_succ]
  refine take_at 12 (some 12) (v := ?_) rfl rfl (by kernel_rfl) (by kernel_rfl) (by kernel_rfl) (fun _ _ _ h => h) ⟨by rfl, ?_⟩ hS ?_
  rotate_left
  · intro wq hSw; go_simp; try rfl
  simp only [Act.put, List.setIfInBounds_toArray, List.set_cons_zero, List.set_cons_succ]
  refine take_at 13 (some 13) (v := ?_) rfl rfl (by kernel_rfl) (by kernel_rfl) (by kernel_rfl) (fun _ _ _ h => h) ⟨by rfl, ?_⟩ hS ?_
  rotate_left
  · intro wq hSw; go_simp; try rfl
  simp only [Act.put, List.setIfInBounds_toArray, List.set_cons_zero, List.set_cons_succ]
  clear hS
  refine wpAnyH_done (by kernel_rfl) ?_ _
  go_wp2_with (first | (go_at_call 7; refine (num_eq _ _).mono ?_; rintro e wz ⟨rfl, rfl⟩))
  go_ret
  obtain ⟨v', tb, kk⟩ := TB2.out.rtookP (i := 1) (by omega) (RPost.belowL ((Below.refl _ _).drew) RP3.out)
  refine ⟨by first | rfl | simp, _, _, tb, fun j hj => ?_, rfl, B2.out.trans (K3.out.below (Nat.le_trans HBS.out SZ2.out) (fun z hz q => by rcases q with q | q; (have e9 : z = T.c 1 := q; have lo : B ≤ T.c 1 := (TB2.out.rr 1 (by omega)).low; omega); (have lo : B ≤ z := (World.ownsRow.lt (TB2.out.rr 1 (by omega)).row z q).1; omega))), by show T.ls.length ≤ _; omega⟩
  show upd T.rp 1 r1 j = upd T.rq 1 r1 j
  by_cases q : j = 1
  · rw [q, upd_same, upd_same]
  · rw [upd_other _ _ q, upd_other _ _ q]; exact HQ.out j hj
set_option maxHeartbeats 8000000 in
theorem play1_f (lab : Nat → Nat) (B : Nat) (T : Tab) (n lsn k tx prev z4 z5 z6 z7 z8 z9 z10 z11 z12 z13 nx pnx : Int) (la da pla pda : Option Addr) (lc dc plc pdc : Nat) (L PL : List Lv) (D PD : List (Int × Int)) (w : World) (h : Tb lab w B T) (he : ∀ j, j < 2 → T.rp j = T.rq j) (ha : Arg B w n tx la da pla pda lc dc plc pdc L PL D PD) (_hm : T.ls.length + 2 ≤ 100000) :
    Calls Try.prog 21 #[ptr T.t, .agg (List.toArray [.int .i64 1, .bool false, .int .i64 n, .int .i64 lsn, .int .i64 k, .int .i64 tx, .int .i64 prev, .int .i64 z4, .int .i64 z5, .int .i64 z6, .int .i64 z7, .int .i64 z8, .int .i64 z9, .int .i64 z10, .int .i64 z11, .int .i64 z12, .int .i64 z13, .slice la L.length lc, .slice da D.length dc, .int .i64 nx, .slice pla PL.length plc, .slice pda PD.length pdc, .int .i64 pnx])] w (TPost 2 w B T) := by
  have HBS := hide (show B ≤ w.heap.size by have := h.low.1; have := h.box.1; omega)
  have HQ := hide he
  have HT0 := hide h
  have HA := hide ha
  clear h he ha
  go_enter Try.func21, Try.ntmps21
  go_upto_region 1 with fail
  refine named (P := Code.wp _ _ _ _) ?_
  intro w1 hw1
  obtain ⟨bx, hbx⟩ : ∃ b, b = w.heap.size := ⟨_, rfl⟩
  have HX := hide (show Cells w1 bx [.int .i64 1, .bool false, .int .i64 n, .int .i64 lsn, .int .i64 k, .int .i64 tx, .int .i64 prev, .int .i64 z4, .int .i64 z5, .int .i64 z6, .int .i64 z7, .int .i64 z8, .int .i64 z9, .int .i64 z10, .int .i64 z11, .int .i64 z12, .int .i64 z13, .slice la L.length lc, .slice da D.length dc, .int .i64 nx, .slice pla PL.length plc, .slice pda PD.length pdc, .int .i64 pnx] by rw [hw1, hbx]; exact Cells.new w _ _)
  have HB := hide (show Below w.heap.size w w1 by rw [hw1]; exact alloc_below _ _)
  have HBB := hide (HB.out.mono HBS.out)
  have HT := hide (HT0.out.below HB.out)
  rw [← hbx]
  clear hw1 hbx HT0
  obtain ⟨v0, -⟩ := HX.out.get 0 _ rfl
  obtain ⟨v1, -⟩ := HX.out.get 1 _ rfl
  obtain ⟨v2, -⟩ := HX.out.get 2 _ rfl
  by_cases hR : isNext n = true
  · have HR := hide hR
    clear hR
    go_wp2_with fail
    refine (new_yes n w1 HR.out).mono ?_
    rintro e w2 ⟨rfl, pt, hh, sz⟩
    obtain ⟨b, hb⟩ : ∃ b, b = w1.heap.size + 1 := ⟨_, rfl⟩
    rw [← hb] at pt ⊢
    have H2 := hide hh
    have PT2 := hide pt
    have S2 := hide sz
    have HBE := hide hb
    clear hh pt sz hb v2
    obtain ⟨v2, -⟩ := (HX.out.below H2.out).get 2 _ rfl
    go_wp2_with fail
    refine (rnew_yes n w2 HR.out).mono ?_
    rintro e w3 ⟨rfl, rt, hh, sz⟩
    obtain ⟨c, hc⟩ : ∃ b, b = w2.heap.size := ⟨_, rfl⟩
    rw [← hc] at rt ⊢
    have H3 := hide hh
    have RT3 := hide rt
    have HCE := hide hc
    clear hh rt sz hc v2
    have B3 := hide (H2.out.trans (H3.out.mono H2.out.size))
    have BXB := hide (HT.out.below B3.out).box
    have KB : Calls Try.prog 20 #[ptr T.t, .int .i64 0, ptr b, .int .i64 0, ptr c, .int .i64 0] w3 _ := begins_yes T.t 0 b c _ w3 BXB.out rfl (by omega)
    go_wp2_with fail
    refine KB.mono ?_
    rintro e w4 ⟨rfl, hw4⟩
    have H4 := hide hw4
    clear hw4 KB
    go_wp2_with fail
    go_ret
    refine ((begunPost HT.out HQ.out (i := 0) (by omega) B3.out (PT2.out.below H3.out) (RT3.out.mono (B' := w1.heap.size) (by rw [HCE.out]; exact H2.out.size)) ⟨by rw [HBE.out]; omega, Nat.le_refl _⟩ ⟨by rw [HCE.out, S2.out, HBE.out]; omega, by rw [HCE.out, S2.out]; omega, fun g hg => by cases hg⟩ H4.out).after HBB.out).more
  · have hR2 : isNext n = false := by simpa using hR
    have HR := hide hR2
    clear hR hR2
    go_wp2_with fail
    refine (new_no n w1 HR.out).mono ?_
    rintro e w2 ⟨rfl, rfl⟩
    go_wp2_with fail
    refine (rnew_no n w1 HR.out).mono ?_
    rintro e w3 ⟨rfl, rfl⟩
    have KB : Calls Try.prog 20 #[ptr T.t, .int .i64 0, .pointer none, .int .i64 4, .pointer none, .int .i64 4] w1 _ := begins_no T.t 0 4 w1
    go_wp2_with fail
    refine KB.mono ?_
    rintro e w4 ⟨rfl, rfl⟩
    go_wp2_with fail
    go_ret
    exact ((stayPost HT.out HQ.out (Below.refl _ _)).after HBB.out).more
set_option maxHeartbeats 8000000 in
theorem play4_f (lab : Nat → Nat) (B : Nat) (T : Tab) (n lsn k tx prev z4 z5 z6 z7 z8 z9 z10 z11 z12 z13 nx pnx : Int) (la da pla pda : Option Addr) (lc dc plc pdc : Nat) (L PL : List Lv) (D PD : List (Int × Int)) (w : World) (h : Tb lab w B T) (he : ∀ j, j < 2 → T.rp j = T.rq j) (ha : Arg B w n tx la da pla pda lc dc plc pdc L PL D PD) (_hm : T.ls.length + 2 ≤ 100000) :
    Calls Try.prog 21 #[ptr T.t, .agg (List.toArray [.int .i64 4, .bool false, .int .i64 n, .int .i64 lsn, .int .i64 k, .int .i64 tx, .int .i64 prev, .int .i64 z4, .int .i64 z5, .int .i64 z6, .int .i64 z7, .int .i64 z8, .int .i64 z9, .int .i64 z10, .int .i64 z11, .int .i64 z12, .int .i64 z13, .slice la L.length lc, .slice da D.length dc, .int .i64 nx, .slice pla PL.length plc, .slice pda PD.length pdc, .int .i64 pnx])] w (TPost 2 w B T) := by
  have HBS := hide (show B ≤ w.heap.size by have := h.low.1; have := h.box.1; omega)
  have HQ := hide he
  have HT0 := hide h
  have HA := hide ha
  clear h he ha
  go_enter Try.func21, Try.ntmps21
  go_upto_region 1 with fail
  refine named (P := Code.wp _ _ _ _) ?_
  intro w1 hw1
  obtain ⟨bx, hbx⟩ : ∃ b, b = w.heap.size := ⟨_, rfl⟩
  have HX := hide (show Cells w1 bx [.int .i64 4, .bool false, .int .i64 n, .int .i64 lsn, .int .i64 k, .int .i64 tx, .int .i64 prev, .int .i64 z4, .int .i64 z5, .int .i64 z6, .int .i64 z7, .int .i64 z8, .int .i64 z9, .int .i64 z10, .int .i64 z11, .int .i64 z12, .int .i64 z13, .slice la L.length lc, .slice da D.length dc, .int .i64 nx, .slice pla PL.length plc, .slice pda PD.length pdc, .int .i64 pnx] by rw [hw1, hbx]; exact Cells.new w _ _)
  have HB := hide (show Below w.heap.size w w1 by rw [hw1]; exact alloc_below _ _)
  have HBB := hide (HB.out.mono HBS.out)
  have HT := hide (HT0.out.below HB.out)
  rw [← hbx]
  have HLT0 := hide (show T.b 0 < bx ∧ T.m 0 < bx ∧ T.c 0 < bx ∧ T.t < bx ∧ (∀ g, (T.v 0).ownBlock = some g → g < bx) by rw [hbx]; exact ⟨(HT0.out.pr 0 (by omega)).lt.1, (HT0.out.pr 0 (by omega)).lt.2, (HT0.out.rr 0 (by omega)).lt.1, HT0.out.box.1, (HT0.out.rr 0 (by omega)).lt.2⟩)
  clear hw1 hbx HT0
  obtain ⟨v0, -⟩ := HX.out.get 0 _ rfl
  obtain ⟨v1, -⟩ := HX.out.get 1 _ rfl
  obtain ⟨v2, -⟩ := HX.out.get 2 _ rfl
  have HLT := hide (show T.b 0 < bx ∧ T.m 0 < bx ∧ T.c 0 < bx ∧ T.t < bx ∧ (∀ g, (T.v 0).ownBlock = some g → g < bx) from HLT0.out)
  have KB := Begin_any (T.b 0) (T.m 0) (T.rp 0) n w1.drew ((HT.out.below (Below.refl _ _).drew).pr 0 (by omega))
  obtain ⟨A1, hA1⟩ : ∃ x, x = (T.rp 0).beginN n := ⟨_, rfl⟩
  obtain ⟨A2, hA2⟩ : ∃ x, x = (T.rp 0).beginE n := ⟨_, rfl⟩
  obtain ⟨r1, hr1⟩ : ∃ x, x = (T.rp 0).beginT n := ⟨_, rfl⟩
  rw [← hA1, ← hA2, ← hr1] at KB
  have HE := hide (And.intro hA1 (And.intro hA2 hr1))
  clear hA1 hA2 hr1 v2
  go_upto_region 14 with fail
  refine wp_region_held_drew (S := fun wq => Keep (fun z => z = T.b 0 ∨ z = T.m 0) w1 wq) (by kernel_rfl) (Keep.refl _ _).drew (fun hS => ?_)
  refine take_at 0 (some 58) (v := ?_) rfl rfl (by kernel_rfl) (by kernel_rfl) (by kernel_rfl) (fun _ _ _ h => h) ⟨by rfl, ?_⟩ hS ?_
  rotate_left
  · intro wq hSw; go_simp; try rfl
  simp only [Act.put, List.setIfInBounds_toArray, List.set_cons_zero, List.set_cons_succ]
  refine take_at 1 (some 59) (v := ?_) rfl rfl (by kernel_rfl) (by kernel_rfl) (by kernel_rfl) (fun _ _ _ h => h) ⟨by rfl, ?_⟩ hS ?_
  rotate_left
  · intro wq hSw; go_simp; try rfl
  simp only [Act.put, List.setIfInBounds_toArray, List.set_cons_zero, List.set_cons_succ]
  refine take_at 2 (some 60) (v := ?_) rfl rfl (by kernel_rfl) (by kernel_rfl) (by kernel_rfl) (fun _ _ _ h => h) ⟨by rfl, ?_⟩ hS ?_
  rotate_left
  · intro wq hSw; go_simp; try rfl
  simp only [Act.put, List.setIfInBounds_toArray, List.set_cons_zero, List.set_cons_succ]
  refine take_at 3 (some 61) (v := ?_) rfl rfl (by kernel_rfl) (by kernel_rfl) (by kernel_rfl) (fun _ _ _ h => h) ⟨by rfl, ?_⟩ hS ?_
  rotate_left
  · intro wq hSw; go_simp; try rfl
  simp only [Act.put, List.setIfInBounds_toArray, List.set_cons_zero, List.set_cons_succ]
  refine take_at 4 (some 62) (v := ?_) rfl rfl (by kernel_rfl) (by kernel_rfl) (by kernel_rfl) (fun _ _ _ h => h) ⟨by rfl, ?_⟩ hS ?_
  rotate_left
  · intro wq hSw; go_simp; try rfl
  simp only [Act.put, List.setIfInBounds_toArray, List.set_cons_zero, List.set_cons_succ]
  refine take_at 5 (some 63) (v := ?_) rfl rfl (by kernel_rfl) (by kernel_rfl) (by kernel_rfl) (fun _ _ _ h => h) ⟨by rfl, ?_⟩ hS ?_
  rotate_left
  · intro wq hSw; have q : wq.cell? ⟨T.t, 0, none⟩ = some (ptr (T.b 0)) := (hSw.cell (p := ⟨T.t, 0, none⟩) HT.out.box.1 (fun q => by have hl := HLT.out; rcases q with q | q; (have e9 : T.t = T.b 0 := q; have l2 := (HT.out.l2 0 (by omega)); rw [← e9] at l2; have := HT.out.l1; omega); (have e9 : T.t = T.m 0 := q; have l2 := (HT.out.l2 0 (by omega)); rw [← e9] at l2; have := HT.out.l1; omega))).trans (HT.out.cP (i := 0) (by omega)).1; go_simp; try rfl
  simp only [Act.put, List.setIfInBounds_toArray, List.set_cons_zero, List.set_cons_succ]
  refine take_at 6 (some 64) (v := ?_) rfl rfl (by kernel_rfl) (by kernel_rfl) (by kernel_rfl) (fun _ _ _ h => h) ⟨by rfl, ?_⟩ hS ?_
  rotate_left
  · intro wq hSw; go_simp; try rfl
  simp only [Act.put, List.setIfInBounds_toArray, List.set_cons_zero, List.set_cons_succ]
  refine take_at 7 (some 65) (v := ?_) rfl rfl (by kernel_rfl) (by kernel_rfl) (by kernel_rfl) (fun _ _ _ h => h) ⟨by rfl, ?_⟩ hS ?_
  rotate_left
  · intro wq hSw; have q := ((HX.out.keep hSw (fun q => by have hl := HLT.out; rcases q with q | q; (have e9 : bx = T.b 0 := q; omega); (have e9 : bx = T.m 0 := q; omega))).get 2 _ rfl).1; go_simp; try rfl
  simp only [Act.put, List.setIfInBounds_toArray, List.set_cons_zero, List.set_cons_succ]
  refine wpAnyH_ready (rs := [8]) (by kernel_rfl) (by simp) ?_
  refine AllReadyH.cons rfl (fun K hK => ?_) AllReadyH.nil
  go_simp
  go_wp2_with fail
  refine KB.mono ?_
  rintro e w2 ⟨rfl, pt, kp⟩
  have P2 := hide pt
  have K2 := hide (hS.trans kp (fun _ _ q => q))
  clear pt kp hS KB
  go_wp2_with fail
  refine hK.out _ _ K2.out (fun hS => ?_)
  clear hK K
  (try simp only [Act.put, List.setIfInBounds_toArray, List.set_cons_zero, List.set_cons_succ])
  refine take_at 9 (some 57) (v := ?_) rfl rfl (by kernel_rfl) (by kernel_rfl) (by kernel_rfl) (fun _ _ _ h => h) ⟨by rfl, ?_⟩ hS ?_
  rotate_left
  · intro wq hSw; go_simp; try rfl
  simp only [Act.put, List.setIfInBounds_toArray, List.set_cons_zero, List.set_cons_succ]
  refine take_at 10 (some 67) (v := ?_) rfl rfl (by kernel_rfl) (by kernel_rfl) (by kernel_rfl) (fun _ _ _ h => h) ⟨by rfl, ?_⟩ hS ?_
  rotate_left
  · intro wq hSw; go_simp; try rfl
  simp only [Act.put, List.setIfInBounds_toArray, List.set_cons_zero, List.set_cons_succ]
  refine take_at 11 (some 68) (v := ?_) rfl rfl (by kernel_rfl) (by kernel_rfl) (by kernel_rfl) (fun _ _ _ h => h) ⟨by rfl, ?_⟩ hS ?_
  rotate_left
  · intro wq hSw; go_simp; try rfl
  simp only [Act.put, List.setIfInBounds_toArray, List.set_cons_zero, List.set_cons_succ]
  refine take_at 12 (some 10) (v := ?_) rfl rfl (by kernel_rfl) (by kernel_rfl) (by kernel_rfl) (fun _ _ _ h => h) ⟨by rfl, ?_⟩ hS ?_
  rotate_left
  · intro wq hSw; go_simp; try rfl
  simp only [Act.put, List.setIfInBounds_toArray, List.set_cons_zero, List.set_cons_succ]
  refine take_at 13 (some 11) (v := ?_) rfl rfl (by kernel_rfl) (by kernel_rfl) (by kernel_rfl) (fun _ _ _ h => h) ⟨by rfl, ?_⟩ hS ?_
  rotate_left
  · intro wq hSw; go_simp; try rfl
  simp only [Act.put, List.setIfInBounds_toArray, List.set_cons_zero, List.set_cons_succ]
  clear hS
  refine wpAnyH_done (by kernel_rfl) ?_ _
  have TB2 := hide (HT.out.took (i := 0) (by omega) P2.out K2.out)
  have HX2 := hide (HX.out.keep K2.out (fun q => by have hl := HLT.out; rcases q with q | q; (have e9 : bx = T.b 0 := q; omega); (have e9 : bx = T.m 0 := q; omega)))
  have B2 := hide (show Below B w w2 from HBB.out.trans (K2.out.below (Nat.le_trans HBS.out HB.out.size) (fun z hz q => by have lo := HT.out.low.2 0 (by omega); rcases q with q | q; (have e9 : z = T.b 0 := q; omega); (have e9 : z = T.m 0 := q; omega))))
  have KR := rBegin_any B (T.c 0) (T.v 0) (T.rq 0) n w2.drew ((TB2.out.below (Below.refl _ _).drew).rr 0 (by omega))
  rw [← HQ.out 0 (by omega), ← HE.out.1, ← HE.out.2.1, ← HE.out.2.2] at KR
  have SZ2 := hide (Nat.le_trans HB.out.size K2.out.size)
  clear P2 K2
  go_upto_region 15 with fail
  refine wp_region_held_drew (S := fun wq => Keep (fun z => z = T.c 0 ∨ (T.v 0).ownBlock = some z) w2 wq) (by kernel_rfl) (Keep.refl _ _).drew (fun hS => ?_)
  refine take_at 0 (some 70) (v := ?_) rfl rfl (by kernel_rfl) (by kernel_rfl) (by kernel_rfl) (fun _ _ _ h => h) ⟨by rfl, ?_⟩ hS ?_
  rotate_left
  · intro wq hSw; go_simp; try rfl
  simp only [Act.put, List.setIfInBounds_toArray, List.set_cons_zero, List.set_cons_succ]
  refine take_at 1 (some 71) (v := ?_) rfl rfl (by kernel_rfl) (by kernel_rfl) (by kernel_rfl) (fun _ _ _ h => h) ⟨by rfl, ?_⟩ hS ?_
  rotate_left
  · intro wq hSw; go_simp; try rfl
  simp only [Act.put, List.setIfInBounds_toArray, List.set_cons_zero, List.set_cons_succ]
  refine take_at 2 (some 72) (v := ?_) rfl rfl (by kernel_rfl) (by kernel_rfl) (by kernel_rfl) (fun _ _ _ h => h) ⟨by rfl, ?_⟩ hS ?_
  rotate_left
  · intro wq hSw; go_simp; try rfl
  simp only [Act.put, List.setIfInBounds_toArray, List.set_cons_zero, List.set_cons_succ]
  refine take_at 3 (some 73) (v := ?_) rfl rfl (by kernel_rfl) (by kernel_rfl) (by kernel_rfl) (fun _ _ _ h => h) ⟨by rfl, ?_⟩ hS ?_
  rotate_left
  · intro wq hSw; go_simp; try rfl
  simp only [Act.put, List.setIfInBounds_toArray, List.set_cons_zero, List.set_cons_succ]
  refine take_at 4 (some 74) (v := ?_) rfl rfl (by kernel_rfl) (by kernel_rfl) (by kernel_rfl) (fun _ _ _ h => h) ⟨by rfl, ?_⟩ hS ?_
  rotate_left
  · intro wq hSw; go_simp; try rfl
  simp only [Act.put, List.setIfInBounds_toArray, List.set_cons_zero, List.set_cons_succ]
  refine take_at 5 (some 75) (v := ?_) rfl rfl (by kernel_rfl) (by kernel_rfl) (by kernel_rfl) (fun _ _ _ h => h) ⟨by rfl, ?_⟩ hS ?_
  rotate_left
  · intro wq hSw; have q : wq.cell? ⟨T.t, 2 + 0, none⟩ = some (ptr (T.c 0)) := (hSw.cell (p := ⟨T.t, 2 + 0, none⟩) TB2.out.box.1 (fun q => by have hl := HLT.out; rcases q with q | q; (have e9 : T.t = T.c 0 := q; have l2 := (HT.out.l4 0 (by omega)).1; rw [← e9] at l2; have := HT.out.l1; omega); (have e9 : (T.v 0).ownBlock = some T.t := q; have l9 := HLT.out.2.2.2.2 _ e9; have l2 := (HT.out.l4 0 (by omega)).2 _ e9; have := HT.out.l1; omega))).trans (TB2.out.cR (i := 0) (by omega)).1; go_simp; try rfl
  simp only [Act.put, List.setIfInBounds_toArray, List.set_cons_zero, List.set_cons_succ]
  refine take_at 6 (some 76) (v := ?_) rfl rfl (by kernel_rfl) (by kernel_rfl) (by kernel_rfl) (fun _ _ _ h => h) ⟨by rfl, ?_⟩ hS ?_
  rotate_left
  · intro wq hSw; go_simp; try rfl
  simp only [Act.put, List.setIfInBounds_toArray, List.set_cons_zero, List.set_cons_succ]
  refine take_at 7 (some 77) (v := ?_) rfl rfl (by kernel_rfl) (by kernel_rfl) (by kernel_rfl) (fun _ _ _ h => h) ⟨by rfl, ?_⟩ hS ?_
  rotate_left
  · intro wq hSw; have q := ((HX2.out.keep hSw (fun q => by have hl := HLT.out; rcases q with q | q; (have e9 : bx = T.c 0 := q; omega); (have e9 : (T.v 0).ownBlock = some bx := q; have l9 := HLT.out.2.2.2.2 _ e9; omega))).get 2 _ rfl).1; go_simp; try rfl
  simp only [Act.put, List.setIfInBounds_toArray, List.set_cons_zero, List.set_cons_succ]
  refine wpAnyH_ready (rs := [8]) (by kernel_rfl) (by simp) ?_
  refine AllReadyH.cons rfl (fun K hK => ?_) AllReadyH.nil
  go_simp
  go_wp2_with fail
  refine KR.mono ?_
  rintro e w3 ⟨rfl, rp⟩
  have RP3 := hide rp
  obtain ⟨v9, h91, h92, k9⟩ := rp
  have K3 := hide (hS.trans k9 (fun _ _ q => q))
  clear v9 h91 h92 k9 hS KR
  go_wp2_with fail
  refine hK.out _ _ K3.out (fun hS => ?_)
  clear hK K
  (try simp only [Act.put, List.setIfInBounds_toArray, List.set_cons_zero, List.set_cons_succ])
  refine take_at 9 (some 69) (v := ?_) rfl rfl (by kernel_rfl) (by kernel_rfl) (by kernel_rfl) (fun _ _ _ h => h) ⟨by rfl, ?_⟩ hS ?_
  rotate_left
  · intro wq hSw; go_simp; try rfl
  simp only [Act.put, List.setIfInBounds_toArray, List.set_cons_zero, List.set_cons_succ]
  refine take_at 10 (some 79) (v := ?_) rfl rfl (by kernel_rfl) (by kernel_rfl) (by kernel_rfl) (fun _ _ _ h => h) ⟨by rfl, ?_⟩ hS ?_
  rotate_left
  · intro wq hSw; go_simp; try rfl
  simp only [Act.put, List.setIfInBounds_toArray, List.set_cons_zero, List.set_cons_succ]
  refine take_at 11 (some 80) (v := ?_) rfl rfl (by kernel_rfl) (by kernel_rfl) (by kernel_rfl) (fun _ _ _ h => h) ⟨by rfl, ?_⟩ hS ?_
  rotate_left
  · intro wq hSw; go_simp; try rfl
  simp only [Act.put, List.setIfInBounds_toArray, List.set_cons_zero, List.set_cons_succ]
  refine take_at 12 (some 12) (v := ?_) rfl rfl (by kernel_rfl) (by kernel_rfl) (by kernel_rfl) (fun _ _ _ h => h) ⟨by rfl, ?_⟩ hS ?_
  rotate_left
  · intro wq hSw; go_simp; try rfl
  simp only [Act.put, List.setIfInBounds_toArray, List.set_cons_zero, List.set_cons_succ]
  refine take_at 13 (some 13) (v := ?_) rfl rfl (by kernel_rfl) (by kernel_rfl) (by kernel_rfl) (fun _ _ _ h => h) ⟨by rfl, ?_⟩ hS ?_
  rotate_left
  · intro wq hSw; go_simp; try rfl
  simp only [Act.put, List.setIfInBounds_toArray, List.set_cons_zero, List.set_cons_succ]
  clear hS
  refine wpAnyH_done (by kernel_rfl) ?_ _
  go_wp2_with (first | (go_at_call 7; refine (num_eq _ _).mono ?_; rintro e wz ⟨rfl, rfl⟩))
  go_ret
  obtain ⟨v', tb, kk⟩ := TB2.out.rtookP (i := 0) (by omega) (RPost.belowL ((Below.refl _ _).drew) RP3.out)
  refine ⟨by first | rfl | simp, _, _, tb, fun j hj => ?_, rfl, B2.out.trans (K3.out.below (Nat.le_trans HBS.out SZ2.out) (fun z hz q => by rcases q with q | q; (have e9 : z = T.c 0 := q; have lo : B ≤ T.c 0 := (TB2.out.rr 0 (by omega)).low; omega); (have lo : B ≤ z := (World.ownsRow.lt (TB2.out.rr 0 (by omega)).row z q).1; omega))), by show T.ls.length ≤ _; omega⟩
  show upd T.rp 0 r1 j = upd T.rq 0 r1 j
  by_cases q : j = 0
  · rw [q, upd_same, upd_same]
  · rw [upd_other _ _ q, upd_other _ _ q]; exact HQ.out j hj
end Go.Proofs.Ytokcocmenndlmaa
