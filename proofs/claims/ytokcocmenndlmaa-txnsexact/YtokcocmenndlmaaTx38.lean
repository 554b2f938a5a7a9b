import Derived.Test.YtokcocmenndlmaaTx37
namespace Go.Proofs.Ytokcocmenndlmaa
open Go.RowKit Go.QK Go.Maps Go.QM Go.QT
set_option maxRecDepth 100000
theorem getV_form (L : List Lv) (k : Int) : ∃ x : Lv, getV L k = .agg #[.int .i64 x.tx, .int .i64 x.last, .bool x.com, .bool x.und] := by
  unfold getV
  cases getT L k with
  | none => exact ⟨⟨0, 0, false, false⟩, rfl⟩
  | some x => exact ⟨x, rfl⟩
set_option maxHeartbeats 8000000 in
theorem play5_t (lab : Nat → Nat) (B : Nat) (T : Tab) (n lsn k tx prev z4 z5 z6 z7 z8 z9 z10 z11 z12 z13 nx pnx : Int) (la da pla pda : Option Addr) (lc dc plc pdc : Nat) (L PL : List Lv) (D PD : List (Int × Int)) (w : World) (h : Tb lab w B T) (he : ∀ j, j < 2 → T.rp j = T.rq j) (ha : Arg B w n tx la da pla pda lc dc plc pdc L PL D PD) (_hm : T.ls.length + 2 ≤ 100000) :
    Calls Try.prog 21 #[ptr T.t, .agg (List.toArray [.int .i64 5, .bool true, .int .i64 n, .int .i64 lsn, .int .i64 k, .int .i64 tx, .int .i64 prev, .int .i64 z4, .int .i64 z5, .int .i64 z6, .int .i64 z7, .int .i64 z8, .int .i64 z9, .int .i64 z10, .int .i64 z11, .int .i64 z12, .int .i64 z13, .slice la L.length lc, .slice da D.length dc, .int .i64 nx, .slice pla PL.length plc, .slice pda PD.length pdc, .int .i64 pnx])] w (TPost 2 w B T) := by
  have HBS := hide (show B ≤ w.heap.size by have := h.low.1; have := h.box.1; omega)
  have HQ := hide he
  have HT0 := hide h
  have HA := hide ha
  clear h he ha
  go_enter Try.func21, Try.ntmps21
  go_upto_region 1 with fail
  refine named (P := Code.wp _ _ _ _) ?_
  intro w1 hw1
  obtain ⟨bx, hbx⟩ : ∃ b, b = w.heap.size := ⟨_, rfl⟩
  have HX := hide (show Cells w1 bx [.int .i64 5, .bool true, .int .i64 n, .int .i64 lsn, .int .i64 k, .int .i64 tx, .int .i64 prev, .int .i64 z4, .int .i64 z5, .int .i64 z6, .int .i64 z7, .int .i64 z8, .int .i64 z9, .int .i64 z10, .int .i64 z11, .int .i64 z12, .int .i64 z13, .slice la L.length lc, .slice da D.length dc, .int .i64 nx, .slice pla PL.length plc, .slice pda PD.length pdc, .int .i64 pnx] by rw [hw1, hbx]; exact Cells.new w _ _)
  have HB := hide (show Below w.heap.size w w1 by rw [hw1]; exact alloc_below _ _)
  have HBB := hide (HB.out.mono HBS.out)
  have HT := hide (HT0.out.below HB.out)
  rw [← hbx]
  clear hw1 hbx HT0
  obtain ⟨v0, -⟩ := HX.out.get 0 _ rfl
  obtain ⟨v1, -⟩ := HX.out.get 1 _ rfl
  obtain ⟨v2, -⟩ := HX.out.get 2 _ rfl
  obtain ⟨x, hx⟩ := getV_form (T.rp 1).L n
  obtain ⟨E0, hE0⟩ : ∃ x, x = getE (T.rp 1).L n := ⟨_, rfl⟩
  have KG := fun w' (h : Below w1.heap.size w1 w') => get_any (T.b 1) (T.m 1) (T.rp 1) n w' ((HT.out.below h).pr 1 (by omega)) HA.out.n64
  have KR := fun w' (h : Below w1.heap.size w1 w') => rget_any B (T.c 1) (T.v 1) (T.rq 1) n w' ((HT.out.below h).rr 1 (by omega))
  simp only [← HQ.out 1 (by omega)] at KR
  simp only [hx, ← hE0] at KG KR
  obtain ⟨x1, x2, x3, x4⟩ := x
  simp only at KG KR
  clear hx hE0 v2
  go_upto_region 18 with fail
  go_cut [14, 15] (fun v e w' => ∃ g, v = ptr g ∧ e = .int .i64 E0 ∧ Cells w' g [.int .i64 x1, .int .i64 x2, .bool x3, .bool x4] ∧ Below w1.heap.size w1 w')
  case first =>
    have HW := hide (alloc_below w1.drew (.cells #[.int .i64 0, .int .i64 0, .bool false, .bool false] 26))
    refine wp_region_held_drew (S := fun wq => Below w1.heap.size w1 wq) (by kernel_rfl) (Below.refl _ _).drew (fun hS => ?_)
    refine take_at 0 (some 93) (v := ?_) rfl rfl (by kernel_rfl) (by kernel_rfl) (by kernel_rfl) (fun _ _ _ h => h) ⟨by rfl, ?_⟩ hS ?_
    rotate_left
    · intro wq hSw; go_simp; try rfl
    simp only [Act.put, List.setIfInBounds_toArray, List.set_cons_zero, List.set_cons_succ]
    refine take_at 1 (some 94) (v := ?_) rfl rfl (by kernel_rfl) (by kernel_rfl) (by kernel_rfl) (fun _ _ _ h => h) ⟨by rfl, ?_⟩ hS ?_
    rotate_left
    · intro wq hSw; go_simp; try rfl
    simp only [Act.put, List.setIfInBounds_toArray, List.set_cons_zero, List.set_cons_succ]
    refine take_at 2 (some 95) (v := ?_) rfl rfl (by kernel_rfl) (by kernel_rfl) (by kernel_rfl) (fun _ _ _ h => h) ⟨by rfl, ?_⟩ hS ?_
    rotate_left
    · intro wq hSw; go_simp; try rfl
    simp only [Act.put, List.setIfInBounds_toArray, List.set_cons_zero, List.set_cons_succ]
    refine take_at 3 (some 96) (v := ?_) rfl rfl (by kernel_rfl) (by kernel_rfl) (by kernel_rfl) (fun _ _ _ h => h) ⟨by rfl, ?_⟩ hS ?_
    rotate_left
    · intro wq hSw; go_simp; try rfl
    simp only [Act.put, List.setIfInBounds_toArray, List.set_cons_zero, List.set_cons_succ]
    refine take_at 4 (some 97) (v := ?_) rfl rfl (by kernel_rfl) (by kernel_rfl) (by kernel_rfl) (fun _ _ _ h => h) ⟨by rfl, ?_⟩ hS ?_
    rotate_left
    · intro wq hSw; go_simp; try rfl
    simp only [Act.put, List.setIfInBounds_toArray, List.set_cons_zero, List.set_cons_succ]
    refine take_at 5 (some 98) (v := ?_) rfl rfl (by kernel_rfl) (by kernel_rfl) (by kernel_rfl) (fun _ _ _ h => h) ⟨by rfl, ?_⟩ hS ?_
    rotate_left
    · intro wq hSw; have q := ((HT.out.below hSw).cP (i := 1) (by omega)).1; go_simp; try rfl
    simp only [Act.put, List.setIfInBounds_toArray, List.set_cons_zero, List.set_cons_succ]
    refine take_at 6 (some 99) (v := ?_) rfl rfl (by kernel_rfl) (by kernel_rfl) (by kernel_rfl) (fun _ _ _ h => h) ⟨by rfl, ?_⟩ hS ?_
    rotate_left
    · intro wq hSw; go_simp; try rfl
    simp only [Act.put, List.setIfInBounds_toArray, List.set_cons_zero, List.set_cons_succ]
    refine take_at 7 (some 100) (v := ?_) rfl rfl (by kernel_rfl) (by kernel_rfl) (by kernel_rfl) (fun _ _ _ h => h) ⟨by rfl, ?_⟩ hS ?_
    rotate_left
    · intro wq hSw; have q := ((HX.out.below hSw).get 2 _ rfl).1; go_simp; try rfl
    simp only [Act.put, List.setIfInBounds_toArray, List.set_cons_zero, List.set_cons_succ]
    have DC0 := hide hS
    clear hS
    generalize w1.drew = xd at *
    refine wpAnyH_ready (rs := [8, 12]) (by kernel_rfl) (by simp) ?_
    refine AllReadyH.cons rfl (fun K hK => ?_) (AllReadyH.cons rfl (fun K hK => ?_) AllReadyH.nil)
    · go_simp
      go_wp2_with fail
      refine (KG _ DC0.out).mono ?_
      rintro e y2 ⟨rfl, hh⟩
      have DC := hide (DC0.out.trans (hh.mono DC0.out.size))
      clear hh
      go_wp2_with fail
      refine hK.out _ _ DC.out (fun hS => ?_)
      clear hK K
      (try simp only [Act.put, List.setIfInBounds_toArray, List.set_cons_zero, List.set_cons_succ])
      refine take_at 9 (some 92) (v := ?_) rfl rfl (by kernel_rfl) (by kernel_rfl) (by kernel_rfl) (fun _ _ _ h => h) ⟨by rfl, ?_⟩ hS ?_
      rotate_left
      · intro wq hSw; go_simp; try rfl
      simp only [Act.put, List.setIfInBounds_toArray, List.set_cons_zero, List.set_cons_succ]
      refine take_at 10 (some 102) (v := ?_) rfl rfl (by kernel_rfl) (by kernel_rfl) (by kernel_rfl) (fun _ _ _ h => h) ⟨by rfl, ?_⟩ hS ?_
      rotate_left
      · intro wq hSw; go_simp; try rfl
      simp only [Act.put, List.setIfInBounds_toArray, List.set_cons_zero, List.set_cons_succ]
      refine take_at 11 (some 103) (v := ?_) rfl rfl (by kernel_rfl) (by kernel_rfl) (by kernel_rfl) (fun _ _ _ h => h) ⟨by rfl, ?_⟩ hS ?_
      rotate_left
      · intro wq hSw; go_simp; try rfl
      simp only [Act.put, List.setIfInBounds_toArray, List.set_cons_zero, List.set_cons_succ]
      obtain ⟨xa, hxa⟩ : ∃ y, y = World.alloc y2 (.cells #[.int .i64 0, .int .i64 0, .bool false, .bool false] 26) := ⟨_, rfl⟩
      obtain ⟨ga, hga⟩ : ∃ y, y = y2.heap.size := ⟨_, rfl⟩
      have CZa := hide (show Cells xa ga [.int .i64 0, .int .i64 0, .bool false, .bool false] by rw [hxa, hga]; exact Cells.new _ _ _)
      have DAa := hide (show Below w1.heap.size w1 xa by rw [hxa]; exact DC.out.alloc DC.out.size _)
      have GBa := hide (show w1.heap.size ≤ ga by rw [hga]; exact DC.out.size)
      have HXA := hide hxa
      have HGA := hide hga
      clear hxa hga
      refine wpAnyH_ready (rs := [12]) (by kernel_rfl) (by simp) ?_
      refine AllReadyH.cons rfl (fun K hK => ?_) AllReadyH.nil
      go_simp
      go_wp2_with fail
      rw [← HXA.out, ← HGA.out]
      refine hK.out _ _ DAa.out (fun hS => ?_)
      clear hK K
      (try simp only [Act.put, List.setIfInBounds_toArray, List.set_cons_zero, List.set_cons_succ])
      obtain ⟨z0, f0⟩ := CZa.out.get 0 _ rfl
      obtain ⟨z1, f1⟩ := CZa.out.get 1 _ rfl
      obtain ⟨z2, f2⟩ := CZa.out.get 2 _ rfl
      obtain ⟨z3, f3⟩ := CZa.out.get 3 _ rfl
      have KS := hide (((((Keep.refl (fun z => z = ga) xa).setCell (g := ga) (j := 0) (fun _ => rfl) (.int .i64 x1)).setCell (g := ga) (j := 1) (fun _ => rfl) (.int .i64 x2)).setCell (g := ga) (j := 2) (fun _ => rfl) (.bool x3)).setCell (g := ga) (j := 3) (fun _ => rfl) (.bool x4))
      have CS := hide ((((CZa.out.stored (j := 0) (by simp) (.int .i64 x1)).stored (j := 1) (by simp) (.int .i64 x2)).stored (j := 2) (by simp) (.bool x3)).stored (j := 3) (by simp) (.bool x4))
      have DS := hide (DAa.out.trans (KS.out.below DAa.out.size (fun z hz q => by have e9 : z = ga := q; have := GBa.out; omega)))
      refine wpAnyH_ready (rs := [13]) (by kernel_rfl) (by simp) ?_
      refine AllReadyH.cons rfl (fun K hK => ?_) AllReadyH.nil
      go_simp
      go_wp2_with fail
      refine hK.out _ _ DS.out (fun hS => ?_)
      clear hK K
      (try simp only [Act.put, List.setIfInBounds_toArray, List.set_cons_zero, List.set_cons_succ])
      refine take_at 14 (some 15) (v := ?_) rfl rfl (by kernel_rfl) (by kernel_rfl) (by kernel_rfl) (fun _ _ _ h => h) ⟨by rfl, ?_⟩ hS ?_
      rotate_left
      · intro wq hSw; go_simp; try rfl
      simp only [Act.put, List.setIfInBounds_toArray, List.set_cons_zero, List.set_cons_succ]
      clear hS
      refine wpAnyH_done (by kernel_rfl) ?_ _
      go_wp2_with fail
      go_meet
      exact ⟨ga, rfl, rfl, by simpa using CS.out, DS.out⟩
    · have DC := DC0
      obtain ⟨xb, hxb⟩ : ∃ y, y = World.alloc xd (.cells #[.int .i64 0, .int .i64 0, .bool false, .bool false] 26) := ⟨_, rfl⟩
      obtain ⟨gb, hgb⟩ : ∃ y, y = xd.heap.size := ⟨_, rfl⟩
      have CZb := hide (show Cells xb gb [.int .i64 0, .int .i64 0, .bool false, .bool false] by rw [hxb, hgb]; exact Cells.new _ _ _)
      have DAb := hide (show Below w1.heap.size w1 xb by rw [hxb]; exact DC.out.alloc DC.out.size _)
      have GBb := hide (show w1.heap.size ≤ gb by rw [hgb]; exact DC.out.size)
      have HXA := hide hxb
      have HGA := hide hgb
      clear hxb hgb
      go_simp
      go_wp2_with fail
      rw [← HXA.out, ← HGA.out]
      refine hK.out _ _ DAb.out (fun hS => ?_)
      clear hK K hS
      (try simp only [Act.put, List.setIfInBounds_toArray, List.set_cons_zero, List.set_cons_succ])
      refine wpAnyH_ready (rs := [8]) (by kernel_rfl) (by simp) ?_
      refine AllReadyH.cons rfl (fun K hK => ?_) AllReadyH.nil
      go_simp
      go_wp2_with fail
      refine (KG _ DAb.out).mono ?_
      rintro e y2 ⟨rfl, hh⟩
      have DD := hide (DAb.out.trans (hh.mono DAb.out.size))
      have CZc := hide (CZb.out.below hh)
      clear hh
      go_wp2_with fail
      refine hK.out _ _ DD.out (fun hS => ?_)
      clear hK K
      (try simp only [Act.put, List.setIfInBounds_toArray, List.set_cons_zero, List.set_cons_succ])
      refine take_at 9 (some 92) (v := ?_) rfl rfl (by kernel_rfl) (by kernel_rfl) (by kernel_rfl) (fun _ _ _ h => h) ⟨by rfl, ?_⟩ hS ?_
      rotate_left
      · intro wq hSw; go_simp; try rfl
      simp only [Act.put, List.setIfInBounds_toArray, List.set_cons_zero, List.set_cons_succ]
      refine take_at 10 (some 102) (v := ?_) rfl rfl (by kernel_rfl) (by kernel_rfl) (by kernel_rfl) (fun _ _ _ h => h) ⟨by rfl, ?_⟩ hS ?_
      rotate_left
      · intro wq hSw; go_simp; try rfl
      simp only [Act.put, List.setIfInBounds_toArray, List.set_cons_zero, List.set_cons_succ]
      refine take_at 11 (some 103) (v := ?_) rfl rfl (by kernel_rfl) (by kernel_rfl) (by kernel_rfl) (fun _ _ _ h => h) ⟨by rfl, ?_⟩ hS ?_
      rotate_left
      · intro wq hSw; go_simp; try rfl
      simp only [Act.put, List.setIfInBounds_toArray, List.set_cons_zero, List.set_cons_succ]
      obtain ⟨z0, f0⟩ := CZc.out.get 0 _ rfl
      obtain ⟨z1, f1⟩ := CZc.out.get 1 _ rfl
      obtain ⟨z2, f2⟩ := CZc.out.get 2 _ rfl
      obtain ⟨z3, f3⟩ := CZc.out.get 3 _ rfl
      have KS := hide (((((Keep.refl (fun z => z = gb) y2).setCell (g := gb) (j := 0) (fun _ => rfl) (.int .i64 x1)).setCell (g := gb) (j := 1) (fun _ => rfl) (.int .i64 x2)).setCell (g := gb) (j := 2) (fun _ => rfl) (.bool x3)).setCell (g := gb) (j := 3) (fun _ => rfl) (.bool x4))
      have CS := hide ((((CZc.out.stored (j := 0) (by simp) (.int .i64 x1)).stored (j := 1) (by simp) (.int .i64 x2)).stored (j := 2) (by simp) (.bool x3)).stored (j := 3) (by simp) (.bool x4))
      have DS := hide (DD.out.trans (KS.out.below DD.out.size (fun z hz q => by have e9 : z = gb := q; have := GBb.out; omega)))
      refine wpAnyH_ready (rs := [13]) (by kernel_rfl) (by simp) ?_
      refine AllReadyH.cons rfl (fun K hK => ?_) AllReadyH.nil
      go_simp
      go_wp2_with fail
      refine hK.out _ _ DS.out (fun hS => ?_)
      clear hK K
      (try simp only [Act.put, List.setIfInBounds_toArray, List.set_cons_zero, List.set_cons_succ])
      refine take_at 14 (some 15) (v := ?_) rfl rfl (by kernel_rfl) (by kernel_rfl) (by kernel_rfl) (fun _ _ _ h => h) ⟨by rfl, ?_⟩ hS ?_
      rotate_left
      · intro wq hSw; go_simp; try rfl
      simp only [Act.put, List.setIfInBounds_toArray, List.set_cons_zero, List.set_cons_succ]
      clear hS
      refine wpAnyH_done (by kernel_rfl) ?_ _
      go_wp2_with fail
      go_meet
      exact ⟨gb, rfl, rfl, by simpa using CS.out, DS.out⟩
  case rest =>
    obtain ⟨g1, rfl, rfl, c1, hb1⟩ := hcut
    obtain ⟨wy, hwy⟩ : ∃ x, x = wc := ⟨_, rfl⟩
    rw [← hwy] at c1 hb1 ⊢
    have C1 := hide c1
    have B1 := hide hb1
    have HXY := hide (HX.out.below hb1)
    clear hwy c1 hb1
    have KR2 := fun w' (h : Below wy.heap.size wy w') => KR w' (B1.out.trans (h.mono B1.out.size))
    clear KR KG
    go_upto_region 19 with fail
    go_cut [16, 17] (fun v e w' => ∃ g, v = ptr g ∧ e = .int .i64 E0 ∧ Cells w' g [.int .i64 x1, .int .i64 x2, .bool x3, .bool x4] ∧ Below wy.heap.size wy w')
    case first =>
      have HW := hide (alloc_below wy.drew (.cells #[.int .i64 0, .int .i64 0, .bool false, .bool false] 26))
      refine wp_region_held_drew (S := fun wq => Below wy.heap.size wy wq) (by kernel_rfl) (Below.refl _ _).drew (fun hS => ?_)
      refine take_at 0 (some 105) (v := ?_) rfl rfl (by kernel_rfl) (by kernel_rfl) (by kernel_rfl) (fun _ _ _ h => h) ⟨by rfl, ?_⟩ hS ?_
      rotate_left
      · intro wq hSw; go_simp; try rfl
      simp only [Act.put, List.setIfInBounds_toArray, List.set_cons_zero, List.set_cons_succ]
      refine take_at 1 (some 106) (v := ?_) rfl rfl (by kernel_rfl) (by kernel_rfl) (by kernel_rfl) (fun _ _ _ h => h) ⟨by rfl, ?_⟩ hS ?_
      rotate_left
      · intro wq hSw; go_simp; try rfl
      simp only [Act.put, List.setIfInBounds_toArray, List.set_cons_zero, List.set_cons_succ]
      refine take_at 2 (some 107) (v := ?_) rfl rfl (by kernel_rfl) (by kernel_rfl) (by kernel_rfl) (fun _ _ _ h => h) ⟨by rfl, ?_⟩ hS ?_
      rotate_left
      · intro wq hSw; go_simp; try rfl
      simp only [Act.put, List.setIfInBounds_toArray, List.set_cons_zero, List.set_cons_succ]
      refine take_at 3 (some 108) (v := ?_) rfl rfl (by kernel_rfl) (by kernel_rfl) (by kernel_rfl) (fun _ _ _ h => h) ⟨by rfl, ?_⟩ hS ?_
      rotate_left
      · intro wq hSw; go_simp; try rfl
      simp only [Act.put, List.setIfInBounds_toArray, List.set_cons_zero, List.set_cons_succ]
      refine take_at 4 (some 109) (v := ?_) rfl rfl (by kernel_rfl) (by kernel_rfl) (by kernel_rfl) (fun _ _ _ h => h) ⟨by rfl, ?_⟩ hS ?_
      rotate_left
      · intro wq hSw; go_simp; try rfl
      simp only [Act.put, List.setIfInBounds_toArray, List.set_cons_zero, List.set_cons_succ]
      refine take_at 5 (some 110) (v := ?_) rfl rfl (by kernel_rfl) (by kernel_rfl) (by kernel_rfl) (fun _ _ _ h => h) ⟨by rfl, ?_⟩ hS ?_
      rotate_left
      · intro wq hSw; have q := ((HT.out.below (B1.out.trans (hSw.mono B1.out.size))).cR (i := 1) (by omega)).1; go_simp; try rfl
      simp only [Act.put, List.setIfInBounds_toArray, List.set_cons_zero, List.set_cons_succ]
      refine take_at 6 (some 111) (v := ?_) rfl rfl (by kernel_rfl) (by kernel_rfl) (by kernel_rfl) (fun _ _ _ h => h) ⟨by rfl, ?_⟩ hS ?_
      rotate_left
      · intro wq hSw; go_simp; try rfl
      simp only [Act.put, List.setIfInBounds_toArray, List.set_cons_zero, List.set_cons_succ]
      refine take_at 7 (some 112) (v := ?_) rfl rfl (by kernel_rfl) (by kernel_rfl) (by kernel_rfl) (fun _ _ _ h => h) ⟨by rfl, ?_⟩ hS ?_
      rotate_left
      · intro wq hSw; have q := ((HXY.out.below hSw).get 2 _ rfl).1; go_simp; try rfl
      simp only [Act.put, List.setIfInBounds_toArray, List.set_cons_zero, List.set_cons_succ]
      have DC0 := hide hS
      clear hS
      generalize wy.drew = xd at *
      refine wpAnyH_ready (rs := [8, 12]) (by kernel_rfl) (by simp) ?_
      refine AllReadyH.cons rfl (fun K hK => ?_) (AllReadyH.cons rfl (fun K hK => ?_) AllReadyH.nil)
      · go_simp
        go_wp2_with fail
        refine (KR2 _ DC0.out).mono ?_
        rintro e y2 ⟨rfl, hh⟩
        have DC := hide (DC0.out.trans (hh.mono DC0.out.size))
        clear hh
        go_wp2_with fail
        refine hK.out _ _ DC.out (fun hS => ?_)
        clear hK K
        (try simp only [Act.put, List.setIfInBounds_toArray, List.set_cons_zero, List.set_cons_succ])
        refine take_at 9 (some 104) (v := ?_) rfl rfl (by kernel_rfl) (by kernel_rfl) (by kernel_rfl) (fun _ _ _ h => h) ⟨by rfl, ?_⟩ hS ?_
        rotate_left
        · intro wq hSw; go_simp; try rfl
        simp only [Act.put, List.setIfInBounds_toArray, List.set_cons_zero, List.set_cons_succ]
        refine take_at 10 (some 114) (v := ?_) rfl rfl (by kernel_rfl) (by kernel_rfl) (by kernel_rfl) (fun _ _ _ h => h) ⟨by rfl, ?_⟩ hS ?_
        rotate_left
        · intro wq hSw; go_simp; try rfl
        simp only [Act.put, List.setIfInBounds_toArray, List.set_cons_zero, List.set_cons_succ]
        refine take_at 11 (some 115) (v := ?_) rfl rfl (by kernel_rfl) (by kernel_rfl) (by kernel_rfl) (fun _ _ _ h => h) ⟨by rfl, ?_⟩ hS ?_
        rotate_left
        · intro wq hSw; go_simp; try rfl
        simp only [Act.put, List.setIfInBounds_toArray, List.set_cons_zero, List.set_cons_succ]
        obtain ⟨xa, hxa⟩ : ∃ y, y = World.alloc y2 (.cells #[.int .i64 0, .int .i64 0, .bool false, .bool false] 26) := ⟨_, rfl⟩
        obtain ⟨ga, hga⟩ : ∃ y, y = y2.heap.size := ⟨_, rfl⟩
        have CZa := hide (show Cells xa ga [.int .i64 0, .int .i64 0, .bool false, .bool false] by rw [hxa, hga]; exact Cells.new _ _ _)
        have DAa := hide (show Below wy.heap.size wy xa by rw [hxa]; exact DC.out.alloc DC.out.size _)
        have GBa := hide (show wy.heap.size ≤ ga by rw [hga]; exact DC.out.size)
        have HXA := hide hxa
        have HGA := hide hga
        clear hxa hga
        refine wpAnyH_ready (rs := [12]) (by kernel_rfl) (by simp) ?_
        refine AllReadyH.cons rfl (fun K hK => ?_) AllReadyH.nil
        go_simp
        go_wp2_with fail
        rw [← HXA.out, ← HGA.out]
        refine hK.out _ _ DAa.out (fun hS => ?_)
        clear hK K
        (try simp only [Act.put, List.setIfInBounds_toArray, List.set_cons_zero, List.set_cons_succ])
        obtain ⟨z0, f0⟩ := CZa.out.get 0 _ rfl
        obtain ⟨z1, f1⟩ := CZa.out.get 1 _ rfl
        obtain ⟨z2, f2⟩ := CZa.out.get 2 _ rfl
        obtain ⟨z3, f3⟩ := CZa.out.get 3 _ rfl
        have KS := hide (((((Keep.refl (fun z => z = ga) xa).setCell (g := ga) (j := 0) (fun _ => rfl) (.int .i64 x1)).setCell (g := ga) (j := 1) (fun _ => rfl) (.int .i64 x2)).setCell (g := ga) (j := 2) (fun _ => rfl) (.bool x3)).setCell (g := ga) (j := 3) (fun _ => rfl) (.bool x4))
        have CS := hide ((((CZa.out.stored (j := 0) (by simp) (.int .i64 x1)).stored (j := 1) (by simp) (.int .i64 x2)).stored (j := 2) (by simp) (.bool x3)).stored (j := 3) (by simp) (.bool x4))
        have DS := hide (DAa.out.trans (KS.out.below DAa.out.size (fun z hz q => by have e9 : z = ga := q; have := GBa.out; omega)))
        refine wpAnyH_ready (rs := [13]) (by kernel_rfl) (by simp) ?_
        refine AllReadyH.cons rfl (fun K hK => ?_) AllReadyH.nil
        go_simp
        go_wp2_with fail
        refine hK.out _ _ DS.out (fun hS => ?_)
        clear hK K
        (try simp only [Act.put, List.setIfInBounds_toArray, List.set_cons_zero, List.set_cons_succ])
        refine take_at 14 (some 17) (v := ?_) rfl rfl (by kernel_rfl) (by kernel_rfl) (by kernel_rfl) (fun _ _ _ h => h) ⟨by rfl, ?_⟩ hS ?_
        rotate_left
        · intro wq hSw; go_simp; try rfl
        simp only [Act.put, List.setIfInBounds_toArray, List.set_cons_zero, List.set_cons_succ]
        clear hS
        refine wpAnyH_done (by kernel_rfl) ?_ _
        go_wp2_with fail
        go_meet
        exact ⟨ga, rfl, rfl, by simpa using CS.out, DS.out⟩
      · have DC := DC0
        obtain ⟨xb, hxb⟩ : ∃ y, y = World.alloc xd (.cells #[.int .i64 0, .int .i64 0, .bool false, .bool false] 26) := ⟨_, rfl⟩
        obtain ⟨gb, hgb⟩ : ∃ y, y = xd.heap.size := ⟨_, rfl⟩
        have CZb := hide (show Cells xb gb [.int .i64 0, .int .i64 0, .bool false, .bool false] by rw [hxb, hgb]; exact Cells.new _ _ _)
        have DAb := hide (show Below wy.heap.size wy xb by rw [hxb]; exact DC.out.alloc DC.out.size _)
        have GBb := hide (show wy.heap.size ≤ gb by rw [hgb]; exact DC.out.size)
        have HXA := hide hxb
        have HGA := hide hgb
        clear hxb hgb
        go_simp
        go_wp2_with fail
        rw [← HXA.out, ← HGA.out]
        refine hK.out _ _ DAb.out (fun hS => ?_)
        clear hK K hS
        (try simp only [Act.put, List.setIfInBounds_toArray, List.set_cons_zero, List.set_cons_succ])
        refine wpAnyH_ready (rs := [8]) (by kernel_rfl) (by simp) ?_
        refine AllReadyH.cons rfl (fun K hK => ?_) AllReadyH.nil
        go_simp
        go_wp2_with fail
        refine (KR2 _ DAb.out).mono ?_
        rintro e y2 ⟨rfl, hh⟩
        have DD := hide (DAb.out.trans (hh.mono DAb.out.size))
        have CZc := hide (CZb.out.below hh)
        clear hh
        go_wp2_with fail
        refine hK.out _ _ DD.out (fun hS => ?_)
        clear hK K
        (try simp only [Act.put, List.setIfInBounds_toArray, List.set_cons_zero, List.set_cons_succ])
        refine take_at 9 (some 104) (v := ?_) rfl rfl (by kernel_rfl) (by kernel_rfl) (by kernel_rfl) (fun _ _ _ h => h) ⟨by rfl, ?_⟩ hS ?_
        rotate_left
        · intro wq hSw; go_simp; try rfl
        simp only [Act.put, List.setIfInBounds_toArray, List.set_cons_zero, List.set_cons_succ]
        refine take_at 10 (some 114) (v := ?_) rfl rfl (by kernel_rfl) (by kernel_rfl) (by kernel_rfl) (fun _ _ _ h => h) ⟨by rfl, ?_⟩ hS ?_
        rotate_left
        · intro wq hSw; go_simp; try rfl
        simp only [Act.put, List.setIfInBounds_toArray, List.set_cons_zero, List.set_cons_succ]
        refine take_at 11 (some 115) (v := ?_) rfl rfl (by kernel_rfl) (by kernel_rfl) (by kernel_rfl) (fun _ _ _ h => h) ⟨by rfl, ?_⟩ hS ?_
        rotate_left
        · intro wq hSw; go_simp; try rfl
        simp only [Act.put, List.setIfInBounds_toArray, List.set_cons_zero, List.set_cons_succ]
        obtain ⟨z0, f0⟩ := CZc.out.get 0 _ rfl
        obtain ⟨z1, f1⟩ := CZc.out.get 1 _ rfl
        obtain ⟨z2, f2⟩ := CZc.out.get 2 _ rfl
        obtain ⟨z3, f3⟩ := CZc.out.get 3 _ rfl
        have KS := hide (((((Keep.refl (fun z => z = gb) y2).setCell (g := gb) (j := 0) (fun _ => rfl) (.int .i64 x1)).setCell (g := gb) (j := 1) (fun _ => rfl) (.int .i64 x2)).setCell (g := gb) (j := 2) (fun _ => rfl) (.bool x3)).setCell (g := gb) (j := 3) (fun _ => rfl) (.bool x4))
        have CS := hide ((((CZc.out.stored (j := 0) (by simp) (.int .i64 x1)).stored (j := 1) (by simp) (.int .i64 x2)).stored (j := 2) (by simp) (.bool x3)).stored (j := 3) (by simp) (.bool x4))
        have DS := hide (DD.out.trans (KS.out.below DD.out.size (fun z hz q => by have e9 : z = gb := q; have := GBb.out; omega)))
        refine wpAnyH_ready (rs := [13]) (by kernel_rfl) (by simp) ?_
        refine AllReadyH.cons rfl (fun K hK => ?_) AllReadyH.nil
        go_simp
        go_wp2_with fail
        refine hK.out _ _ DS.out (fun hS => ?_)
        clear hK K
        (try simp only [Act.put, List.setIfInBounds_toArray, List.set_cons_zero, List.set_cons_succ])
        refine take_at 14 (some 17) (v := ?_) rfl rfl (by kernel_rfl) (by kernel_rfl) (by kernel_rfl) (fun _ _ _ h => h) ⟨by rfl, ?_⟩ hS ?_
        rotate_left
        · intro wq hSw; go_simp; try rfl
        simp only [Act.put, List.setIfInBounds_toArray, List.set_cons_zero, List.set_cons_succ]
        clear hS
        refine wpAnyH_done (by kernel_rfl) ?_ _
        go_wp2_with fail
        go_meet
        exact ⟨gb, rfl, rfl, by simpa using CS.out, DS.out⟩
    case rest =>
      obtain ⟨g2, rfl, rfl, c2, hb2⟩ := hcut
      have C1' := hide (C1.out.below hb2)
      have C2 := hide c2
      have B2 := hide (B1.out.trans (hb2.mono B1.out.size))
      clear c2 hb2 KR2
      obtain ⟨p0, -⟩ := C1'.out.get 0 _ rfl
      obtain ⟨q0, -⟩ := C2.out.get 0 _ rfl
      obtain ⟨p1, -⟩ := C1'.out.get 1 _ rfl
      obtain ⟨q1, -⟩ := C2.out.get 1 _ rfl
      obtain ⟨p2, -⟩ := C1'.out.get 2 _ rfl
      obtain ⟨q2, -⟩ := C2.out.get 2 _ rfl
      obtain ⟨p3, -⟩ := C1'.out.get 3 _ rfl
      obtain ⟨q3, -⟩ := C2.out.get 3 _ rfl
      go_wp2_with (first | (go_at_call 7; refine (num_eq _ _).mono ?_; rintro e wz ⟨rfl, rfl⟩))
      go_ret
      exact ⟨by first | rfl | simp, lab, T, HT.out.below B2.out, HQ.out, rfl, HBB.out.trans (B2.out.mono (Nat.le_trans HBS.out HB.out.size)), by omega⟩
set_option maxHeartbeats 8000000 in
theorem play5_f (lab : Nat → Nat) (B : Nat) (T : Tab) (n lsn k tx prev z4 z5 z6 z7 z8 z9 z10 z11 z12 z13 nx pnx : Int) (la da pla pda : Option Addr) (lc dc plc pdc : Nat) (L PL : List Lv) (D PD : List (Int × Int)) (w : World) (h : Tb lab w B T) (he : ∀ j, j < 2 → T.rp j = T.rq j) (ha : Arg B w n tx la da pla pda lc dc plc pdc L PL D PD) (_hm : T.ls.length + 2 ≤ 100000) :
    Calls Try.prog 21 #[ptr T.t, .agg (List.toArray [.int .i64 5, .bool false, .int .i64 n, .int .i64 lsn, .int .i64 k, .int .i64 tx, .int .i64 prev, .int .i64 z4, .int .i64 z5, .int .i64 z6, .int .i64 z7, .int .i64 z8, .int .i64 z9, .int .i64 z10, .int .i64 z11, .int .i64 z12, .int .i64 z13, .slice la L.length lc, .slice da D.length dc, .int .i64 nx, .slice pla PL.length plc, .slice pda PD.length pdc, .int .i64 pnx])] w (TPost 2 w B T) := by
  have HBS := hide (show B ≤ w.heap.size by have := h.low.1; have := h.box.1; omega)
  have HQ := hide he
  have HT0 := hide h
  have HA := hide ha
  clear h he ha
  go_enter Try.func21, Try.ntmps21
  go_upto_region 1 with fail
  refine named (P := Code.wp _ _ _ _) ?_
  intro w1 hw1
  obtain ⟨bx, hbx⟩ : ∃ b, b = w.heap.size := ⟨_, rfl⟩
  have HX := hide (show Cells w1 bx [.int .i64 5, .bool false, .int .i64 n, .int .i64 lsn, .int .i64 k, .int .i64 tx, .int .i64 prev, .int .i64 z4, .int .i64 z5, .int .i64 z6, .int .i64 z7, .int .i64 z8, .int .i64 z9, .int .i64 z10, .int .i64 z11, .int .i64 z12, .int .i64 z13, .slice la L.length lc, .slice da D.length dc, .int .i64 nx, .slice pla PL.length plc, .slice pda PD.length pdc, .int .i64 pnx] by rw [hw1, hbx]; exact Cells.new w _ _)
  have HB := hide (show Below w.heap.size w w1 by rw [hw1]; exact alloc_below _ _)
  have HBB := hide (HB.out.mono HBS.out)
  have HT := hide (HT0.out.below HB.out)
  rw [← hbx]
  clear hw1 hbx HT0
  obtain ⟨v0, -⟩ := HX.out.get 0 _ rfl
  obtain ⟨v1, -⟩ := HX.out.get 1 _ rfl
  obtain ⟨v2, -⟩ := HX.out.get 2 _ rfl
  obtain ⟨x, hx⟩ := getV_form (T.rp 0).L n
  obtain ⟨E0, hE0⟩ : ∃ x, x = getE (T.rp 0).L n := ⟨_, rfl⟩
  have KG := fun w' (h : Below w1.heap.size w1 w') => get_any (T.b 0) (T.m 0) (T.rp 0) n w' ((HT.out.below h).pr 0 (by omega)) HA.out.n64
  have KR := fun w' (h : Below w1.heap.size w1 w') => rget_any B (T.c 0) (T.v 0) (T.rq 0) n w' ((HT.out.below h).rr 0 (by omega))
  simp only [← HQ.out 0 (by omega)] at KR
  simp only [hx, ← hE0] at KG KR
  obtain ⟨x1, x2, x3, x4⟩ := x
  simp only at KG KR
  clear hx hE0 v2
  go_upto_region 18 with fail
  go_cut [14, 15] (fun v e w' => ∃ g, v = ptr g ∧ e = .int .i64 E0 ∧ Cells w' g [.int .i64 x1, .int .i64 x2, .bool x3, .bool x4] ∧ Below w1.heap.size w1 w')
  case first =>
    have HW := hide (alloc_below w1.drew (.cells #[.int .i64 0, .int .i64 0, .bool false, .bool false] 26))
    refine wp_region_held_drew (S := fun wq => Below w1.heap.size w1 wq) (by kernel_rfl) (Below.refl _ _).drew (fun hS => ?_)
    refine take_at 0 (some 93) (v := ?_) rfl rfl (by kernel_rfl) (by kernel_rfl) (by kernel_rfl) (fun _ _ _ h => h) ⟨by rfl, ?_⟩ hS ?_
    rotate_left
    · intro wq hSw; go_simp; try rfl
    simp only [Act.put, List.setIfInBounds_toArray, List.set_cons_zero, List.set_cons_succ]
    refine take_at 1 (some 94) (v := ?_) rfl rfl (by kernel_rfl) (by kernel_rfl) (by kernel_rfl) (fun _ _ _ h => h) ⟨by rfl, ?_⟩ hS ?_
    rotate_left
    · intro wq hSw; go_simp; try rfl
    simp only [Act.put, List.setIfInBounds_toArray, List.set_cons_zero, List.set_cons_succ]
    refine take_at 2 (some 95) (v := ?_) rfl rfl (by kernel_rfl) (by kernel_rfl) (by kernel_rfl) (fun _ _ _ h => h) ⟨by rfl, ?_⟩ hS ?_
    rotate_left
    · intro wq hSw; go_simp; try rfl
    simp only [Act.put, List.setIfInBounds_toArray, List.set_cons_zero, List.set_cons_succ]
    refine take_at 3 (some 96) (v := ?_) rfl rfl (by kernel_rfl) (by kernel_rfl) (by kernel_rfl) (fun _ _ _ h => h) ⟨by rfl, ?_⟩ hS ?_
    rotate_left
    · intro wq hSw; go_simp; try rfl
    simp only [Act.put, List.setIfInBounds_toArray, List.set_cons_zero, List.set_cons_succ]
    refine take_at 4 (some 97) (v := ?_) rfl rfl (by kernel_rfl) (by kernel_rfl) (by kernel_rfl) (fun _ _ _ h => h) ⟨by rfl, ?_⟩ hS ?_
    rotate_left
    · intro wq hSw; go_simp; try rfl
    simp only [Act.put, List.setIfInBounds_toArray, List.set_cons_zero, List.set_cons_succ]
    refine take_at 5 (some 98) (v := ?_) rfl rfl (by kernel_rfl) (by kernel_rfl) (by kernel_rfl) (fun _ _ _ h => h) ⟨by rfl, ?_⟩ hS ?_
    rotate_left
    · intro wq hSw; have q := ((HT.out.below hSw).cP (i := 0) (by omega)).1; go_simp; try rfl
    simp only [Act.put, List.setIfInBounds_toArray, List.set_cons_zero, List.set_cons_succ]
    refine take_at 6 (some 99) (v := ?_) rfl rfl (by kernel_rfl) (by kernel_rfl) (by kernel_rfl) (fun _ _ _ h => h) ⟨by rfl, ?_⟩ hS ?_
    rotate_left
    · intro wq hSw; go_simp; try rfl
    simp only [Act.put, List.setIfInBounds_toArray, List.set_cons_zero, List.set_cons_succ]
    refine take_at 7 (some 100) (v := ?_) rfl rfl (by kernel_rfl) (by kernel_rfl) (by kernel_rfl) (fun _ _ _ h => h) ⟨by rfl, ?_⟩ hS ?_
    rotate_left
    · intro wq hSw; have q := ((HX.out.below hSw).get 2 _ rfl).1; go_simp; try rfl
    simp only [Act.put, List.setIfInBounds_toArray, List.set_cons_zero, List.set_cons_succ]
    have DC0 := hide hS
    clear hS
    generalize w1.drew = xd at *
    refine wpAnyH_ready (rs := [8, 12]) (by kernel_rfl) (by simp) ?_
    refine AllReadyH.cons rfl (fun K hK => ?_) (AllReadyH.cons rfl (fun K hK => ?_) AllReadyH.nil)
    · go_simp
      go_wp2_with fail
      refine (KG _ DC0.out).mono ?_
      rintro e y2 ⟨rfl, hh⟩
      have DC := hide (DC0.out.trans (hh.mono DC0.out.size))
      clear hh
      go_wp2_with fail
      refine hK.out _ _ DC.out (fun hS => ?_)
      clear hK K
      (try simp only [Act.put, List.setIfInBounds_toArray, List.set_cons_zero, List.set_cons_succ])
      refine take_at 9 (some 92) (v := ?_) rfl rfl (by kernel_rfl) (by kernel_rfl) (by kernel_rfl) (fun _ _ _ h => h) ⟨by rfl, ?_⟩ hS ?_
      rotate_left
      · intro wq hSw; go_simp; try rfl
      simp only [Act.put, List.setIfInBounds_toArray, List.set_cons_zero, List.set_cons_succ]
      refine take_at 10 (some 102) (v := ?_) rfl rfl (by kernel_rfl) (by kernel_rfl) (by kernel_rfl) (fun _ _ _ h => h) ⟨by rfl, ?_⟩ hS ?_
      rotate_left
      · intro wq hSw; go_simp; try rfl
      simp only [Act.put, List.setIfInBounds_toArray, List.set_cons_zero, List.set_cons_succ]
      refine take_at 11 (some 103) (v := ?_) rfl rfl (by kernel_rfl) (by kernel_rfl) (by kernel_rfl) (fun _ _ _ h => h) ⟨by rfl, ?_⟩ hS ?_
      rotate_left
      · intro wq hSw; go_simp; try rfl
      simp only [Act.put, List.setIfInBounds_toArray, List.set_cons_zero, List.set_cons_succ]
      obtain ⟨xa, hxa⟩ : ∃ y, y = World.alloc y2 (.cells #[.int .i64 0, .int .i64 0, .bool false, .bool false] 26) := ⟨_, rfl⟩
      obtain ⟨ga, hga⟩ : ∃ y, y = y2.heap.size := ⟨_, rfl⟩
      have CZa := hide (show Cells xa ga [.int .i64 0, .int .i64 0, .bool false, .bool false] by rw [hxa, hga]; exact Cells.new _ _ _)
      have DAa := hide (show Below w1.heap.size w1 xa by rw [hxa]; exact DC.out.alloc DC.out.size _)
      have GBa := hide (show w1.heap.size ≤ ga by rw [hga]; exact DC.out.size)
      have HXA := hide hxa
      have HGA := hide hga
      clear hxa hga
      refine wpAnyH_ready (rs := [12]) (by kernel_rfl) (by simp) ?_
      refine AllReadyH.cons rfl (fun K hK => ?_) AllReadyH.nil
      go_simp
      go_wp2_with fail
      rw [← HXA.out, ← HGA.out]
      refine hK.out _ _ DAa.out (fun hS => ?_)
      clear hK K
      (try simp only [Act.put, List.setIfInBounds_toArray, List.set_cons_zero, List.set_cons_succ])
      obtain ⟨z0, f0⟩ := CZa.out.get 0 _ rfl
      obtain ⟨z1, f1⟩ := CZa.out.get 1 _ rfl
      obtain ⟨z2, f2⟩ := CZa.out.get 2 _ rfl
      obtain ⟨z3, f3⟩ := CZa.out.get 3 _ rfl
      have KS := hide (((((Keep.refl (fun z => z = ga) xa).setCell (g := ga) (j := 0) (fun _ => rfl) (.int .i64 x1)).setCell (g := ga) (j := 1) (fun _ => rfl) (.int .i64 x2)).setCell (g := ga) (j := 2) (fun _ => rfl) (.bool x3)).setCell (g := ga) (j := 3) (fun _ => rfl) (.bool x4))
      have CS := hide ((((CZa.out.stored (j := 0) (by simp) (.int .i64 x1)).stored (j := 1) (by simp) (.int .i64 x2)).stored (j := 2) (by simp) (.bool x3)).stored (j := 3) (by simp) (.bool x4))
      have DS := hide (DAa.out.trans (KS.out.below DAa.out.size (fun z hz q => by have e9 : z = ga := q; have := GBa.out; omega)))
      refine wpAnyH_ready (rs := [13]) (by kernel_rfl) (by simp) ?_
      refine AllReadyH.cons rfl (fun K hK => ?_) AllReadyH.nil
      go_simp
      go_wp2_with fail
      refine hK.out _ _ DS.out (fun hS => ?_)
      clear hK K
      (try simp only [Act.put, List.setIfInBounds_toArray, List.set_cons_zero, List.set_cons_succ])
      refine take_at 14 (some 15) (v := ?_) rfl rfl (by kernel_rfl) (by kernel_rfl) (by kernel_rfl) (fun _ _ _ h => h) ⟨by rfl, ?_⟩ hS ?_
      rotate_left
      · intro wq hSw; go_simp; try rfl
      simp only [Act.put, List.setIfInBounds_toArray, List.set_cons_zero, List.set_cons_succ]
      clear hS
      refine wpAnyH_done (by kernel_rfl) ?_ _
      go_wp2_with fail
      go_meet
      exact ⟨ga, rfl, rfl, by simpa using CS.out, DS.out⟩
    · have DC := DC0
      obtain ⟨xb, hxb⟩ : ∃ y, y = World.alloc xd (.cells #[.int .i64 0, .int .i64 0, .bool false, .bool false] 26) := ⟨_, rfl⟩
      obtain ⟨gb, hgb⟩ : ∃ y, y = xd.heap.size := ⟨_, rfl⟩
      have CZb := hide (show Cells xb gb [.int .i64 0, .int .i64 0, .bool false, .bool false] by rw [hxb, hgb]; exact Cells.new _ _ _)
      have DAb := hide (show Below w1.heap.size w1 xb by rw [hxb]; exact DC.out.alloc DC.out.size _)
      have GBb := hide (show w1.heap.size ≤ gb by rw [hgb]; exact DC.out.size)
      have HXA := hide hxb
      have HGA := hide hgb
      clear hxb hgb
      go_simp
      go_wp2_with fail
      rw [← HXA.out, ← HGA.out]
      refine hK.out _ _ DAb.out (fun hS => ?_)
      clear hK K hS
      (try simp only [Act.put, List.setIfInBounds_toArray, List.set_cons_zero, List.set_cons_succ])
      refine wpAnyH_ready (rs := [8]) (by kernel_rfl) (by simp) ?_
      refine AllReadyH.cons rfl (fun K hK => ?_) AllReadyH.nil
      go_simp
      go_wp2_with fail
      refine (KG _ DAb.out).mono ?_
      rintro e y2 ⟨rfl, hh⟩
      have DD := hide (DAb.out.trans (hh.mono DAb.out.size))
      have CZc := hide (CZb.out.below hh)
      clear hh
      go_wp2_with fail
      refine hK.out _ _ DD.out (fun hS => ?_)
      clear hK K
      (try simp only [Act.put, List.setIfInBounds_toArray, List.set_cons_zero, List.set_cons_succ])
      refine take_at 9 (some 92) (v := ?_) rfl rfl (by kernel_rfl) (by kernel_rfl) (by kernel_rfl) (fun _ _ _ h => h) ⟨by rfl, ?_⟩ hS ?_
      rotate_left
      · intro wq hSw; go_simp; try rfl
      simp only [Act.put, List.setIfInBounds_toArray, List.set_cons_zero, List.set_cons_succ]
      refine take_at 10 (some 102) (v := ?_) rfl rfl (by kernel_rfl) (by kernel_rfl) (by kernel_rfl) (fun _ _ _ h => h) ⟨by rfl, ?_⟩ hS ?_
      rotate_left
      · intro wq hSw; go_simp; try rfl
      simp only [Act.put, List.setIfInBounds_toArray, List.set_cons_zero, List.set_cons_succ]
      refine take_at 11 (some 103) (v := ?_) rfl rfl (by kernel_rfl) (by kernel_rfl) (by kernel_rfl) (fun _ _ _ h => h) ⟨by rfl, ?_⟩ hS ?_
      rotate_left
      · intro wq hSw; go_simp; try rfl
      simp only [Act.put, List.setIfInBounds_toArray, List.set_cons_zero, List.set_cons_succ]
      obtain ⟨z0, f0⟩ := CZc.out.get 0 _ rfl
      obtain ⟨z1, f1⟩ := CZc.out.get 1 _ rfl
      obtain ⟨z2, f2⟩ := CZc.out.get 2 _ rfl
      obtain ⟨z3, f3⟩ := CZc.out.get 3 _ rfl
      have KS := hide (((((Keep.refl (fun z => z = gb) y2).setCell (g := gb) (j := 0) (fun _ => rfl) (.int .i64 x1)).setCell (g := gb) (j := 1) (fun _ => rfl) (.int .i64 x2)).setCell (g := gb) (j := 2) (fun _ => rfl) (.bool x3)).setCell (g := gb) (j := 3) (fun _ => rfl) (.bool x4))
      have CS := hide ((((CZc.out.stored (j := 0) (by simp) (.int .i64 x1)).stored (j := 1) (by simp) (.int .i64 x2)).stored (j := 2) (by simp) (.bool x3)).stored (j := 3) (by simp) (.bool x4))
      have DS := hide (DD.out.trans (KS.out.below DD.out.size (fun z hz q => by have e9 : z = gb := q; have := GBb.out; omega)))
      refine wpAnyH_ready (rs := [13]) (by kernel_rfl) (by simp) ?_
      refine AllReadyH.cons rfl (fun K hK => ?_) AllReadyH.nil
      go_simp
      go_wp2_with fail
      refine hK.out _ _ DS.out (fun hS => ?_)
      clear hK K
      (try simp only [Act.put, List.setIfInBounds_toArray, List.set_cons_zero, List.set_cons_succ])
      refine take_at 14 (some 15) (v := ?_) rfl rfl (by kernel_rfl) (by kernel_rfl) (by kernel_rfl) (fun _ _ _ h => h) ⟨by rfl, ?_⟩ hS ?_
      rotate_left
      · intro wq hSw; go_simp; try rfl
      simp only [Act.put, List.setIfInBounds_toArray, List.set_cons_zero, List.set_cons_succ]
      clear hS
      refine wpAnyH_done (by kernel_rfl) ?_ _
      go_wp2_with fail
      go_meet
      exact ⟨gb, rfl, rfl, by simpa using CS.out, DS.out⟩
  case rest =>
    obtain ⟨g1, rfl, rfl, c1, hb1⟩ := hcut
    obtain ⟨wy, hwy⟩ : ∃ x, x = wc := ⟨_, rfl⟩
    rw [← hwy] at c1 hb1 ⊢
    have C1 := hide c1
    have B1 := hide hb1
    have HXY := hide (HX.out.below hb1)
    clear hwy c1 hb1
    have KR2 := fun w' (h : Below wy.heap.size wy w') => KR w' (B1.out.trans (h.mono B1.out.size))
    clear KR KG
    go_upto_region 19 with fail
    go_cut [16, 17] (fun v e w' => ∃ g, v = ptr g ∧ e = .int .i64 E0 ∧ Cells w' g [.int .i64 x1, .int .i64 x2, .bool x3, .bool x4] ∧ Below wy.heap.size wy w')
    case first =>
      have HW := hide (alloc_below wy.drew (.cells #[.int .i64 0, .int .i64 0, .bool false, .bool false] 26))
      refine wp_region_held_drew (S := fun wq => Below wy.heap.size wy wq) (by kernel_rfl) (Below.refl _ _).drew (fun hS => ?_)
      refine take_at 0 (some 105) (v := ?_) rfl rfl (by kernel_rfl) (by kernel_rfl) (by kernel_rfl) (fun _ _ _ h => h) ⟨by rfl, ?_⟩ hS ?_
      rotate_left
      · intro wq hSw; go_simp; try rfl
      simp only [Act.put, List.setIfInBounds_toArray, List.set_cons_zero, List.set_cons_succ]
      refine take_at 1 (some 106) (v := ?_) rfl rfl (by kernel_rfl) (by kernel_rfl) (by kernel_rfl) (fun _ _ _ h => h) ⟨by rfl, ?_⟩ hS ?_
      rotate_left
      · intro wq hSw; go_simp; try rfl
      simp only [Act.put, List.setIfInBounds_toArray, List.set_cons_zero, List.set_cons_succ]
      refine take_at 2 (some 107) (v := ?_) rfl rfl (by kernel_rfl) (by kernel_rfl) (by kernel_rfl) (fun _ _ _ h => h) ⟨by rfl, ?_⟩ hS ?_
      rotate_left
      · intro wq hSw; go_simp; try rfl
      simp only [Act.put, List.setIfInBounds_toArray, List.set_cons_zero, List.set_cons_succ]
      refine take_at 3 (some 108) (v := ?_) rfl rfl (by kernel_rfl) (by kernel_rfl) (by kernel_rfl) (fun _ _ _ h => h) ⟨by rfl, ?_⟩ hS ?_
      rotate_left
      · intro wq hSw; go_simp; try rfl
      simp only [Act.put, List.setIfInBounds_toArray, List.set_cons_zero, List.set_cons_succ]
      refine take_at 4 (some 109) (v := ?_) rfl rfl (by kernel_rfl) (by kernel_rfl) (by kernel_rfl) (fun _ _ _ h => h) ⟨by rfl, ?_⟩ hS ?_
      rotate_left
      · intro wq hSw; go_simp; try rfl
      simp only [Act.put, List.setIfInBounds_toArray, List.set_cons_zero, List.set_cons_succ]
      refine take_at 5 (some 110) (v := ?_) rfl rfl (by kernel_rfl) (by kernel_rfl) (by kernel_rfl) (fun _ _ _ h => h) ⟨by rfl, ?_⟩ hS ?_
      rotate_left
      · intro wq hSw; have q := ((HT.out.below (B1.out.trans (hSw.mono B1.out.size))).cR (i := 0) (by omega)).1; go_simp; try rfl
      simp only [Act.put, List.setIfInBounds_toArray, List.set_cons_zero, List.set_cons_succ]
      refine take_at 6 (some 111) (v := ?_) rfl rfl (by kernel_rfl) (by kernel_rfl) (by kernel_rfl) (fun _ _ _ h => h) ⟨by rfl, ?_⟩ hS ?_
      rotate_left
      · intro wq hSw; go_simp; try rfl
      simp only [Act.put, List.setIfInBounds_toArray, List.set_cons_zero, List.set_cons_succ]
      refine take_at 7 (some 112) (v := ?_) rfl rfl (by kernel_rfl) (by kernel_rfl) (by kernel_rfl) (fun _ _ _ h => h) ⟨by rfl, ?_⟩ hS ?_
      rotate_left
      · intro wq hSw; have q := ((HXY.out.below hSw).get 2 _ rfl).1; go_simp; try rfl
      simp only [Act.put, List.setIfInBounds_toArray, List.set_cons_zero, List.set_cons_succ]
      have DC0 := hide hS
      clear hS
      generalize wy.drew = xd at *
      refine wpAnyH_ready (rs := [8, 12]) (by kernel_rfl) (by simp) ?_
      refine AllReadyH.cons rfl (fun K hK => ?_) (AllReadyH.cons rfl (fun K hK => ?_) AllReadyH.nil)
      · go_simp
        go_wp2_with fail
        refine (KR2 _ DC0.out).mono ?_
        rintro e y2 ⟨rfl, hh⟩
        have DC := hide (DC0.out.trans (hh.mono DC0.out.size))
        clear hh
        go_wp2_with fail
        refine hK.out _ _ DC.out (fun hS => ?_)
        clear hK K
        (try simp only [Act.put, List.setIfInBounds_toArray, List.set_cons_zero, List.set_cons_succ])
        refine take_at 9 (some 104) (v := ?_) rfl rfl (by kernel_rfl) (by kernel_rfl) (by kernel_rfl) (fun _ _ _ h => h) ⟨by rfl, ?_⟩ hS ?_
        rotate_left
        · intro wq hSw; go_simp; try rfl
        simp only [Act.put, List.setIfInBounds_toArray, List.set_cons_zero, List.set_cons_succ]
        refine take_at 10 (some 114) (v := ?_) rfl rfl (by kernel_rfl) (by kernel_rfl) (by kernel_rfl) (fun _ _ _ h => h) ⟨by rfl, ?_⟩ hS ?_
        rotate_left
        · intro wq hSw; go_simp; try rfl
        simp only [Act.put, List.setIfInBounds_toArray, List.set_cons_zero, List.set_cons_succ]
        refine take_at 11 (some 115) (v := ?_) rfl rfl (by kernel_rfl) (by kernel_rfl) (by kernel_rfl) (fun _ _ _ h => h) ⟨by rfl, ?_⟩ hS ?_
        rotate_left
        · intro wq hSw; go_simp; try rfl
        simp only [Act.put, List.setIfInBounds_toArray, List.set_cons_zero, List.set_cons_succ]
        obtain ⟨xa, hxa⟩ : ∃ y, y = World.alloc y2 (.cells #[.int .i64 0, .int .i64 0, .bool false, .bool false] 26) := ⟨_, rfl⟩
        obtain ⟨ga, hga⟩ : ∃ y, y = y2.heap.size := ⟨_, rfl⟩
        have CZa := hide (show Cells xa ga [.int .i64 0, .int .i64 0, .bool false, .bool false] by rw [hxa, hga]; exact Cells.new _ _ _)
        have DAa := hide (show Below wy.heap.size wy xa by rw [hxa]; exact DC.out.alloc DC.out.size _)
        have GBa := hide (show wy.heap.size ≤ ga by rw [hga]; exact DC.out.size)
        have HXA := hide hxa
        have HGA := hide hga
        clear hxa hga
        refine wpAnyH_ready (rs := [12]) (by kernel_rfl) (by simp) ?_
        refine AllReadyH.cons rfl (fun K hK => ?_) AllReadyH.nil
        go_simp
        go_wp2_with fail
        rw [← HXA.out, ← HGA.out]
        refine hK.out _ _ DAa.out (fun hS => ?_)
        clear hK K
        (try simp only [Act.put, List.setIfInBounds_toArray, List.set_cons_zero, List.set_cons_succ])
        obtain ⟨z0, f0⟩ := CZa.out.get 0 _ rfl
        obtain ⟨z1, f1⟩ := CZa.out.get 1 _ rfl
        obtain ⟨z2, f2⟩ := CZa.out.get 2 _ rfl
        obtain ⟨z3, f3⟩ := CZa.out.get 3 _ rfl
        have KS := hide (((((Keep.refl (fun z => z = ga) xa).setCell (g := ga) (j := 0) (fun _ => rfl) (.int .i64 x1)).setCell (g := ga) (j := 1) (fun _ => rfl) (.int .i64 x2)).setCell (g := ga) (j := 2) (fun _ => rfl) (.bool x3)).setCell (g := ga) (j := 3) (fun _ => rfl) (.bool x4))
        have CS := hide ((((CZa.out.stored (j := 0) (by simp) (.int .i64 x1)).stored (j := 1) (by simp) (.int .i64 x2)).stored (j := 2) (by simp) (.bool x3)).stored (j := 3) (by simp) (.bool x4))
        have DS := hide (DAa.out.trans (KS.out.below DAa.out.size (fun z hz q => by have e9 : z = ga := q; have := GBa.out; omega)))
        refine wpAnyH_ready (rs := [13]) (by kernel_rfl) (by simp) ?_
        refine AllReadyH.cons rfl (fun K hK => ?_) AllReadyH.nil
        go_simp
        go_wp2_with fail
        refine hK.out _ _ DS.out (fun hS => ?_)
        clear hK K
        (try simp only [Act.put, List.setIfInBounds_toArray, List.set_cons_zero, List.set_cons_succ])
        refine take_at 14 (some 17) (v := ?_) rfl rfl (by kernel_rfl) (by kernel_rfl) (by kernel_rfl) (fun _ _ _ h => h) ⟨by rfl, ?_⟩ hS ?_
        rotate_left
        · intro wq hSw; go_simp; try rfl
        simp only [Act.put, List.setIfInBounds_toArray, List.set_cons_zero, List.set_cons_succ]
        clear hS
        refine wpAnyH_done (by kernel_rfl) ?_ _
        go_wp2_with fail
        go_meet
        exact ⟨ga, rfl, rfl, by simpa using CS.out, DS.out⟩
      · have DC := DC0
        obtain ⟨xb, hxb⟩ : ∃ y, y = World.alloc xd (.cells #[.int .i64 0, .int .i64 0, .bool false, .bool false] 26) := ⟨_, rfl⟩
        obtain ⟨gb, hgb⟩ : ∃ y, y = xd.heap.size := ⟨_, rfl⟩
        have CZb := hide (show Cells xb gb [.int .i64 0, .int .i64 0, .bool false, .bool false] by rw [hxb, hgb]; exact Cells.new _ _ _)
        have DAb := hide (show Below wy.heap.size wy xb by rw [hxb]; exact DC.out.alloc DC.out.size _)
        have GBb := hide (show wy.heap.size ≤ gb by rw [hgb]; exact DC.out.size)
        have HXA := hide hxb
        have HGA := hide hgb
        clear hxb hgb
        go_simp
        go_wp2_with fail
        rw [← HXA.out, ← HGA.out]
        refine hK.out _ _ DAb.out (fun hS => ?_)
        clear hK K hS
        (try simp only [Act.put, List.setIfInBounds_toArray, List.set_cons_zero, List.set_cons_succ])
        refine wpAnyH_ready (rs := [8]) (by kernel_rfl) (by simp) ?_
        refine AllReadyH.cons rfl (fun K hK => ?_) AllReadyH.nil
        go_simp
        go_wp2_with fail
        refine (KR2 _ DAb.out).mono ?_
        rintro e y2 ⟨rfl, hh⟩
        have DD := hide (DAb.out.trans (hh.mono DAb.out.size))
        have CZc := hide (CZb.out.below hh)
        clear hh
        go_wp2_with fail
        refine hK.out _ _ DD.out (fun hS => ?_)
        clear hK K
        (try simp only [Act.put, List.setIfInBounds_toArray, List.set_cons_zero, List.set_cons_succ])
        refine take_at 9 (some 104) (v := ?_) rfl rfl (by kernel_rfl) (by kernel_rfl) (by kernel_rfl) (fun _ _ _ h => h) ⟨by rfl, ?_⟩ hS ?_
        rotate_left
        · intro wq hSw; go_simp; try rfl
        simp only [Act.put, List.setIfInBounds_toArray, List.set_cons_zero, List.set_cons_succ]
        refine take_at 10 (some 114) (v := ?_) rfl rfl (by kernel_rfl) (by kernel_rfl) (by kernel_rfl) (fun _ _ _ h => h) ⟨by rfl, ?_⟩ hS ?_
        rotate_left
        · intro wq hSw; go_simp; try rfl
        simp only [Act.put, List.setIfInBounds_toArray, List.set_cons_zero, List.set_cons_succ]
        refine take_at 11 (some 115) (v := ?_) rfl rfl (by kernel_rfl) (by kernel_rfl) (by kernel_rfl) (fun _ _ _ h => h) ⟨by rfl, ?_⟩ hS ?_
        rotate_left
        · intro wq hSw; go_simp; try rfl
        simp only [Act.put, List.setIfInBounds_toArray, List.set_cons_zero, List.set_cons_succ]
        obtain ⟨z0, f0⟩ := CZc.out.get 0 _ rfl
        obtain ⟨z1, f1⟩ := CZc.out.get 1 _ rfl
        obtain ⟨z2, f2⟩ := CZc.out.get 2 _ rfl
        obtain ⟨z3, f3⟩ := CZc.out.get 3 _ rfl
        have KS := hide (((((Keep.refl (fun z => z = gb) y2).setCell (g := gb) (j := 0) (fun _ => rfl) (.int .i64 x1)).setCell (g := gb) (j := 1) (fun _ => rfl) (.int .i64 x2)).setCell (g := gb) (j := 2) (fun _ => rfl) (.bool x3)).setCell (g := gb) (j := 3) (fun _ => rfl) (.bool x4))
        have CS := hide ((((CZc.out.stored (j := 0) (by simp) (.int .i64 x1)).stored (j := 1) (by simp) (.int .i64 x2)).stored (j := 2) (by simp) (.bool x3)).stored (j := 3) (by simp) (.bool x4))
        have DS := hide (DD.out.trans (KS.out.below DD.out.size (fun z hz q => by have e9 : z = gb := q; have := GBb.out; omega)))
        refine wpAnyH_ready (rs := [13]) (by kernel_rfl) (by simp) ?_
        refine AllReadyH.cons rfl (fun K hK => ?_) AllReadyH.nil
        go_simp
        go_wp2_with fail
        refine hK.out _ _ DS.out (fun hS => ?_)
        clear hK K
        (try simp only [Act.put, List.setIfInBounds_toArray, List.set_cons_zero, List.set_cons_succ])
        refine take_at 14 (some 17) (v := ?_) rfl rfl (by kernel_rfl) (by kernel_rfl) (by kernel_rfl) (fun _ _ _ h => h) ⟨by rfl, ?_⟩ hS ?_
        rotate_left
        · intro wq hSw; go_simp; try rfl
        simp only [Act.put, List.setIfInBounds_toArray, List.set_cons_zero, List.set_cons_succ]
        clear hS
        refine wpAnyH_done (by kernel_rfl) ?_ _
        go_wp2_with fail
        go_meet
        exact ⟨gb, rfl, rfl, by simpa using CS.out, DS.out⟩
    case rest =>
      obtain ⟨g2, rfl, rfl, c2, hb2⟩ := hcut
      have C1' := hide (C1.out.below hb2)
      have C2 := hide c2
      have B2 := hide (B1.out.trans (hb2.mono B1.out.size))
      clear c2 hb2 KR2
      obtain ⟨p0, -⟩ := C1'.out.get 0 _ rfl
      obtain ⟨q0, -⟩ := C2.out.get 0 _ rfl
      obtain ⟨p1, -⟩ := C1'.out.get 1 _ rfl
      obtain ⟨q1, -⟩ := C2.out.get 1 _ rfl
      obtain ⟨p2, -⟩ := C1'.out.get 2 _ rfl
      obtain ⟨q2, -⟩ := C2.out.get 2 _ rfl
      obtain ⟨p3, -⟩ := C1'.out.get 3 _ rfl
      obtain ⟨q3, -⟩ := C2.out.get 3 _ rfl
      go_wp2_with (first | (go_at_call 7; refine (num_eq _ _).mono ?_; rintro e wz ⟨rfl, rfl⟩))
      go_ret
      exact ⟨by first | rfl | simp, lab, T, HT.out.below B2.out, HQ.out, rfl, HBB.out.trans (B2.out.mono (Nat.le_trans HBS.out HB.out.size)), by omega⟩
end Go.Proofs.Ytokcocmenndlmaa
