import Derived.Test.YtaohdmaenplbpaaGreatLdAG
set_option linter.all false
namespace Go.Proofs.YtaohdmaenplbpaaGreat
open Go.RowKit Go.QK Quota Go.Maps Go.QM
set_option maxRecDepth 100000
theorem may_none {es : List SE} {t k d : Int} (ht : 1 ≤ t ∧ t ≤ 6) (h : ∀ x ∈ es, x.id ≠ k) : mayL (ctrsOf es) t k d = 120 := by
  unfold mayL
  rw [if_neg (by omega), getM_ctrs_none h]
theorem may_some {es : List SE} (hu : Up (ctrsOf es)) {t d : Int} (ht : 1 ≤ t ∧ t ≤ 6) {i : Nat} (hi : i < es.length) : mayL (ctrsOf es) t es[i].id d = mayE es[i].e t d ∨ (mayE es[i].e t d = 0 ∧ (mayL (ctrsOf es) t es[i].id d = 0 ∨ mayL (ctrsOf es) t es[i].id d = 10)) := by
  unfold mayL
  rw [if_neg (by omega), getM_ctrs hu (List.getElem_mem hi)]
  simp only
  split
  · rename_i q
    split
    · exact .inr ⟨q, .inl rfl⟩
    · exact .inr ⟨q, .inr rfl⟩
  · exact .inl rfl
theorem add_not {C : Ctrs} {H : Helds} {t k d : Int} (h : mayL C t k d ≠ 0) : addL C t k d = C ∧ heldA C H t k d = H := by
  refine ⟨?_, if_neg h⟩
  unfold addL
  split
  · rfl
  · rw [if_neg h]
set_option maxHeartbeats 8000000 in
theorem does_none {T : Nat → Prop} {w : World} {sb : Nat} {es : List SE} {H : Helds} (h : Sto T w sb es H) (kd tx ct d : Int) (hd : I64 d) (h5 : kd % 8 ≠ 5) (h6 : kd % 8 ≠ 6) (hid : ∀ x ∈ es, x.id ≠ 1 + ct % 8) : Calls Tryz.prog 11 #[ptr sb, .agg #[.int .i64 kd, .int .i64 tx, .int .i64 ct, .int .i64 d]] w fun r w' => DoesPost T w sb r w' := by
  obtain ⟨ok, lab, lb, vc, ve, hs⟩ := h
  obtain ⟨a1, c1, a2, c2, rfl, rfl⟩ := hs.form
  obtain ⟨n, hn⟩ : ∃ n, n = es.length := ⟨_, rfl⟩
  rw [← hn] at hs
  have n8 : n ≤ 8 := by rw [hn]; exact ok.few
  obtain ⟨t, ht⟩ : ∃ t, t = 1 + tx % 6 := ⟨_, rfl⟩
  have KM := hide (fun w' => modulo_any tx 6 w' (by omega) (by omega))
  have KK := hide (fun w' => modulo_any kd 8 w' (by omega) (by omega))
  have ti : IntKind.i64.wrap (1 + tx % 6) = t := by rw [IntKind.wrap_i64]; omega
  have ti2 : wrap64 (1 + tx % 6) = t := by unfold wrap64; omega
  have hx : I64 t := by unfold I64; omega
  have T6 := hide (show 1 ≤ t ∧ t ≤ 6 by omega)
  have HX := hide hx
  have bw := alloc_below w (.cells #[.int .i64 kd, .int .i64 tx, .int .i64 ct, .int .i64 d] 30)
  have cd := Cells.new w #[.int .i64 kd, .int .i64 tx, .int .i64 ct, .int .i64 d] 30
  have OFF := hide (show ∀ z, T z → z ≠ w.heap.size from fun z hz => by have := hs.lt z hz; omega)
  have HN := hide hn
  have OK := hide ok
  clear hn ht hx ok
  have HS := hide (hs.below bw)
  have G0 := hide (Gone.of_below (T := T) bw)
  clear hs bw
  have KC := hide (fun w' => modulo_any ct 8 w' (by omega) (by omega))
  obtain ⟨k, hk⟩ : ∃ k, k = 1 + ct % 8 := ⟨_, rfl⟩
  rw [← hk] at hid
  have ki : IntKind.i64.wrap (1 + ct % 8) = k := by rw [IntKind.wrap_i64]; omega
  have ki2 : wrap64 (1 + ct % 8) = k := by unfold wrap64; omega
  have hk64 : I64 k := by unfold I64; omega
  have HK := hide hk64
  have HID := hide hid
  have HD := hide hd
  have q5 : (kd % 8 == 5) = false := by simpa using h5
  have q6 : (kd % 8 == 6) = false := by simpa using h6
  clear hk hk64 hid hd h5 h6
  generalize kd % 8 = m8 at *
  go_enter Tryz.func11, Tryz.ntmps11
  go_upto_region 1 with fail
  obtain ⟨g1, -⟩ := cd.get 1 _ rfl
  go_upto_region 2 with (go_at_call 16; refine (KM.out _).mono ?_; rintro r w1 ⟨rfl, hb⟩; have S1 := hide (HS.out.below hb); have G1 := hide (G0.out.trans (Gone.of_below hb)); replace cd := cd.below hb; clear HS G0 KM g1)
  obtain ⟨k0, -⟩ := cd.get 0 _ rfl
  go_upto_region 4 with (go_at_call 16; refine (KK.out _).mono ?_; rintro r w2 ⟨rfl, hb⟩; have HS := hide (S1.out.below hb); have G0 := hide (G1.out.trans (Gone.of_below hb)); replace cd := cd.below hb; clear S1 G1 k0 KK)
  obtain ⟨k2, -⟩ := cd.get 2 _ rfl
  go_upto_region 19 with (go_at_call 16; refine (KC.out _).mono ?_; rintro r w3 ⟨rfl, hb⟩; have S1 := hide (HS.out.below hb); have G1 := hide (G0.out.trans (Gone.of_below hb)); replace cd := cd.below hb; clear HS G0 k2 KC)
  clear ti ti2 ki ki2 q5 q6
  obtain ⟨a', c', e', hlr, -⟩ := GRow.lies S1.out.rc
  obtain ⟨rfl, rfl⟩ : a1 = a' ∧ c1 = c' := by cases e'; exact ⟨rfl, rfl⟩
  clear e'
  have KA := hide (at_any es sb lb a1 n c1 _ k w3 S1.out.box hlr HN.out n8)
  clear hlr
  have AT := hide (show ∀ r w', (((∃ j, ∃ h : j < es.length, r = Ending.returned (.int .i64 (j : Int)) ∧ es[j].id = k) ∨ (r = .returned (.int .i64 (-1)) ∧ ∀ x ∈ es, x.id ≠ k)) ∧ w3 = w') → r = .returned (.int .i64 (-1)) ∧ w3 = w' from fun r w' q => by
    refine ⟨?_, q.2⟩
    rcases q.1 with ⟨j, hj, rfl, e⟩ | ⟨e, -⟩
    · exact absurd e (HID.out _ (List.getElem_mem hj))
    · exact e)
  go_upto_region 20 with (go_at_call 25; refine KA.out.mono ?_; intro r w' q; obtain ⟨rfl, rfl⟩ := AT.out _ _ q)
  clear KA AT
  have UP := hide (show Up (ctrsOf es) by obtain ⟨S, hl, -⟩ := S1.out.led; exact hl.ok.1.up)
  have KY := hide (show ∀ w', Below w3.heap.size w3 w' → Calls Tryz.prog 27 #[ptr lb, .int .i64 t, .int .i64 k, .int .i64 d] w' fun r w'' => r = .returned (.int .i64 (mayL (ctrsOf es) t k d)) ∧ Below w'.heap.size w' w'' from fun w' hb => by
    obtain ⟨S, hl, -⟩ := (S1.out.below hb).led
    exact lg_may hl HX.out HK.out HD.out)
  have KZ := hide (show ∀ w', Below w3.heap.size w3 w' → Calls Tryz.prog 48 #[ptr lb, .int .i64 t, .int .i64 k, .int .i64 d] w' fun r w'' => r = .returned (.int .i64 (mayL (ctrsOf es) t k d)) ∧ ∃ lab' T', St lab' T' w'' sb lb (.slice a1 n c1) (.slice a2 n c2) es (addL (ctrsOf es) t k d) (heldA (ctrsOf es) H t k d) ∧ Gone T w3 T' w'' ∧ Keep (fun z => T z) w' w'' from fun w' hb => by
    obtain ⟨S, hl, hnx⟩ := (S1.out.below hb).ledger
    have few : H.length < 3000000000 := by have := helds_few OK.out hl.ok.2; omega
    refine (lg_add hl HX.out HK.out HD.out (fun c hc => ?_) few).mono ?_
    · obtain ⟨x, hx, -, rfl⟩ := mem_of_get hc
      obtain ⟨j, hj, rfl⟩ := List.getElem_of_mem hx
      have := nets_few OK.out hx (S1.out.esc j hj).ok
      show es[j].e.nets.length < _
      omega
    · rintro r w'' ⟨rfl, hL⟩
      obtain ⟨lab', T', hs', hg'⟩ := hnx _ _ _ hL
      exact ⟨rfl, lab', T', hs', (Gone.of_below hb).trans hg', hg'.k⟩)
  obtain ⟨F, hF⟩ : ∃ F, F = mayL (ctrsOf es) t k d := ⟨_, rfl⟩
  rw [← hF] at KY KZ
  have HF := hide hF
  clear hF
  obtain ⟨bx, cd0⟩ : Cells w3 sb [ptr lb, .slice a1 n c1, .slice a2 n c2] ∧ True := ⟨S1.out.box, trivial⟩
  clear cd0
  have bB := Below.refl w3.heap.size w3
  have dr : ∀ X : World, Below X.heap.size X X.drew := fun X => (Below.refl _ _).drew
  replace bx := bx.below (dr _)
  replace cd := cd.below (dr _)
  refine wp_region_held_drew (S := fun wq => wq.cell? ⟨sb, 0, none⟩ = some (ptr lb) ∧ wq.cell? ⟨w.heap.size, 3, none⟩ = some (.int .i64 d)) (by kernel_rfl) ⟨(bx.get 0 _ rfl).1, (cd.get 3 _ rfl).1⟩ (fun hS => ?_)
  refine take_at 0 (some 88) (v := ?_) rfl rfl (by kernel_rfl) (by kernel_rfl) (by kernel_rfl) (fun _ _ _ h => h) ⟨by rfl, ?_⟩ hS ?_
  rotate_left
  · intro wq hSw; obtain ⟨s0, s3⟩ := hSw; go_simp; try rfl
  simp only [Act.put, List.setIfInBounds_toArray, List.set_cons_zero, List.set_cons_succ]
  refine take_at 1 (some 89) (v := ?_) rfl rfl (by kernel_rfl) (by kernel_rfl) (by kernel_rfl) (fun _ _ _ h => h) ⟨by rfl, ?_⟩ hS ?_
  rotate_left
  · intro wq hSw; obtain ⟨s0, s3⟩ := hSw; go_simp; try rfl
  simp only [Act.put, List.setIfInBounds_toArray, List.set_cons_zero, List.set_cons_succ]
  refine take_at 2 (some 90) (v := ?_) rfl rfl (by kernel_rfl) (by kernel_rfl) (by kernel_rfl) (fun _ _ _ h => h) ⟨by rfl, ?_⟩ hS ?_
  rotate_left
  · intro wq hSw; obtain ⟨s0, s3⟩ := hSw; go_simp; try rfl
  simp only [Act.put, List.setIfInBounds_toArray, List.set_cons_zero, List.set_cons_succ]
  refine take_at 3 (some 91) (v := ?_) rfl rfl (by kernel_rfl) (by kernel_rfl) (by kernel_rfl) (fun _ _ _ h => h) ⟨by rfl, ?_⟩ hS ?_
  rotate_left
  · intro wq hSw; obtain ⟨s0, s3⟩ := hSw; go_simp; try rfl
  simp only [Act.put, List.setIfInBounds_toArray, List.set_cons_zero, List.set_cons_succ]
  refine take_at 4 (some 92) (v := ?_) rfl rfl (by kernel_rfl) (by kernel_rfl) (by kernel_rfl) (fun _ _ _ h => h) ⟨by rfl, ?_⟩ hS ?_
  rotate_left
  · intro wq hSw; obtain ⟨s0, s3⟩ := hSw; go_simp; try rfl
  simp only [Act.put, List.setIfInBounds_toArray, List.set_cons_zero, List.set_cons_succ]
  refine take_at 5 (some 93) (v := ?_) rfl rfl (by kernel_rfl) (by kernel_rfl) (by kernel_rfl) (fun _ _ _ h => h) ⟨by rfl, ?_⟩ hS ?_
  rotate_left
  · intro wq hSw; obtain ⟨s0, s3⟩ := hSw; go_simp; try rfl
  simp only [Act.put, List.setIfInBounds_toArray, List.set_cons_zero, List.set_cons_succ]
  refine take_at 6 (some 94) (v := ?_) rfl rfl (by kernel_rfl) (by kernel_rfl) (by kernel_rfl) (fun _ _ _ h => h) ⟨by rfl, ?_⟩ hS ?_
  rotate_left
  · intro wq hSw; obtain ⟨s0, s3⟩ := hSw; go_simp; try rfl
  simp only [Act.put, List.setIfInBounds_toArray, List.set_cons_zero, List.set_cons_succ]
  refine take_at 7 (some 95) (v := ?_) rfl rfl (by kernel_rfl) (by kernel_rfl) (by kernel_rfl) (fun _ _ _ h => h) ⟨by rfl, ?_⟩ hS ?_
  rotate_left
  · intro wq hSw; obtain ⟨s0, s3⟩ := hSw; go_simp; try rfl
  simp only [Act.put, List.setIfInBounds_toArray, List.set_cons_zero, List.set_cons_succ]
  refine wpAnyH_ready (rs := [8]) (by kernel_rfl) (by simp) ?_
  refine AllReadyH.cons rfl (fun K hK => ?_) AllReadyH.nil
  go_simp
  go_wp2_with fail
  refine (KY.out _ (Below.refl _ _).drew).mono ?_
  rintro r x4 ⟨rfl, hb⟩
  replace bx := bx.below hb
  replace cd := cd.below hb
  have B4 := hide ((dr w3).trans (hb.mono (Nat.le_refl _)))
  go_wp2_with fail
  refine hK.out _ _ ⟨(bx.get 0 _ rfl).1, (cd.get 3 _ rfl).1⟩ (fun hS => ?_)
  clear hK K
  (try simp only [Act.put, List.setIfInBounds_toArray, List.set_cons_zero, List.set_cons_succ])
  refine take_at 9 (some 11) (v := ?_) rfl rfl (by kernel_rfl) (by kernel_rfl) (by kernel_rfl) (fun _ _ _ h => h) ⟨by rfl, ?_⟩ hS ?_
  rotate_left
  · intro wq hSw; go_simp; try rfl
  simp only [Act.put, List.setIfInBounds_toArray, List.set_cons_zero, List.set_cons_succ]
  refine wpAnyH_done (by kernel_rfl) ?_ _
  clear KY bB
  go_upto_region 21 with fail
  replace bx := bx.below (dr _)
  replace cd := cd.below (dr _)
  have lts := hide (show ∀ z, T z → z ≠ w.heap.size from OFF.out)
  refine wp_region_held_drew (S := fun wq => wq.cell? ⟨sb, 0, none⟩ = some (ptr lb) ∧ wq.cell? ⟨w.heap.size, 3, none⟩ = some (.int .i64 d)) (by kernel_rfl) ⟨(bx.get 0 _ rfl).1, (cd.get 3 _ rfl).1⟩ (fun hS => ?_)
  refine take_at 0 (some 97) (v := ?_) rfl rfl (by kernel_rfl) (by kernel_rfl) (by kernel_rfl) (fun _ _ _ h => h) ⟨by rfl, ?_⟩ hS ?_
  rotate_left
  · intro wq hSw; obtain ⟨s0, s3⟩ := hSw; go_simp; try rfl
  simp only [Act.put, List.setIfInBounds_toArray, List.set_cons_zero, List.set_cons_succ]
  refine take_at 1 (some 98) (v := ?_) rfl rfl (by kernel_rfl) (by kernel_rfl) (by kernel_rfl) (fun _ _ _ h => h) ⟨by rfl, ?_⟩ hS ?_
  rotate_left
  · intro wq hSw; obtain ⟨s0, s3⟩ := hSw; go_simp; try rfl
  simp only [Act.put, List.setIfInBounds_toArray, List.set_cons_zero, List.set_cons_succ]
  refine take_at 2 (some 99) (v := ?_) rfl rfl (by kernel_rfl) (by kernel_rfl) (by kernel_rfl) (fun _ _ _ h => h) ⟨by rfl, ?_⟩ hS ?_
  rotate_left
  · intro wq hSw; obtain ⟨s0, s3⟩ := hSw; go_simp; try rfl
  simp only [Act.put, List.setIfInBounds_toArray, List.set_cons_zero, List.set_cons_succ]
  refine take_at 3 (some 100) (v := ?_) rfl rfl (by kernel_rfl) (by kernel_rfl) (by kernel_rfl) (fun _ _ _ h => h) ⟨by rfl, ?_⟩ hS ?_
  rotate_left
  · intro wq hSw; obtain ⟨s0, s3⟩ := hSw; go_simp; try rfl
  simp only [Act.put, List.setIfInBounds_toArray, List.set_cons_zero, List.set_cons_succ]
  refine take_at 4 (some 101) (v := ?_) rfl rfl (by kernel_rfl) (by kernel_rfl) (by kernel_rfl) (fun _ _ _ h => h) ⟨by rfl, ?_⟩ hS ?_
  rotate_left
  · intro wq hSw; obtain ⟨s0, s3⟩ := hSw; go_simp; try rfl
  simp only [Act.put, List.setIfInBounds_toArray, List.set_cons_zero, List.set_cons_succ]
  refine take_at 5 (some 102) (v := ?_) rfl rfl (by kernel_rfl) (by kernel_rfl) (by kernel_rfl) (fun _ _ _ h => h) ⟨by rfl, ?_⟩ hS ?_
  rotate_left
  · intro wq hSw; obtain ⟨s0, s3⟩ := hSw; go_simp; try rfl
  simp only [Act.put, List.setIfInBounds_toArray, List.set_cons_zero, List.set_cons_succ]
  refine take_at 6 (some 103) (v := ?_) rfl rfl (by kernel_rfl) (by kernel_rfl) (by kernel_rfl) (fun _ _ _ h => h) ⟨by rfl, ?_⟩ hS ?_
  rotate_left
  · intro wq hSw; obtain ⟨s0, s3⟩ := hSw; go_simp; try rfl
  simp only [Act.put, List.setIfInBounds_toArray, List.set_cons_zero, List.set_cons_succ]
  refine take_at 7 (some 104) (v := ?_) rfl rfl (by kernel_rfl) (by kernel_rfl) (by kernel_rfl) (fun _ _ _ h => h) ⟨by rfl, ?_⟩ hS ?_
  rotate_left
  · intro wq hSw; obtain ⟨s0, s3⟩ := hSw; go_simp; try rfl
  simp only [Act.put, List.setIfInBounds_toArray, List.set_cons_zero, List.set_cons_succ]
  refine wpAnyH_ready (rs := [8]) (by kernel_rfl) (by simp) ?_
  refine AllReadyH.cons rfl (fun K hK => ?_) AllReadyH.nil
  go_simp
  go_wp2_with fail
  refine (KZ.out _ (B4.out.trans ((dr _).mono B4.out.size))).mono ?_
  rintro r x5 ⟨rfl, lab', T', hs5, hg5, hk5⟩
  replace bx := hs5.box
  replace cd := cd.keep hk5 (fun z => lts.out _ z rfl)
  have S5 := hide hs5
  have G5 := hide (G1.out.trans hg5)
  clear hs5 hg5 hk5 B4
  go_wp2_with fail
  refine hK.out _ _ ⟨(bx.get 0 _ rfl).1, (cd.get 3 _ rfl).1⟩ (fun hS => ?_)
  clear hK K
  (try simp only [Act.put, List.setIfInBounds_toArray, List.set_cons_zero, List.set_cons_succ])
  refine take_at 9 (some 12) (v := ?_) rfl rfl (by kernel_rfl) (by kernel_rfl) (by kernel_rfl) (fun _ _ _ h => h) ⟨by rfl, ?_⟩ hS ?_
  rotate_left
  · intro wq hSw; go_simp; try rfl
  simp only [Act.put, List.setIfInBounds_toArray, List.set_cons_zero, List.set_cons_succ]
  refine wpAnyH_done (by kernel_rfl) ?_ _
  clear KZ hS dr
  have E0 := hide (may_none (d := d) T6.out HID.out)
  have F1 : F = 120 := by rw [HF.out, E0.out]
  subst F1
  obtain ⟨eA, eH⟩ := add_not (C := ctrsOf es) (H := H) (t := t) (k := k) (d := d) (by rw [E0.out]; decide)
  rw [eA, eH] at S5
  go_wp2_with fail
  go_ret
  exact ⟨rfl, T', es, H, ⟨OK.out, lab', lb, _, _, S5.out⟩, G5.out⟩
set_option maxHeartbeats 8000000 in
theorem does_some {T : Nat → Prop} {w : World} {sb : Nat} {es : List SE} {H : Helds} (h : Sto T w sb es H) (kd tx ct d : Int) (hd : I64 d) (h5 : kd % 8 ≠ 5) (h6 : kd % 8 ≠ 6) {i : Nat} (hi : i < es.length) (hid : es[i].id = 1 + ct % 8) : Calls Tryz.prog 11 #[ptr sb, .agg #[.int .i64 kd, .int .i64 tx, .int .i64 ct, .int .i64 d]] w fun r w' => DoesPost T w sb r w' := by
  obtain ⟨ok, lab, lb, vc, ve, hs⟩ := h
  obtain ⟨a1, c1, a2, c2, rfl, rfl⟩ := hs.form
  obtain ⟨n, hn⟩ : ∃ n, n = es.length := ⟨_, rfl⟩
  rw [← hn] at hs
  have n8 : n ≤ 8 := by rw [hn]; exact ok.few
  obtain ⟨t, ht⟩ : ∃ t, t = 1 + tx % 6 := ⟨_, rfl⟩
  have KM := hide (fun w' => modulo_any tx 6 w' (by omega) (by omega))
  have KK := hide (fun w' => modulo_any kd 8 w' (by omega) (by omega))
  have ti : IntKind.i64.wrap (1 + tx % 6) = t := by rw [IntKind.wrap_i64]; omega
  have ti2 : wrap64 (1 + tx % 6) = t := by unfold wrap64; omega
  have hx : I64 t := by unfold I64; omega
  have T6 := hide (show 1 ≤ t ∧ t ≤ 6 by omega)
  have HX := hide hx
  have bw := alloc_below w (.cells #[.int .i64 kd, .int .i64 tx, .int .i64 ct, .int .i64 d] 30)
  have cd := Cells.new w #[.int .i64 kd, .int .i64 tx, .int .i64 ct, .int .i64 d] 30
  have OFF := hide (show ∀ z, T z → z ≠ w.heap.size from fun z hz => by have := hs.lt z hz; omega)
  have HN := hide hn
  have OK := hide ok
  clear hn ht hx ok
  have HS := hide (hs.below bw)
  have G0 := hide (Gone.of_below (T := T) bw)
  clear hs bw
  have KC := hide (fun w' => modulo_any ct 8 w' (by omega) (by omega))
  obtain ⟨k, hk⟩ : ∃ k, k = 1 + ct % 8 := ⟨_, rfl⟩
  rw [← hk] at hid
  have ki : IntKind.i64.wrap (1 + ct % 8) = k := by rw [IntKind.wrap_i64]; omega
  have ki2 : wrap64 (1 + ct % 8) = k := by unfold wrap64; omega
  have hk64 : I64 k := by unfold I64; omega
  have HK := hide hk64
  have HID := hide hid
  have HD := hide hd
  have q5 : (kd % 8 == 5) = false := by simpa using h5
  have q6 : (kd % 8 == 6) = false := by simpa using h6
  clear hk hk64 hid hd h5 h6
  generalize kd % 8 = m8 at *
  go_enter Tryz.func11, Tryz.ntmps11
  go_upto_region 1 with fail
  obtain ⟨g1, -⟩ := cd.get 1 _ rfl
  go_upto_region 2 with (go_at_call 16; refine (KM.out _).mono ?_; rintro r w1 ⟨rfl, hb⟩; have S1 := hide (HS.out.below hb); have G1 := hide (G0.out.trans (Gone.of_below hb)); replace cd := cd.below hb; clear HS G0 KM g1)
  obtain ⟨k0, -⟩ := cd.get 0 _ rfl
  go_upto_region 4 with (go_at_call 16; refine (KK.out _).mono ?_; rintro r w2 ⟨rfl, hb⟩; have HS := hide (S1.out.below hb); have G0 := hide (G1.out.trans (Gone.of_below hb)); replace cd := cd.below hb; clear S1 G1 k0 KK)
  obtain ⟨k2, -⟩ := cd.get 2 _ rfl
  go_upto_region 19 with (go_at_call 16; refine (KC.out _).mono ?_; rintro r w3 ⟨rfl, hb⟩; have S1 := hide (HS.out.below hb); have G1 := hide (G0.out.trans (Gone.of_below hb)); replace cd := cd.below hb; clear HS G0 k2 KC)
  clear ti ti2 ki ki2 q5 q6
  obtain ⟨a', c', e', hlr, -⟩ := GRow.lies S1.out.rc
  obtain ⟨rfl, rfl⟩ : a1 = a' ∧ c1 = c' := by cases e'; exact ⟨rfl, rfl⟩
  clear e'
  have KA := hide (at_any es sb lb a1 n c1 _ k w3 S1.out.box hlr HN.out n8)
  clear hlr
  have AT := hide (show ∀ r w', (((∃ j, ∃ h : j < es.length, r = Ending.returned (.int .i64 (j : Int)) ∧ es[j].id = k) ∨ (r = .returned (.int .i64 (-1)) ∧ ∀ x ∈ es, x.id ≠ k)) ∧ w3 = w') → r = .returned (.int .i64 (i : Int)) ∧ w3 = w' from fun r w' q => by
    refine ⟨?_, q.2⟩
    rcases q.1 with ⟨j, hj, rfl, e⟩ | ⟨-, e⟩
    · have hp := S1.out.led
      obtain ⟨S, hl, -⟩ := hp
      have nd := List.pairwise_iff_getElem.1 (ids_nodup hl.ok.1.up)
      have : j = i := by
        rcases Nat.lt_trichotomy j i with q | q | q
        · have n1 := nd j i (by simpa using hj) (by simpa using hi) q
          exact absurd (by rw [List.getElem_map, List.getElem_map, e, HID.out]) n1
        · exact q
        · have n1 := nd i j (by simpa using hi) (by simpa using hj) q
          exact absurd (by rw [List.getElem_map, List.getElem_map, e, HID.out]) n1
      rw [this]
    · exact absurd HID.out (e _ (List.getElem_mem hi)))
  go_upto_region 20 with (go_at_call 25; refine KA.out.mono ?_; intro r w' q; obtain ⟨rfl, rfl⟩ := AT.out _ _ q)
  clear KA AT
  have hi8 : i < n := by rw [HN.out]; exact hi
  have UP := hide (show Up (ctrsOf es) by obtain ⟨S, hl, -⟩ := S1.out.led; exact hl.ok.1.up)
  have KY := hide (show ∀ w', Below w3.heap.size w3 w' → Calls Tryz.prog 27 #[ptr lb, .int .i64 t, .int .i64 k, .int .i64 d] w' fun r w'' => r = .returned (.int .i64 (mayL (ctrsOf es) t k d)) ∧ Below w'.heap.size w' w'' from fun w' hb => by
    obtain ⟨S, hl, -⟩ := (S1.out.below hb).led
    exact lg_may hl HX.out HK.out HD.out)
  have KZ := hide (show ∀ w', Below w3.heap.size w3 w' → Calls Tryz.prog 48 #[ptr lb, .int .i64 t, .int .i64 k, .int .i64 d] w' fun r w'' => r = .returned (.int .i64 (mayL (ctrsOf es) t k d)) ∧ ∃ lab' T', St lab' T' w'' sb lb (.slice a1 n c1) (.slice a2 n c2) es (addL (ctrsOf es) t k d) (heldA (ctrsOf es) H t k d) ∧ Gone T w3 T' w'' ∧ Keep (fun z => T z) w' w'' from fun w' hb => by
    obtain ⟨S, hl, hnx⟩ := (S1.out.below hb).ledger
    have few : H.length < 3000000000 := by have := helds_few OK.out hl.ok.2; omega
    refine (lg_add hl HX.out HK.out HD.out (fun c hc => ?_) few).mono ?_
    · obtain ⟨x, hx, -, rfl⟩ := mem_of_get hc
      obtain ⟨j, hj, rfl⟩ := List.getElem_of_mem hx
      have := nets_few OK.out hx (S1.out.esc j hj).ok
      show es[j].e.nets.length < _
      omega
    · rintro r w'' ⟨rfl, hL⟩
      obtain ⟨lab', T', hs', hg'⟩ := hnx _ _ _ hL
      exact ⟨rfl, lab', T', hs', (Gone.of_below hb).trans hg', hg'.k⟩)
  obtain ⟨F, hF⟩ : ∃ F, F = mayL (ctrsOf es) t k d := ⟨_, rfl⟩
  rw [← hF] at KY KZ
  have HF := hide hF
  clear hF
  obtain ⟨bx, cd0⟩ : Cells w3 sb [ptr lb, .slice a1 n c1, .slice a2 n c2] ∧ True := ⟨S1.out.box, trivial⟩
  clear cd0
  have bB := Below.refl w3.heap.size w3
  have dr : ∀ X : World, Below X.heap.size X X.drew := fun X => (Below.refl _ _).drew
  replace bx := bx.below (dr _)
  replace cd := cd.below (dr _)
  refine wp_region_held_drew (S := fun wq => wq.cell? ⟨sb, 0, none⟩ = some (ptr lb) ∧ wq.cell? ⟨w.heap.size, 3, none⟩ = some (.int .i64 d)) (by kernel_rfl) ⟨(bx.get 0 _ rfl).1, (cd.get 3 _ rfl).1⟩ (fun hS => ?_)
  refine take_at 0 (some 88) (v := ?_) rfl rfl (by kernel_rfl) (by kernel_rfl) (by kernel_rfl) (fun _ _ _ h => h) ⟨by rfl, ?_⟩ hS ?_
  rotate_left
  · intro wq hSw; obtain ⟨s0, s3⟩ := hSw; go_simp; try rfl
  simp only [Act.put, List.setIfInBounds_toArray, List.set_cons_zero, List.set_cons_succ]
  refine take_at 1 (some 89) (v := ?_) rfl rfl (by kernel_rfl) (by kernel_rfl) (by kernel_rfl) (fun _ _ _ h => h) ⟨by rfl, ?_⟩ hS ?_
  rotate_left
  · intro wq hSw; obtain ⟨s0, s3⟩ := hSw; go_simp; try rfl
  simp only [Act.put, List.setIfInBounds_toArray, List.set_cons_zero, List.set_cons_succ]
  refine take_at 2 (some 90) (v := ?_) rfl rfl (by kernel_rfl) (by kernel_rfl) (by kernel_rfl) (fun _ _ _ h => h) ⟨by rfl, ?_⟩ hS ?_
  rotate_left
  · intro wq hSw; obtain ⟨s0, s3⟩ := hSw; go_simp; try rfl
  simp only [Act.put, List.setIfInBounds_toArray, List.set_cons_zero, List.set_cons_succ]
  refine take_at 3 (some 91) (v := ?_) rfl rfl (by kernel_rfl) (by kernel_rfl) (by kernel_rfl) (fun _ _ _ h => h) ⟨by rfl, ?_⟩ hS ?_
  rotate_left
  · intro wq hSw; obtain ⟨s0, s3⟩ := hSw; go_simp; try rfl
  simp only [Act.put, List.setIfInBounds_toArray, List.set_cons_zero, List.set_cons_succ]
  refine take_at 4 (some 92) (v := ?_) rfl rfl (by kernel_rfl) (by kernel_rfl) (by kernel_rfl) (fun _ _ _ h => h) ⟨by rfl, ?_⟩ hS ?_
  rotate_left
  · intro wq hSw; obtain ⟨s0, s3⟩ := hSw; go_simp; try rfl
  simp only [Act.put, List.setIfInBounds_toArray, List.set_cons_zero, List.set_cons_succ]
  refine take_at 5 (some 93) (v := ?_) rfl rfl (by kernel_rfl) (by kernel_rfl) (by kernel_rfl) (fun _ _ _ h => h) ⟨by rfl, ?_⟩ hS ?_
  rotate_left
  · intro wq hSw; obtain ⟨s0, s3⟩ := hSw; go_simp; try rfl
  simp only [Act.put, List.setIfInBounds_toArray, List.set_cons_zero, List.set_cons_succ]
  refine take_at 6 (some 94) (v := ?_) rfl rfl (by kernel_rfl) (by kernel_rfl) (by kernel_rfl) (fun _ _ _ h => h) ⟨by rfl, ?_⟩ hS ?_
  rotate_left
  · intro wq hSw; obtain ⟨s0, s3⟩ := hSw; go_simp; try rfl
  simp only [Act.put, List.setIfInBounds_toArray, List.set_cons_zero, List.set_cons_succ]
  refine take_at 7 (some 95) (v := ?_) rfl rfl (by kernel_rfl) (by kernel_rfl) (by kernel_rfl) (fun _ _ _ h => h) ⟨by rfl, ?_⟩ hS ?_
  rotate_left
  · intro wq hSw; obtain ⟨s0, s3⟩ := hSw; go_simp; try rfl
  simp only [Act.put, List.setIfInBounds_toArray, List.set_cons_zero, List.set_cons_succ]
  refine wpAnyH_ready (rs := [8]) (by kernel_rfl) (by simp) ?_
  refine AllReadyH.cons rfl (fun K hK => ?_) AllReadyH.nil
  go_simp
  go_wp2_with fail
  refine (KY.out _ (Below.refl _ _).drew).mono ?_
  rintro r x4 ⟨rfl, hb⟩
  replace bx := bx.below hb
  replace cd := cd.below hb
  have B4 := hide ((dr w3).trans (hb.mono (Nat.le_refl _)))
  go_wp2_with fail
  refine hK.out _ _ ⟨(bx.get 0 _ rfl).1, (cd.get 3 _ rfl).1⟩ (fun hS => ?_)
  clear hK K
  (try simp only [Act.put, List.setIfInBounds_toArray, List.set_cons_zero, List.set_cons_succ])
  refine take_at 9 (some 11) (v := ?_) rfl rfl (by kernel_rfl) (by kernel_rfl) (by kernel_rfl) (fun _ _ _ h => h) ⟨by rfl, ?_⟩ hS ?_
  rotate_left
  · intro wq hSw; go_simp; try rfl
  simp only [Act.put, List.setIfInBounds_toArray, List.set_cons_zero, List.set_cons_succ]
  refine wpAnyH_done (by kernel_rfl) ?_ _
  clear KY bB
  go_upto_region 21 with fail
  replace bx := bx.below (dr _)
  replace cd := cd.below (dr _)
  have lts := hide (show ∀ z, T z → z ≠ w.heap.size from OFF.out)
  refine wp_region_held_drew (S := fun wq => wq.cell? ⟨sb, 0, none⟩ = some (ptr lb) ∧ wq.cell? ⟨w.heap.size, 3, none⟩ = some (.int .i64 d)) (by kernel_rfl) ⟨(bx.get 0 _ rfl).1, (cd.get 3 _ rfl).1⟩ (fun hS => ?_)
  refine take_at 0 (some 97) (v := ?_) rfl rfl (by kernel_rfl) (by kernel_rfl) (by kernel_rfl) (fun _ _ _ h => h) ⟨by rfl, ?_⟩ hS ?_
  rotate_left
  · intro wq hSw; obtain ⟨s0, s3⟩ := hSw; go_simp; try rfl
  simp only [Act.put, List.setIfInBounds_toArray, List.set_cons_zero, List.set_cons_succ]
  refine take_at 1 (some 98) (v := ?_) rfl rfl (by kernel_rfl) (by kernel_rfl) (by kernel_rfl) (fun _ _ _ h => h) ⟨by rfl, ?_⟩ hS ?_
  rotate_left
  · intro wq hSw; obtain ⟨s0, s3⟩ := hSw; go_simp; try rfl
  simp only [Act.put, List.setIfInBounds_toArray, List.set_cons_zero, List.set_cons_succ]
  refine take_at 2 (some 99) (v := ?_) rfl rfl (by kernel_rfl) (by kernel_rfl) (by kernel_rfl) (fun _ _ _ h => h) ⟨by rfl, ?_⟩ hS ?_
  rotate_left
  · intro wq hSw; obtain ⟨s0, s3⟩ := hSw; go_simp; try rfl
  simp only [Act.put, List.setIfInBounds_toArray, List.set_cons_zero, List.set_cons_succ]
  refine take_at 3 (some 100) (v := ?_) rfl rfl (by kernel_rfl) (by kernel_rfl) (by kernel_rfl) (fun _ _ _ h => h) ⟨by rfl, ?_⟩ hS ?_
  rotate_left
  · intro wq hSw; obtain ⟨s0, s3⟩ := hSw; go_simp; try rfl
  simp only [Act.put, List.setIfInBounds_toArray, List.set_cons_zero, List.set_cons_succ]
  refine take_at 4 (some 101) (v := ?_) rfl rfl (by kernel_rfl) (by kernel_rfl) (by kernel_rfl) (fun _ _ _ h => h) ⟨by rfl, ?_⟩ hS ?_
  rotate_left
  · intro wq hSw; obtain ⟨s0, s3⟩ := hSw; go_simp; try rfl
  simp only [Act.put, List.setIfInBounds_toArray, List.set_cons_zero, List.set_cons_succ]
  refine take_at 5 (some 102) (v := ?_) rfl rfl (by kernel_rfl) (by kernel_rfl) (by kernel_rfl) (fun _ _ _ h => h) ⟨by rfl, ?_⟩ hS ?_
  rotate_left
  · intro wq hSw; obtain ⟨s0, s3⟩ := hSw; go_simp; try rfl
  simp only [Act.put, List.setIfInBounds_toArray, List.set_cons_zero, List.set_cons_succ]
  refine take_at 6 (some 103) (v := ?_) rfl rfl (by kernel_rfl) (by kernel_rfl) (by kernel_rfl) (fun _ _ _ h => h) ⟨by rfl, ?_⟩ hS ?_
  rotate_left
  · intro wq hSw; obtain ⟨s0, s3⟩ := hSw; go_simp; try rfl
  simp only [Act.put, List.setIfInBounds_toArray, List.set_cons_zero, List.set_cons_succ]
  refine take_at 7 (some 104) (v := ?_) rfl rfl (by kernel_rfl) (by kernel_rfl) (by kernel_rfl) (fun _ _ _ h => h) ⟨by rfl, ?_⟩ hS ?_
  rotate_left
  · intro wq hSw; obtain ⟨s0, s3⟩ := hSw; go_simp; try rfl
  simp only [Act.put, List.setIfInBounds_toArray, List.set_cons_zero, List.set_cons_succ]
  refine wpAnyH_ready (rs := [8]) (by kernel_rfl) (by simp) ?_
  refine AllReadyH.cons rfl (fun K hK => ?_) AllReadyH.nil
  go_simp
  go_wp2_with fail
  refine (KZ.out _ (B4.out.trans ((dr _).mono B4.out.size))).mono ?_
  rintro r x5 ⟨rfl, lab', T', hs5, hg5, hk5⟩
  replace bx := hs5.box
  replace cd := cd.keep hk5 (fun z => lts.out _ z rfl)
  have S5 := hide hs5
  have G5 := hide (G1.out.trans hg5)
  clear hs5 hg5 hk5 B4
  go_wp2_with fail
  refine hK.out _ _ ⟨(bx.get 0 _ rfl).1, (cd.get 3 _ rfl).1⟩ (fun hS => ?_)
  clear hK K
  (try simp only [Act.put, List.setIfInBounds_toArray, List.set_cons_zero, List.set_cons_succ])
  refine take_at 9 (some 12) (v := ?_) rfl rfl (by kernel_rfl) (by kernel_rfl) (by kernel_rfl) (fun _ _ _ h => h) ⟨by rfl, ?_⟩ hS ?_
  rotate_left
  · intro wq hSw; go_simp; try rfl
  simp only [Act.put, List.setIfInBounds_toArray, List.set_cons_zero, List.set_cons_succ]
  refine wpAnyH_done (by kernel_rfl) ?_ _
  clear KZ hS dr
  have S5e := hide (S5.out.esc i hi)
  obtain ⟨b, off, rfl, pc, hTb, hlb⟩ := S5.out.ptrAt hi
  have KE := hide (show ∀ w', Below x5.heap.size x5 w' → Calls Tryz.prog 26 #[ptr es[i].eb, .int .i64 t, .int .i64 d] w' fun r w'' => r = .returned (.int .i64 (mayE es[i].e t d)) ∧ Below w'.heap.size w' w'' from fun w' hb => may_any es[i].eb es[i].mb es[i].e t d w' (S5e.out.below hb) HX.out HD.out)
  have KD := hide (show ∀ w', Below x5.heap.size x5 w' → Calls Tryz.prog 28 #[ptr es[i].eb, .int .i64 t, .int .i64 d] w' fun r w'' => r = .returned (.int .i64 (mayE es[i].e t d)) ∧ Keep (two es[i].eb es[i].mb) w' w'' ∧ PE w'' es[i].eb es[i].mb (addN es[i].e t d) from fun w' hb => add_any' es[i].eb es[i].mb es[i].e t d w' (S5e.out.below hb) HX.out HD.out (by have := nets_few OK.out (List.getElem_mem hi) S5e.out.ok; omega))
  obtain ⟨E, hE⟩ : ∃ E, E = mayE es[i].e t d := ⟨_, rfl⟩
  rw [← hE] at KE KD
  have HE := hide hE
  have MS := hide (may_some UP.out (d := d) T6.out hi)
  rw [HID.out, ← HF.out, ← hE] at MS
  clear hE
  go_upto_region 26 with fail
  have dr : ∀ X : World, Below X.heap.size X X.drew := fun X => (Below.refl _ _).drew
  have PC := hide (show ∀ w', Below x5.heap.size x5 w' → w'.cell? ⟨b, off + i, none⟩ = some (ptr es[i].eb) from fun w' hb => (hb.cell (p := ⟨b, off + i, none⟩) (S5.out.lt b hTb)).trans pc)
  have BX := hide (show ∀ w', Below x5.heap.size x5 w' → Cells w' sb [ptr lb, .slice a1 n c1, .slice (some ⟨b, off, none⟩) n c2] from fun w' hb => bx.below hb)
  have CD := hide (show ∀ w', Below x5.heap.size x5 w' → Cells w' w.heap.size [.int .i64 kd, .int .i64 tx, .int .i64 ct, .int .i64 d] from fun w' hb => cd.below hb)
  clear bx cd pc
  refine wp_region_held_drew (S := fun wq => wq.cell? ⟨sb, 2, none⟩ = some (.slice (some ⟨b, off, none⟩) n c2) ∧ wq.cell? ⟨b, off + i, none⟩ = some (ptr es[i].eb) ∧ wq.cell? ⟨w.heap.size, 3, none⟩ = some (.int .i64 d)) (by kernel_rfl) ⟨((BX.out _ (dr _)).get 2 _ rfl).1, PC.out _ (dr _), ((CD.out _ (dr _)).get 3 _ rfl).1⟩ (fun hS => ?_)
  refine take_at 0 (some 113) (v := ?_) rfl rfl (by kernel_rfl) (by kernel_rfl) (by kernel_rfl) (fun _ _ _ h => h) ⟨by rfl, ?_⟩ hS ?_
  rotate_left
  · intro wq hSw; obtain ⟨s2, sp, s3⟩ := hSw; go_simp; try rfl
  simp only [Act.put, List.setIfInBounds_toArray, List.set_cons_zero, List.set_cons_succ]
  refine take_at 1 (some 114) (v := ?_) rfl rfl (by kernel_rfl) (by kernel_rfl) (by kernel_rfl) (fun _ _ _ h => h) ⟨by rfl, ?_⟩ hS ?_
  rotate_left
  · intro wq hSw; obtain ⟨s2, sp, s3⟩ := hSw; go_simp; try rfl
  simp only [Act.put, List.setIfInBounds_toArray, List.set_cons_zero, List.set_cons_succ]
  refine take_at 2 (some 115) (v := ?_) rfl rfl (by kernel_rfl) (by kernel_rfl) (by kernel_rfl) (fun _ _ _ h => h) ⟨by rfl, ?_⟩ hS ?_
  rotate_left
  · intro wq hSw; obtain ⟨s2, sp, s3⟩ := hSw; go_simp; try rfl
  simp only [Act.put, List.setIfInBounds_toArray, List.set_cons_zero, List.set_cons_succ]
  refine take_at 3 (some 116) (v := ?_) rfl rfl (by kernel_rfl) (by kernel_rfl) (by kernel_rfl) (fun _ _ _ h => h) ⟨by rfl, ?_⟩ hS ?_
  rotate_left
  · intro wq hSw; obtain ⟨s2, sp, s3⟩ := hSw; go_simp; try rfl
  simp only [Act.put, List.setIfInBounds_toArray, List.set_cons_zero, List.set_cons_succ]
  refine take_at 4 (some 117) (v := ?_) rfl rfl (by kernel_rfl) (by kernel_rfl) (by kernel_rfl) (fun _ _ _ h => h) ⟨by rfl, ?_⟩ hS ?_
  rotate_left
  · intro wq hSw; obtain ⟨s2, sp, s3⟩ := hSw; go_simp; try rfl
  simp only [Act.put, List.setIfInBounds_toArray, List.set_cons_zero, List.set_cons_succ]
  refine take_at 5 (some 118) (v := ?_) rfl rfl (by kernel_rfl) (by kernel_rfl) (by kernel_rfl) (fun _ _ _ h => h) ⟨by rfl, ?_⟩ hS ?_
  rotate_left
  · intro wq hSw; obtain ⟨s2, sp, s3⟩ := hSw; go_simp; try rfl
  simp only [Act.put, List.setIfInBounds_toArray, List.set_cons_zero, List.set_cons_succ]
  refine take_at 6 (some 119) (v := ?_) rfl rfl (by kernel_rfl) (by kernel_rfl) (by kernel_rfl) (fun _ _ _ h => h) ⟨by rfl, ?_⟩ hS ?_
  rotate_left
  · intro wq hSw; obtain ⟨s2, sp, s3⟩ := hSw; go_simp; try rfl
  simp only [Act.put, List.setIfInBounds_toArray, List.set_cons_zero, List.set_cons_succ]
  refine take_at 7 (some 120) (v := ?_) rfl rfl (by kernel_rfl) (by kernel_rfl) (by kernel_rfl) (fun _ _ _ h => h) ⟨by rfl, ?_⟩ hS ?_
  rotate_left
  · intro wq hSw; obtain ⟨s2, sp, s3⟩ := hSw; go_simp; try rfl
  simp only [Act.put, List.setIfInBounds_toArray, List.set_cons_zero, List.set_cons_succ]
  refine take_at 8 (some 121) (v := ?_) rfl rfl (by kernel_rfl) (by kernel_rfl) (by kernel_rfl) (fun _ _ _ h => h) ⟨by rfl, ?_⟩ hS ?_
  rotate_left
  · intro wq hSw; obtain ⟨s2, sp, s3⟩ := hSw; go_simp; try rfl
  simp only [Act.put, List.setIfInBounds_toArray, List.set_cons_zero, List.set_cons_succ]
  refine take_at 9 (some 122) (v := ?_) rfl rfl (by kernel_rfl) (by kernel_rfl) (by kernel_rfl) (fun _ _ _ h => h) ⟨by rfl, ?_⟩ hS ?_
  rotate_left
  · intro wq hSw; obtain ⟨s2, sp, s3⟩ := hSw; go_simp; try rfl
  simp only [Act.put, List.setIfInBounds_toArray, List.set_cons_zero, List.set_cons_succ]
  refine wpAnyH_ready (rs := [10]) (by kernel_rfl) (by simp) ?_
  refine AllReadyH.cons rfl (fun K hK => ?_) AllReadyH.nil
  go_simp
  go_wp2_with fail
  refine (KE.out _ (dr _)).mono ?_
  rintro r x6 ⟨rfl, hb⟩
  have B6 := hide ((dr x5).trans (hb.mono (Nat.le_refl _)))
  go_wp2_with fail
  refine hK.out _ _ ⟨((BX.out _ B6.out).get 2 _ rfl).1, PC.out _ B6.out, ((CD.out _ B6.out).get 3 _ rfl).1⟩ (fun hS => ?_)
  clear hK K
  (try simp only [Act.put, List.setIfInBounds_toArray, List.set_cons_zero, List.set_cons_succ])
  refine take_at 11 (some 13) (v := ?_) rfl rfl (by kernel_rfl) (by kernel_rfl) (by kernel_rfl) (fun _ _ _ h => h) ⟨by rfl, ?_⟩ hS ?_
  rotate_left
  · intro wq hSw; go_simp; try rfl
  simp only [Act.put, List.setIfInBounds_toArray, List.set_cons_zero, List.set_cons_succ]
  refine wpAnyH_done (by kernel_rfl) ?_ _
  clear KE hS
  by_cases hE0 : E = 0
  · subst hE0
    have MS2 : F = 0 ∨ F = 10 := by rcases MS.out with q | q; exact .inl q; exact q.2
    clear MS
    rcases MS2 with rfl | rfl
    · go_upto_region 31 with fail
      refine wp_region_held_drew (S := fun wq => wq.cell? ⟨sb, 2, none⟩ = some (.slice (some ⟨b, off, none⟩) n c2) ∧ wq.cell? ⟨b, off + i, none⟩ = some (ptr es[i].eb) ∧ wq.cell? ⟨w.heap.size, 3, none⟩ = some (.int .i64 d)) (by kernel_rfl) ⟨((BX.out _ (B6.out.trans ((dr _).mono B6.out.size))).get 2 _ rfl).1, PC.out _ (B6.out.trans ((dr _).mono B6.out.size)), ((CD.out _ (B6.out.trans ((dr _).mono B6.out.size))).get 3 _ rfl).1⟩ (fun hS => ?_)
      refine take_at 0 (some 131) (v := ?_) rfl rfl (by kernel_rfl) (by kernel_rfl) (by kernel_rfl) (fun _ _ _ h => h) ⟨by rfl, ?_⟩ hS ?_
      rotate_left
      · intro wq hSw; go_simp; try rfl
      simp only [Act.put, List.setIfInBounds_toArray, List.set_cons_zero, List.set_cons_succ]
      refine take_at 1 (some 132) (v := ?_) rfl rfl (by kernel_rfl) (by kernel_rfl) (by kernel_rfl) (fun _ _ _ h => h) ⟨by rfl, ?_⟩ hS ?_
      rotate_left
      · intro wq hSw; go_simp; try rfl
      simp only [Act.put, List.setIfInBounds_toArray, List.set_cons_zero, List.set_cons_succ]
      refine take_at 2 (some 133) (v := ?_) rfl rfl (by kernel_rfl) (by kernel_rfl) (by kernel_rfl) (fun _ _ _ h => h) ⟨by rfl, ?_⟩ hS ?_
      rotate_left
      · intro wq hSw; go_simp; try rfl
      simp only [Act.put, List.setIfInBounds_toArray, List.set_cons_zero, List.set_cons_succ]
      refine take_at 3 (some 134) (v := ?_) rfl rfl (by kernel_rfl) (by kernel_rfl) (by kernel_rfl) (fun _ _ _ h => h) ⟨by rfl, ?_⟩ hS ?_
      rotate_left
      · intro wq hSw; obtain ⟨s2, sp, s3⟩ := hSw; go_simp; try rfl
      simp only [Act.put, List.setIfInBounds_toArray, List.set_cons_zero, List.set_cons_succ]
      refine take_at 4 (some 135) (v := ?_) rfl rfl (by kernel_rfl) (by kernel_rfl) (by kernel_rfl) (fun _ _ _ h => h) ⟨by rfl, ?_⟩ hS ?_
      rotate_left
      · intro wq hSw; obtain ⟨s2, sp, s3⟩ := hSw; go_simp; try rfl
      simp only [Act.put, List.setIfInBounds_toArray, List.set_cons_zero, List.set_cons_succ]
      refine take_at 5 (some 136) (v := ?_) rfl rfl (by kernel_rfl) (by kernel_rfl) (by kernel_rfl) (fun _ _ _ h => h) ⟨by rfl, ?_⟩ hS ?_
      rotate_left
      · intro wq hSw; obtain ⟨s2, sp, s3⟩ := hSw; go_simp; try rfl
      simp only [Act.put, List.setIfInBounds_toArray, List.set_cons_zero, List.set_cons_succ]
      refine take_at 6 (some 137) (v := ?_) rfl rfl (by kernel_rfl) (by kernel_rfl) (by kernel_rfl) (fun _ _ _ h => h) ⟨by rfl, ?_⟩ hS ?_
      rotate_left
      · intro wq hSw; obtain ⟨s2, sp, s3⟩ := hSw; go_simp; try rfl
      simp only [Act.put, List.setIfInBounds_toArray, List.set_cons_zero, List.set_cons_succ]
      refine take_at 7 (some 138) (v := ?_) rfl rfl (by kernel_rfl) (by kernel_rfl) (by kernel_rfl) (fun _ _ _ h => h) ⟨by rfl, ?_⟩ hS ?_
      rotate_left
      · intro wq hSw; obtain ⟨s2, sp, s3⟩ := hSw; go_simp; try rfl
      simp only [Act.put, List.setIfInBounds_toArray, List.set_cons_zero, List.set_cons_succ]
      refine take_at 8 (some 139) (v := ?_) rfl rfl (by kernel_rfl) (by kernel_rfl) (by kernel_rfl) (fun _ _ _ h => h) ⟨by rfl, ?_⟩ hS ?_
      rotate_left
      · intro wq hSw; obtain ⟨s2, sp, s3⟩ := hSw; go_simp; try rfl
      simp only [Act.put, List.setIfInBounds_toArray, List.set_cons_zero, List.set_cons_succ]
      refine take_at 9 (some 140) (v := ?_) rfl rfl (by kernel_rfl) (by kernel_rfl) (by kernel_rfl) (fun _ _ _ h => h) ⟨by rfl, ?_⟩ hS ?_
      rotate_left
      · intro wq hSw; obtain ⟨s2, sp, s3⟩ := hSw; go_simp; try rfl
      simp only [Act.put, List.setIfInBounds_toArray, List.set_cons_zero, List.set_cons_succ]
      refine take_at 10 (some 141) (v := ?_) rfl rfl (by kernel_rfl) (by kernel_rfl) (by kernel_rfl) (fun _ _ _ h => h) ⟨by rfl, ?_⟩ hS ?_
      rotate_left
      · intro wq hSw; obtain ⟨s2, sp, s3⟩ := hSw; go_simp; try rfl
      simp only [Act.put, List.setIfInBounds_toArray, List.set_cons_zero, List.set_cons_succ]
      refine take_at 11 (some 142) (v := ?_) rfl rfl (by kernel_rfl) (by kernel_rfl) (by kernel_rfl) (fun _ _ _ h => h) ⟨by rfl, ?_⟩ hS ?_
      rotate_left
      · intro wq hSw; obtain ⟨s2, sp, s3⟩ := hSw; go_simp; try rfl
      simp only [Act.put, List.setIfInBounds_toArray, List.set_cons_zero, List.set_cons_succ]
      refine take_at 12 (some 143) (v := ?_) rfl rfl (by kernel_rfl) (by kernel_rfl) (by kernel_rfl) (fun _ _ _ h => h) ⟨by rfl, ?_⟩ hS ?_
      rotate_left
      · intro wq hSw; obtain ⟨s2, sp, s3⟩ := hSw; go_simp; try rfl
      simp only [Act.put, List.setIfInBounds_toArray, List.set_cons_zero, List.set_cons_succ]
      refine wpAnyH_ready (rs := [13]) (by kernel_rfl) (by simp) ?_
      refine AllReadyH.cons rfl (fun K hK => ?_) AllReadyH.nil
      go_simp
      go_wp2_with fail
      refine (KD.out _ (B6.out.trans ((dr _).mono B6.out.size))).mono ?_
      rintro r x7 ⟨rfl, hk7, hp7⟩
      have B7 := (S5.out.below (B6.out.trans ((dr _).mono B6.out.size))).escrow hi hk7 hp7 (addN_ends _ _ _).1 (addN_ends _ _ _).2
      obtain ⟨le1, le2, le3, le4⟩ := S5.out.le i hi
      have nb : ¬ two es[i].eb es[i].mb b := fun q => by rcases q with q | q <;> subst q <;> omega
      have nd : ¬ two es[i].eb es[i].mb w.heap.size := fun q => by rcases q with q | q; exact OFF.out _ (S1.out.le i hi).1 q.symm; exact OFF.out _ (S1.out.le i hi).2.1 q.symm
      have S7 := hide B7.1
      have G7 := hide (G5.out.trans ((Gone.of_below (B6.out.trans ((dr _).mono B6.out.size))).trans B7.2))
      have c7 := (CD.out _ (B6.out.trans ((dr _).mono B6.out.size))).keep hk7 nd
      have p7 := (hk7.cell (p := ⟨b, off + i, none⟩) (Nat.lt_of_lt_of_le (S5.out.lt b hTb) (B6.out.trans ((dr _).mono B6.out.size)).size) nb).trans (PC.out _ (B6.out.trans ((dr _).mono B6.out.size)))
      go_wp2_with fail
      refine hK.out _ _ ⟨(S7.out.box.get 2 _ rfl).1, p7, (c7.get 3 _ rfl).1⟩ (fun hS => ?_)
      clear hK K
      (try simp only [Act.put, List.setIfInBounds_toArray, List.set_cons_zero, List.set_cons_succ])
      refine take_at 14 (some 145) (v := ?_) rfl rfl (by kernel_rfl) (by kernel_rfl) (by kernel_rfl) (fun _ _ _ h => h) ⟨by rfl, ?_⟩ hS ?_
      rotate_left
      · intro wq hSw; go_simp; try rfl
      simp only [Act.put, List.setIfInBounds_toArray, List.set_cons_zero, List.set_cons_succ]
      refine take_at 15 (some 146) (v := ?_) rfl rfl (by kernel_rfl) (by kernel_rfl) (by kernel_rfl) (fun _ _ _ h => h) ⟨by rfl, ?_⟩ hS ?_
      rotate_left
      · intro wq hSw; go_simp; try rfl
      simp only [Act.put, List.setIfInBounds_toArray, List.set_cons_zero, List.set_cons_succ]
      refine take_at 16 (some 4) (v := ?_) rfl rfl (by kernel_rfl) (by kernel_rfl) (by kernel_rfl) (fun _ _ _ h => h) ⟨by rfl, ?_⟩ hS ?_
      rotate_left
      · intro wq hSw; go_simp; try rfl
      simp only [Act.put, List.setIfInBounds_toArray, List.set_cons_zero, List.set_cons_succ]
      refine wpAnyH_done (by kernel_rfl) ?_ _
      go_wp2_with fail
      go_ret
      refine ⟨rfl, T', es.set i (es[i].turn (addN es[i].e t d)), heldA (ctrsOf es) H t k d, ⟨add_ok OK.out hi T6.out _ (held_ok OK.out.held T6.out k d), lab', lb, ?vc, ?ve, ?fin⟩, G7.out⟩
      case fin =>
        have := S7.out
        rw [← HID.out] at this ⊢
        rw [ctrs_add UP.out hi (by rw [HID.out]; exact HF.out.symm)]
        exact this
    · obtain ⟨eA, eH⟩ := add_not (C := ctrsOf es) (H := H) (t := t) (k := k) (d := d) (by rw [← HF.out]; decide)
      rw [eA, eH] at S5
      have S6 := hide (S5.out.below B6.out)
      have G6 := hide (G5.out.trans (Gone.of_below B6.out))
      go_wp2_with fail
      go_ret
      exact ⟨rfl, T', es, H, ⟨OK.out, lab', lb, _, _, S6.out⟩, G6.out⟩
  · have MS2 : F = E := by rcases MS.out with q | q; exact q; exact absurd q.1 hE0
    subst MS2
    have f0 : (F != 0) = true := by simpa using hE0
    obtain ⟨eA, eH⟩ := add_not (C := ctrsOf es) (H := H) (t := t) (k := k) (d := d) (by rw [← HF.out]; exact hE0)
    rw [eA, eH] at S5
    have S6 := hide (S5.out.below B6.out)
    have G6 := hide (G5.out.trans (Gone.of_below B6.out))
    clear hE0
    go_wp2_with fail
    go_ret
    exact ⟨by simp, T', es, H, ⟨OK.out, lab', lb, _, _, S6.out⟩, G6.out⟩
theorem does_any {T : Nat → Prop} {w : World} {sb : Nat} {es : List SE} {H : Helds} (h : Sto T w sb es H) (kd tx ct d : Int) (hd : I64 d) : Calls Tryz.prog 11 #[ptr sb, .agg #[.int .i64 kd, .int .i64 tx, .int .i64 ct, .int .i64 d]] w fun r w' => DoesPost T w sb r w' := by
  by_cases h5 : kd % 8 = 5
  · exact does_set h kd tx ct d h5
  by_cases h6 : kd % 8 = 6
  · exact does_rel h kd tx ct d h6
  by_cases hq : ∃ x ∈ es, x.id = 1 + ct % 8
  · obtain ⟨x, hx, e⟩ := hq
    obtain ⟨i, hi, rfl⟩ := List.getElem_of_mem hx
    exact does_some h kd tx ct d hd h5 h6 hi e
  · exact does_none h kd tx ct d hd h5 h6 (fun x hx e => hq ⟨x, hx, e⟩)
end Go.Proofs.YtaohdmaenplbpaaGreat
