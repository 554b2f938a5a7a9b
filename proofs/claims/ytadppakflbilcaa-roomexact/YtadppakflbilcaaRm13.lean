import Derived.Test.YtadppakflbilcaaRm12
namespace Go.Proofs.Ytadppakflbilcaa
open Go.RowKit Go.QK Go.Maps Go.QM Go.QR
set_option maxRecDepth 100000
set_option maxHeartbeats 2000000 in
theorem rBegin_any (S : Nat → Prop) (b : Nat) (L : List Tx) (tx : Int) (w : World) (h : Lst refL w S b L) (hok : Ok L) : Calls Try.prog 33 #[ptr b, .int .i64 tx] w fun r w' => r = .returned (.int .i64 (beginE L tx)) ∧ OutL refL w S b (beginL L tx) w' := by
  have K := rat_any S b L tx w h (by have := hok.few; omega)
  have HR := hide h
  obtain ⟨v, P, h, e⟩ := h
  unfold beginL
  by_cases c1 : tx < 1
  · have e1 : decide (tx < 1) = true := by simpa using c1
    have hE : beginE L tx = 4 := by unfold beginE; rw [if_pos (.inl c1)]
    rw [hE, if_neg (by decide)]
    clear hE h e
    go_enter Try.func33, Try.ntmps33
    go_wp2
    go_ret
    exact ⟨rfl, HR.out.stays (Below.refl _ _)⟩
  have e1 : decide (tx < 1) = false := by simpa using c1
  by_cases c2 : 2147483647 < tx
  · have e2 : decide (2147483647 < tx) = true := by simpa using c2
    have hE : beginE L tx = 4 := by unfold beginE; rw [if_pos (.inr c2)]
    rw [hE, if_neg (by decide)]
    clear hE h e
    go_enter Try.func33, Try.ntmps33
    go_wp2
    go_ret
    exact ⟨rfl, HR.out.stays (Below.refl _ _)⟩
  have e2 : decide (2147483647 < tx) = false := by simpa using c2
  have c3 : ¬ (tx < 1 ∨ 2147483647 < tx) := fun z => z.elim c1 c2
  cases hi : idx L tx with
  | some i =>
    rw [hi] at K
    simp only [placeI] at K
    obtain ⟨t, ht, hg, htn⟩ := idx_get hi
    have hE : beginE L tx = 121 := by unfold beginE; rw [if_neg c3, hg]; rfl
    rw [hE, if_neg (by decide)]
    have hd : decide ((0 : Int) ≤ (i : Int)) = true := by simp
    clear hE h e hi hg ht c3 htn
    go_enter Try.func33, Try.ntmps33
    go_wp2_with (go_at_call 43; refine K.mono ?_; rintro e w3 ⟨rfl, rfl⟩)
    go_ret
    exact ⟨rfl, HR.out.stays (Below.refl _ _)⟩
  | none =>
    rw [hi] at K
    simp only [placeI] at K
    have hg := idx_none.1 hi
    have hlen := map_len e
    obtain ⟨v', w2, ⟨a', n', c', rfl⟩, hr, bx, -, -, FO⟩ := h.push row76 ref_good (by have := hok.few; omega) tx 76 #[.int .i64 tx, .int .i64 0, .slice none 0 0] rfl
    rw [e] at FO
    obtain ⟨a, cap, rfl, -⟩ := h.form
    obtain ⟨k0, -⟩ := h.box.get 0 _ rfl
    obtain ⟨k1, -⟩ := (h.below (alloc_below w (.cells #[.int .i64 tx, .int .i64 0, .slice none 0 0] 80))).box.get 0 _ rfl
    obtain ⟨k2, f2⟩ := bx.get 0 _ rfl
    have few := hok.few
    by_cases c4 : 32 ≤ L.length
    · have e4 : decide (32 ≤ P.length) = true := by simp; omega
      have e5 : decide ((32 : Int) ≤ (P.length : Int)) = true := by simp; omega
      have hE : beginE L tx = 131 := by unfold beginE; rw [if_neg c3, hg]; simp [c4]
      rw [hE, if_neg (by decide)]
      clear hE h e hi hg c3 c4 hr bx FO k1 k2 f2 hok few hlen
      generalize P.length = n at *
      go_enter Try.func33, Try.ntmps33
      go_wp2_with (go_at_call 43; refine K.mono ?_; rintro e w3 ⟨rfl, rfl⟩)
      go_ret
      exact ⟨rfl, HR.out.stays (Below.refl _ _)⟩
    · have e4 : decide (32 ≤ P.length) = false := by simp; omega
      have e5 : decide ((32 : Int) ≤ (P.length : Int)) = false := by simp; omega
      have hE : beginE L tx = 0 := by unfold beginE; rw [if_neg c3, hg]; simp [c4]
      rw [hE, if_pos rfl]
      have HF := hide FO
      clear hE h e hi hg c3 c4 bx FO hok few hlen HR
      generalize P.length = n at *
      go_enter Try.func33, Try.ntmps33
      go_wp2_with (first | (go_at_call 43; refine K.mono ?_; rintro e w3 ⟨rfl, rfl⟩) | (at_builtin; refine wpList_run rfl (.tmp 25) (.tmp 28) rfl rfl rfl hr ?_))
      go_ret
      exact ⟨rfl, HF.out⟩
set_option maxHeartbeats 4000000 in
theorem rHold_any (S : Nat → Prop) (b : Nat) (L : List Tx) (tx c : Int) (w : World) (h : Lst refL w S b L) (hok : Ok L) : Calls Try.prog 34 #[ptr b, .int .i64 tx, .int .i64 c] w fun r w' => r = .returned (.int .i64 (holdE L tx c)) ∧ OutL refL w S b (holdL L tx c) w' := by
  have K := rat_any S b L tx w h (by have := hok.few; omega)
  have HR := hide h
  obtain ⟨v, P, h, e⟩ := h
  unfold holdL
  cases hi : idx L tx with
  | none =>
    rw [hi] at K
    simp only [placeI] at K
    have hE : holdE L tx c = 130 := by unfold holdE; rw [idx_none.1 hi]
    rw [hE, if_neg (by decide)]
    clear hE h e hi
    go_enter Try.func34, Try.ntmps34
    go_wp2_with (go_at_call 43; refine K.mono ?_; rintro e w3 ⟨rfl, rfl⟩)
    go_ret
    exact ⟨rfl, HR.out.stays (Below.refl _ _)⟩
  | some i =>
    rw [hi] at K
    simp only [placeI] at K
    have hil := idx_lt hi
    obtain ⟨t, ht, hg, htn⟩ := idx_get hi
    have HE : holdE L tx c = t.holdE c := by unfold holdE; rw [hg]
    rw [HE]
    clear HE
    have hd : decide ((i : Int) < 0) = false := by simp
    have hlen := map_len e
    have few := hok.few
    have hip : i < P.length := by omega
    have hpn : P.length ≤ 32 := by omega
    have tok := hok.each t (get_mem hg).1
    obtain ⟨vk, hpk⟩ := map_at e ht
    obtain ⟨g, cap, rfl, hgl, p0, p1, p2, fz⟩ := h.refAt hpk
    obtain ⟨k0, -⟩ := h.box.get 0 _ rfl
    have UP : upd L tx (fun u => u.holdT c) = L.set i (t.holdT c) := upd_idx hok.nd _ hi ht
    rw [UP]
    by_cases c1 : c < 1
    · have e1 : decide (c < 1) = true := by simpa using c1
      have hE : t.holdE c = 4 := by unfold Tx.holdE; rw [if_pos (.inl c1)]
      rw [hE, if_neg (by decide)]
      clear hE h e hi hpk ht hg UP
      go_enter Try.func34, Try.ntmps34
      go_wp2_with (go_at_call 43; refine K.mono ?_; rintro e w3 ⟨rfl, rfl⟩)
      go_ret
      exact ⟨rfl, HR.out.stays (Below.refl _ _)⟩
    have e1 : decide (c < 1) = false := by simpa using c1
    by_cases c2 : 1048576 < c
    · have e2 : decide (1048576 < c) = true := by simpa using c2
      have hE : t.holdE c = 4 := by unfold Tx.holdE; rw [if_pos (.inr c2)]
      rw [hE, if_neg (by decide)]
      clear hE h e hi hpk ht hg UP
      go_enter Try.func34, Try.ntmps34
      go_wp2_with (go_at_call 43; refine K.mono ?_; rintro e w3 ⟨rfl, rfl⟩)
      go_ret
      exact ⟨rfl, HR.out.stays (Below.refl _ _)⟩
    have e2 : decide (1048576 < c) = false := by simpa using c2
    have cc : ¬ (c < 1 ∨ 1048576 < c) := fun z => z.elim c1 c2
    by_cases c3 : t.st = 0
    · have q2 : (t.st != 0) = false := by simp [c3]
      have K44 := rholds_any 0 t vk c w (h.own_at hpk) (by have := tok.few; omega)
      cases hx : t.hs.findIdx? (fun z => z == c) with
      | some j =>
        rw [hx] at K44
        simp only [placeI] at K44
        have c4 : c ∈ t.hs := by have := has_idx t.hs c; rw [hx] at this; simpa using this.symm
        have hE : t.holdE c = 0 := by unfold Tx.holdE; rw [if_neg cc, if_neg (fun z => z c3), if_pos c4]
        have hT : L.set i (t.holdT c) = L := by
          unfold Tx.holdT
          rw [if_pos c4]
          obtain ⟨hi1, hi2⟩ := List.getElem?_eq_some_iff.1 ht
          rw [← hi2]
          exact List.set_getElem_self hi1
        rw [hE, if_pos rfl, hT]
        have hd2 : decide ((0 : Int) ≤ (j : Int)) = true := by simp
        obtain ⟨a2, c2', rfl⟩ := h.list hpk
        clear hE h e hi hpk ht hg UP hT c3 c4 cc tok hok hlen htn hx
        generalize P.length = n at *
        go_enter Try.func34, Try.ntmps34
        go_wp2_with (first | (go_at_call 43; refine K.mono ?_; rintro e w3 ⟨rfl, rfl⟩) | (go_at_call 44; refine K44.mono ?_; rintro e w4 ⟨rfl, b4⟩))
        go_ret
        exact ⟨rfl, HR.out.stays b4⟩
      | none =>
        rw [hx] at K44
        simp only [placeI] at K44
        have c4 : c ∉ t.hs := by have := has_idx t.hs c; rw [hx] at this; simpa using this.symm
        obtain ⟨a2, c2', rfl⟩ := h.list hpk
        by_cases c5 : 64 ≤ t.hs.length
        · have e5 : decide (64 ≤ t.hs.length) = true := by simpa using c5
          have e6 : decide ((64 : Int) ≤ (t.hs.length : Int)) = true := by simp; omega
          have hE : t.holdE c = 131 := by unfold Tx.holdE; rw [if_neg cc, if_neg (fun z => z c3), if_neg c4, if_pos c5]
          rw [hE, if_neg (by decide)]
          have HH := hide h
          have HPK := hide hpk
          clear hE h e hi hpk ht hg UP c3 c4 cc tok hok hlen htn hx c5
          go_enter Try.func34, Try.ntmps34
          go_upto_region 10 with (first | (go_at_call 43; refine K.mono ?_; rintro e w3 ⟨rfl, rfl⟩) | (go_at_call 44; refine K44.mono ?_; rintro e w4 ⟨rfl, b4⟩))
          obtain ⟨g', cap', ev, hgl4, r0, r1, r2, fz4⟩ := (HH.out.below b4).refAt HPK.out
          cases ev
          obtain ⟨k4, -⟩ := (HH.out.below b4).box.get 0 _ rfl
          clear k0 p0 p1 p2 fz HH HPK fz4
          generalize P.length = n at *
          generalize t.hs.length = m at *
          go_wp2_with fail
          go_ret
          exact ⟨rfl, HR.out.stays b4⟩
        · have e5 : decide (64 ≤ t.hs.length) = false := by simpa using c5
          have e6 : decide ((64 : Int) ≤ (t.hs.length : Int)) = false := by simp; omega
          have hE : t.holdE c = 0 := by unfold Tx.holdE; rw [if_neg cc, if_neg (fun z => z c3), if_neg c4, if_neg c5]
          have hT : t.holdT c = ⟨t.n, t.st, t.hs ++ [c]⟩ := by unfold Tx.holdT; rw [if_neg c4]; rfl
          rw [hE, if_pos rfl, hT]
          have HH := hide h
          have HPK := hide hpk
          have HEQ := hide e
          clear hE h e hi hpk ht hg UP c3 c4 cc hok hlen htn hx c5 hT
          have HF := hide tok.few
          clear tok
          go_enter Try.func34, Try.ntmps34
          go_upto_region 10 with (first | (go_at_call 43; refine K.mono ?_; rintro e w3 ⟨rfl, rfl⟩) | (go_at_call 44; refine K44.mono ?_; rintro e w4 ⟨rfl, b4⟩))
          obtain ⟨g', cap', ev, hgl4, r0, r1, r2, fz4⟩ := (HH.out.below b4).refAt HPK.out
          cases ev
          obtain ⟨k4, -⟩ := (HH.out.below b4).box.get 0 _ rfl
          clear k0 p0 p1 p2 fz fz4
          have HN := hide (show P.length ≤ 32 from hpn)
          go_upto_region 12 with fail
          have H4 := hide (HH.out.below b4)
          have H5 := H4.out.below (Below.refl _ _).drew
          obtain ⟨vv, w2, ⟨a9, n9, c9, rfl⟩, hr, hk2, FO, ⟨u, cu⟩, fu⟩ := H5.more ref_good ref_has HPK.out (show t.hs.length ≤ 1000 by have := HF.out; omega) rfl c 37
          rw [HEQ.out] at FO
          change OutL refL w4.drew S b _ (w2.setCell ⟨g, i * 3 + 2, none⟩ (.slice a9 n9 c9)) at FO
          change w2.cell? ⟨g, i * 3 + 2, none⟩ = _ at cu
          change w2.frozen? ⟨g, i * 3 + 2, none⟩ = _ at fu
          have NB := hide (show ¬ b = g from fun q => (H4.out.rs g rfl).2 q.symm)
          have NL := hide (show ∀ z, (Value.slice a2 t.hs.length c2').ownBlock = some z → ¬ b = z ∧ ¬ g = z from fun z hz => ⟨fun q => (H4.out.os _ (List.mem_of_getElem? HPK.out) z hz).2.1 q.symm, fun q => (H4.out.os _ (List.mem_of_getElem? HPK.out) z hz).2.2 (by rw [← q]; rfl)⟩)
          have HB := hide H4.out.box
          have FIN := hide (OutL.after (b4.trans ((Below.refl w4.heap.size w4).drew.mono b4.size)) FO)
          have HRR := hide hr
          have HK2 := hide hk2
          clear FO hr hk2 H5 H4 HH HPK HEQ HF K K44 k4
          refine wp_region_held_drew (S := fun wq => Keep (fun z => z = g ∨ (Value.slice a2 t.hs.length c2').ownBlock = some z) w4 wq) (by kernel_rfl) (Keep.refl _ _).drew (fun hS => ?_)
          refine take_at 0 (some 48) (v := ?_) rfl rfl (by kernel_rfl) (by kernel_rfl) (by kernel_rfl) (fun _ _ _ h => h) ⟨by rfl, ?_⟩ hS ?_
          rotate_left
          · intro wq hSw; go_simp; try rfl
          simp only [Act.put, List.setIfInBounds_toArray, List.set_cons_zero, List.set_cons_succ]
          refine take_at 1 (some 49) (v := ?_) rfl rfl (by kernel_rfl) (by kernel_rfl) (by kernel_rfl) (fun _ _ _ h => h) ⟨by rfl, ?_⟩ hS ?_
          rotate_left
          · intro wq hSw; go_simp; try rfl
          simp only [Act.put, List.setIfInBounds_toArray, List.set_cons_zero, List.set_cons_succ]
          refine take_at 2 (some 50) (v := ?_) rfl rfl (by kernel_rfl) (by kernel_rfl) (by kernel_rfl) (fun _ _ _ h => h) ⟨by rfl, ?_⟩ hS ?_
          rotate_left
          · intro wq hSw; go_simp; try rfl
          simp only [Act.put, List.setIfInBounds_toArray, List.set_cons_zero, List.set_cons_succ]
          refine take_at 3 (some 51) (v := ?_) rfl rfl (by kernel_rfl) (by kernel_rfl) (by kernel_rfl) (fun _ _ _ h => h) ⟨by rfl, ?_⟩ hS ?_
          rotate_left
          · intro wq hSw; have q := ((HB.out.keep hSw (fun q => q.elim NB.out (fun r => (NL.out _ r).1 rfl))).get 0 _ rfl).1; go_simp; try rfl
          simp only [Act.put, List.setIfInBounds_toArray, List.set_cons_zero, List.set_cons_succ]
          refine take_at 4 (some 52) (v := ?_) rfl rfl (by kernel_rfl) (by kernel_rfl) (by kernel_rfl) (fun _ _ _ h => h) ⟨by rfl, ?_⟩ hS ?_
          rotate_left
          · intro wq hSw; go_simp; try rfl
          simp only [Act.put, List.setIfInBounds_toArray, List.set_cons_zero, List.set_cons_succ]
          refine take_at 5 (some 53) (v := ?_) rfl rfl (by kernel_rfl) (by kernel_rfl) (by kernel_rfl) (fun _ _ _ h => h) ⟨by rfl, ?_⟩ hS ?_
          rotate_left
          · intro wq hSw; go_simp; try rfl
          simp only [Act.put, List.setIfInBounds_toArray, List.set_cons_zero, List.set_cons_succ]
          refine take_at 6 (some 54) (v := ?_) rfl rfl (by kernel_rfl) (by kernel_rfl) (by kernel_rfl) (fun _ _ _ h => h) ⟨by rfl, ?_⟩ hS ?_
          rotate_left
          · intro wq hSw; go_simp; try rfl
          simp only [Act.put, List.setIfInBounds_toArray, List.set_cons_zero, List.set_cons_succ]
          refine take_at 7 (some 55) (v := ?_) rfl rfl (by kernel_rfl) (by kernel_rfl) (by kernel_rfl) (fun _ _ _ h => h) ⟨by rfl, ?_⟩ hS ?_
          rotate_left
          · intro wq hSw; go_simp; try rfl
          simp only [Act.put, List.setIfInBounds_toArray, List.set_cons_zero, List.set_cons_succ]
          refine take_at 8 (some 56) (v := ?_) rfl rfl (by kernel_rfl) (by kernel_rfl) (by kernel_rfl) (fun _ _ _ h => h) ⟨by rfl, ?_⟩ hS ?_
          rotate_left
          · intro wq hSw; have q := ((HB.out.keep hSw (fun q => q.elim NB.out (fun r => (NL.out _ r).1 rfl))).get 0 _ rfl).1; go_simp; try rfl
          simp only [Act.put, List.setIfInBounds_toArray, List.set_cons_zero, List.set_cons_succ]
          refine take_at 9 (some 57) (v := ?_) rfl rfl (by kernel_rfl) (by kernel_rfl) (by kernel_rfl) (fun _ _ _ h => h) ⟨by rfl, ?_⟩ hS ?_
          rotate_left
          · intro wq hSw; go_simp; try rfl
          simp only [Act.put, List.setIfInBounds_toArray, List.set_cons_zero, List.set_cons_succ]
          refine take_at 10 (some 58) (v := ?_) rfl rfl (by kernel_rfl) (by kernel_rfl) (by kernel_rfl) (fun _ _ _ h => h) ⟨by rfl, ?_⟩ hS ?_
          rotate_left
          · intro wq hSw; go_simp; try rfl
          simp only [Act.put, List.setIfInBounds_toArray, List.set_cons_zero, List.set_cons_succ]
          refine take_at 11 (some 59) (v := ?_) rfl rfl (by kernel_rfl) (by kernel_rfl) (by kernel_rfl) (fun _ _ _ h => h) ⟨by rfl, ?_⟩ hS ?_
          rotate_left
          · intro wq hSw; go_simp; try rfl
          simp only [Act.put, List.setIfInBounds_toArray, List.set_cons_zero, List.set_cons_succ]
          refine take_at 13 (some 61) (v := ?_) rfl rfl (by kernel_rfl) (by kernel_rfl) (by kernel_rfl) (fun _ _ _ h => h) ⟨by rfl, ?_⟩ hS ?_
          rotate_left
          · intro wq hSw; go_simp; try rfl
          simp only [Act.put, List.setIfInBounds_toArray, List.set_cons_zero, List.set_cons_succ]
          have D1 := hide hS
          clear hS
          generalize hx1 : w4.drew = x1 at *
          have R2 := hide (show x1.cell? ⟨g, i * 3 + 2, none⟩ = some (Value.slice a2 t.hs.length c2') from by rw [← hx1]; exact r2)
          clear hx1 r0 r1 r2
          refine wpAnyH_ready (rs := [12, 14]) (by kernel_rfl) (by simp) ?_
          refine AllReadyH.cons rfl (fun K hK => ?_) (AllReadyH.cons rfl (fun K hK => ?_) AllReadyH.nil)
          · have q2 := R2.out
            go_simp
            go_wp2_with fail
            refine hK.out _ _ D1.out (fun hS => ?_)
            clear hK K hS
            (try simp only [Act.put, List.setIfInBounds_toArray, List.set_cons_zero, List.set_cons_succ])
            refine wpAnyH_ready (rs := [14]) (by kernel_rfl) (by simp) ?_
            refine AllReadyH.cons rfl (fun K hK => ?_) AllReadyH.nil
            go_simp
            go_wp2_with fail
            refine hK.out _ _ (D1.out.alloc _) (fun hS => ?_)
            clear hK K hS
            (try simp only [Act.put, List.setIfInBounds_toArray, List.set_cons_zero, List.set_cons_succ])
            refine wpAnyH_ready (rs := [15]) (by kernel_rfl) (by simp) ?_
            refine AllReadyH.cons rfl (fun K hK => ?_) AllReadyH.nil
            refine wp_run 63 (.tmp 60) (.tmp 62) rfl rfl rfl rfl rfl HRR.out ?_
            refine hK.out _ _ (D1.out.trans HK2.out (fun _ _ q => .inr q)) (fun hS => ?_)
            clear hK K
            (try simp only [Act.put, List.setIfInBounds_toArray, List.set_cons_zero, List.set_cons_succ])
            refine take_at 16 (some 64) (v := ?_) rfl rfl (by kernel_rfl) (by kernel_rfl) (by kernel_rfl) (fun _ _ _ h => h) ⟨by rfl, ?_⟩ hS ?_
            rotate_left
            · intro wq hSw; go_simp; try rfl
            simp only [Act.put, List.setIfInBounds_toArray, List.set_cons_zero, List.set_cons_succ]
            refine take_at 17 (some 65) (v := ?_) rfl rfl (by kernel_rfl) (by kernel_rfl) (by kernel_rfl) (fun _ _ _ h => h) ⟨by rfl, ?_⟩ hS ?_
            rotate_left
            · intro wq hSw; go_simp; try rfl
            simp only [Act.put, List.setIfInBounds_toArray, List.set_cons_zero, List.set_cons_succ]
            refine wpAnyH_ready (rs := [18]) (by kernel_rfl) (by simp) ?_
            refine AllReadyH.cons rfl (fun K hK => ?_) AllReadyH.nil
            go_simp
            go_wp2_with fail
            refine hK.out _ _ (hS.setCell (fun _ => .inl rfl) _) (fun hS => ?_)
            clear hK K hS
            (try simp only [Act.put])
            refine wpAnyH_done (by kernel_rfl) ?_ _
            go_wp2_with fail
            go_ret
            exact ⟨rfl, FIN.out⟩
          · go_simp
            go_wp2_with fail
            refine hK.out _ _ (D1.out.alloc _) (fun hS => ?_)
            clear hK K hS
            (try simp only [Act.put, List.setIfInBounds_toArray, List.set_cons_zero, List.set_cons_succ])
            refine wpAnyH_ready (rs := [12]) (by kernel_rfl) (by simp) ?_
            refine AllReadyH.cons rfl (fun K hK => ?_) AllReadyH.nil
            have q2 : (x1.alloc (.cells #[.int .i64 c] 3)).cell? ⟨g, i * 3 + 2, none⟩ = some (Value.slice a2 t.hs.length c2') := by rw [World.cell?_alloc_some _ _ _ (by rw [R2.out]; rfl)]; exact R2.out
            go_simp
            go_wp2_with fail
            refine hK.out _ _ (D1.out.alloc _) (fun hS => ?_)
            clear hK K hS
            (try simp only [Act.put, List.setIfInBounds_toArray, List.set_cons_zero, List.set_cons_succ])
            refine wpAnyH_ready (rs := [15]) (by kernel_rfl) (by simp) ?_
            refine AllReadyH.cons rfl (fun K hK => ?_) AllReadyH.nil
            refine wp_run 63 (.tmp 60) (.tmp 62) rfl rfl rfl rfl rfl HRR.out ?_
            refine hK.out _ _ (D1.out.trans HK2.out (fun _ _ q => .inr q)) (fun hS => ?_)
            clear hK K
            (try simp only [Act.put, List.setIfInBounds_toArray, List.set_cons_zero, List.set_cons_succ])
            refine take_at 16 (some 64) (v := ?_) rfl rfl (by kernel_rfl) (by kernel_rfl) (by kernel_rfl) (fun _ _ _ h => h) ⟨by rfl, ?_⟩ hS ?_
            rotate_left
            · intro wq hSw; go_simp; try rfl
            simp only [Act.put, List.setIfInBounds_toArray, List.set_cons_zero, List.set_cons_succ]
            refine take_at 17 (some 65) (v := ?_) rfl rfl (by kernel_rfl) (by kernel_rfl) (by kernel_rfl) (fun _ _ _ h => h) ⟨by rfl, ?_⟩ hS ?_
            rotate_left
            · intro wq hSw; go_simp; try rfl
            simp only [Act.put, List.setIfInBounds_toArray, List.set_cons_zero, List.set_cons_succ]
            refine wpAnyH_ready (rs := [18]) (by kernel_rfl) (by simp) ?_
            refine AllReadyH.cons rfl (fun K hK => ?_) AllReadyH.nil
            go_simp
            go_wp2_with fail
            refine hK.out _ _ (hS.setCell (fun _ => .inl rfl) _) (fun hS => ?_)
            clear hK K hS
            (try simp only [Act.put])
            refine wpAnyH_done (by kernel_rfl) ?_ _
            go_wp2_with fail
            go_ret
            exact ⟨rfl, FIN.out⟩
    · have hE : t.holdE c = 70 := by unfold Tx.holdE; rw [if_neg cc, if_pos c3]
      rw [hE, if_neg (by decide)]
      have q2 : (t.st != 0) = true := by simpa using c3
      clear hE h e hi hpk ht hg UP c3 cc tok hok hlen htn
      generalize P.length = n at *
      go_enter Try.func34, Try.ntmps34
      go_wp2_with (go_at_call 43; refine K.mono ?_; rintro e w3 ⟨rfl, rfl⟩)
      go_ret
      exact ⟨rfl, HR.out.stays (Below.refl _ _)⟩
end Go.Proofs.Ytadppakflbilcaa
