import Derived.Test.YtadppakflbilcaaRm20
namespace Go.Proofs.Ytadppakflbilcaa
open Go.RowKit Go.QK Go.Maps Go.QM Go.QR
set_option maxRecDepth 100000
theorem row_one {y : Lay} (hy : y.Good) {w : World} {S : Nat → Prop} {b : Nat} {v : Value} {P : List TV} (h : Ls y w S b v P) : ∀ u ∈ y.row P, u.oneCell' = true := by
  intro u hu
  unfold Lay.row rowsC at hu
  obtain ⟨p, hp, hu⟩ := List.mem_flatMap.1 hu
  obtain ⟨a, c, e, _⟩ := (h.own p hp).seen
  rw [e] at hu
  exact hy.one _ _ _ _ u hu
theorem Owns.mono0 {w : World} {B : Nat} {v : Value} {xs : List Int} (h : Owns .i64 3 w B v xs) : Owns .i64 3 w 0 v xs := GRow.mono h (Nat.zero_le _)
theorem out_turn {y : Lay} {S : Nat → Prop} {w w' : World} {b : Nat} {v : Value} {P : List TV} {L : List Tx} (h : Ls y w' S b v P) (e : P.map Prod.fst = L) (hk : Keep S w w') : OutL y w S b L w' := ⟨S, ⟨v, P, h, e⟩, fun _ _ q => q, hk⟩
set_option maxHeartbeats 4000000 in
theorem note1 (S : Nat → Prop) (b : Nat) (L : List Tx) (two : Bool) (tx ctr what free more : Int) (w : World) (h : Lst bookL w S b L) (hok : Ok L) (hn : idx L tx = none) : Calls Try.prog 12 #[ptr b, .agg #[.int .i64 1, .bool two, .int .i64 tx, .int .i64 ctr, .int .i64 what, .int .i64 free, .int .i64 more]] w fun r w' => r = .returned (.tuple #[]) ∧ OutL bookL w S b (L ++ [⟨tx, 0, []⟩]) w' := by
  obtain ⟨w1, hw1⟩ : ∃ w1, w1 = w.alloc (.cells #[.int .i64 1, .bool two, .int .i64 tx, .int .i64 ctr, .int .i64 what, .int .i64 free, .int .i64 more] 26) := ⟨_, rfl⟩
  obtain ⟨nb, hnb⟩ : ∃ nb, nb = w.heap.size := ⟨_, rfl⟩
  have A1 : Below w.heap.size w w1 := by rw [hw1]; exact alloc_below _ _
  have C1 : Cells w1 nb [.int .i64 1, .bool two, .int .i64 tx, .int .i64 ctr, .int .i64 what, .int .i64 free, .int .i64 more] := by rw [hw1, hnb]; exact Cells.new w #[.int .i64 1, .bool two, .int .i64 tx, .int .i64 ctr, .int .i64 what, .int .i64 free, .int .i64 more] 26
  obtain ⟨o0, -⟩ := C1.get 0 _ rfl
  obtain ⟨o2, -⟩ := C1.get 2 _ rfl
  obtain ⟨o4, -⟩ := C1.get 4 _ rfl
  have h1 := h.below A1
  have HNS := hide (show ¬ S nb from fun q => by have := h.lt nb q; omega)
  have K := bat_any S b L tx w1 h1 (by have := hok.few; omega)
  have HA := hide A1
  have HC := hide C1
  have HW := hide hw1
  have HN := hide hnb
  clear h A1 C1 hw1 hnb
  obtain ⟨v, P, h, e⟩ := h1
  rw [hn] at K
  simp only [placeI] at K
  have hlen := map_len e
  have HB := hide h.box
  have HH := hide h
  have HE := hide e
  have HPL := hide (show P.length ≤ 1000 by have := hok.few; omega)
  clear h e hn hok hlen
  go_enter Try.func12, Try.ntmps12
  go_upto_region 1 with fail
  rw [← HW.out, ← HN.out]
  clear HW HN
  go_upto_region 3 with (go_at_call 27; refine K.mono ?_; rintro e w3 ⟨rfl, rfl⟩)
  have H5 := HH.out.below (Below.refl _ _).drew
  obtain ⟨v', w2, ⟨a', n', c', rfl⟩, hr, bx, -, hk2, FO⟩ := H5.push row30 book_good HPL.out tx 30 #[.int .i64 tx, .slice none 0 0, .bool false, .bool false] rfl
  rw [HE.out] at FO
  have FIN := hide (OutL.after (HA.out.trans ((Below.refl w1.heap.size w1).drew.mono HA.out.size)) FO)
  obtain ⟨a, cap, rfl, -⟩ := HH.out.form
  have NB := hide (show ∀ z, (Value.slice a P.length cap).ownBlock = some z → ¬ b = z ∧ ¬ nb = z from fun z hz => ⟨fun q => (HH.out.rs z hz).2 q.symm, fun q => HNS.out (by rw [q]; exact (HH.out.rs z hz).1)⟩)
  have NBB := hide (show ¬ nb = b from fun q => HNS.out (by rw [q]; exact HH.out.sb))
  have HNO := hide (show ¬ (fun z => z = b ∨ (Value.slice a P.length cap).ownBlock = some z) nb from fun q => q.elim NBB.out (fun q => (NB.out nb q).2 rfl))
  have HRR := hide hr
  have HK2 := hide hk2
  obtain ⟨u2, f2⟩ := bx.get 0 _ rfl
  obtain ⟨r2, -⟩ := H5.box.get 0 _ rfl
  have r3 := ((H5.below (alloc_below _ (.cells #[.int .i64 tx, .slice none 0 0, .bool false, .bool false] 39))).box.get 0 _ rfl).1
  have R2 := hide r2
  have R3 := hide r3
  clear FO hr hk2 H5 HH HE HPL HB K o0 o2 o4 r2 bx r3
  refine wp_region_held_drew (S := fun wq => Keep (fun z => z = b ∨ (Value.slice a P.length cap).ownBlock = some z) w1 wq) (by kernel_rfl) (Keep.refl _ _).drew (fun hS => ?_)
  refine take_at 0 (some 15) (v := ?_) rfl rfl (by kernel_rfl) (by kernel_rfl) (by kernel_rfl) (fun _ _ _ h => h) ⟨by rfl, ?_⟩ hS ?_
  rotate_left
  · intro wq hSw; go_simp; try rfl
  simp only [Act.put, List.setIfInBounds_toArray, List.set_cons_zero, List.set_cons_succ]
  refine take_at 1 (some 16) (v := ?_) rfl rfl (by kernel_rfl) (by kernel_rfl) (by kernel_rfl) (fun _ _ _ h => h) ⟨by rfl, ?_⟩ hS ?_
  rotate_left
  · intro wq hSw; go_simp; try rfl
  simp only [Act.put, List.setIfInBounds_toArray, List.set_cons_zero, List.set_cons_succ]
  refine take_at 2 (some 17) (v := ?_) rfl rfl (by kernel_rfl) (by kernel_rfl) (by kernel_rfl) (fun _ _ _ h => h) ⟨by rfl, ?_⟩ hS ?_
  rotate_left
  · intro wq hSw; go_simp; try rfl
  simp only [Act.put, List.setIfInBounds_toArray, List.set_cons_zero, List.set_cons_succ]
  refine take_at 3 (some 18) (v := ?_) rfl rfl (by kernel_rfl) (by kernel_rfl) (by kernel_rfl) (fun _ _ _ h => h) ⟨by rfl, ?_⟩ hS ?_
  rotate_left
  · intro wq hSw; go_simp; try rfl
  simp only [Act.put, List.setIfInBounds_toArray, List.set_cons_zero, List.set_cons_succ]
  refine take_at 5 (some 20) (v := ?_) rfl rfl (by kernel_rfl) (by kernel_rfl) (by kernel_rfl) (fun _ _ _ h => h) ⟨by rfl, ?_⟩ hS ?_
  rotate_left
  · intro wq hSw; go_simp; try rfl
  simp only [Act.put, List.setIfInBounds_toArray, List.set_cons_zero, List.set_cons_succ]
  refine take_at 6 (some 21) (v := ?_) rfl rfl (by kernel_rfl) (by kernel_rfl) (by kernel_rfl) (fun _ _ _ h => h) ⟨by rfl, ?_⟩ hS ?_
  rotate_left
  · intro wq hSw; have q := ((HC.out.keep hSw HNO.out).get 2 _ rfl).1; go_simp; try rfl
  simp only [Act.put, List.setIfInBounds_toArray, List.set_cons_zero, List.set_cons_succ]
  refine take_at 7 (some 22) (v := ?_) rfl rfl (by kernel_rfl) (by kernel_rfl) (by kernel_rfl) (fun _ _ _ h => h) ⟨by rfl, ?_⟩ hS ?_
  rotate_left
  · intro wq hSw; go_simp; try rfl
  simp only [Act.put, List.setIfInBounds_toArray, List.set_cons_zero, List.set_cons_succ]
  have D1 := hide hS
  clear hS HC HA
  generalize w1.drew = x1 at *
  refine wpAnyH_ready (rs := [4, 8]) (by kernel_rfl) (by simp) ?_
  refine AllReadyH.cons rfl (fun K hK => ?_) (AllReadyH.cons rfl (fun K hK => ?_) AllReadyH.nil)
  · have q2 := R2.out
    go_simp
    go_wp2_with fail
    refine hK.out _ _ D1.out (fun hS => ?_)
    clear hK K hS
    (try simp only [Act.put, List.setIfInBounds_toArray, List.set_cons_zero, List.set_cons_succ])
    refine wpAnyH_ready (rs := [8]) (by kernel_rfl) (by simp) ?_
    refine AllReadyH.cons rfl (fun K hK => ?_) AllReadyH.nil
    go_simp
    go_wp2_with fail
    refine hK.out _ _ (D1.out.alloc _) (fun hS => ?_)
    clear hK K hS
    (try simp only [Act.put, List.setIfInBounds_toArray, List.set_cons_zero, List.set_cons_succ])
    refine wpAnyH_ready (rs := [9]) (by kernel_rfl) (by simp) ?_
    refine AllReadyH.cons rfl (fun K hK => ?_) AllReadyH.nil
    refine wp_run 24 (.tmp 19) (.tmp 23) rfl rfl rfl rfl rfl HRR.out ?_
    refine hK.out _ _ (D1.out.trans HK2.out (fun _ _ q => .inr q)) (fun hS => ?_)
    clear hK K
    (try simp only [Act.put, List.setIfInBounds_toArray, List.set_cons_zero, List.set_cons_succ])
    refine take_at 10 (some 25) (v := ?_) rfl rfl (by kernel_rfl) (by kernel_rfl) (by kernel_rfl) (fun _ _ _ h => h) ⟨by rfl, ?_⟩ hS ?_
    rotate_left
    · intro wq hSw; go_simp; try rfl
    simp only [Act.put, List.setIfInBounds_toArray, List.set_cons_zero, List.set_cons_succ]
    refine take_at 11 (some 26) (v := ?_) rfl rfl (by kernel_rfl) (by kernel_rfl) (by kernel_rfl) (fun _ _ _ h => h) ⟨by rfl, ?_⟩ hS ?_
    rotate_left
    · intro wq hSw; go_simp; try rfl
    simp only [Act.put, List.setIfInBounds_toArray, List.set_cons_zero, List.set_cons_succ]
    refine wpAnyH_ready (rs := [12]) (by kernel_rfl) (by simp) ?_
    refine AllReadyH.cons rfl (fun K hK => ?_) AllReadyH.nil
    go_simp
    go_wp2_with fail
    refine hK.out _ _ (hS.setCell (fun _ => .inl rfl) _) (fun hS => ?_)
    clear hK K hS
    (try simp only [Act.put])
    refine wpAnyH_done (by kernel_rfl) ?_ _
    go_wp2_with fail
    go_end0
    exact ⟨rfl, FIN.out⟩
  · go_simp
    go_wp2_with fail
    refine hK.out _ _ (D1.out.alloc _) (fun hS => ?_)
    clear hK K hS
    (try simp only [Act.put, List.setIfInBounds_toArray, List.set_cons_zero, List.set_cons_succ])
    refine wpAnyH_ready (rs := [4]) (by kernel_rfl) (by simp) ?_
    refine AllReadyH.cons rfl (fun K hK => ?_) AllReadyH.nil
    have q2 := R3.out
    go_simp
    go_wp2_with fail
    refine hK.out _ _ (D1.out.alloc _) (fun hS => ?_)
    clear hK K hS
    (try simp only [Act.put, List.setIfInBounds_toArray, List.set_cons_zero, List.set_cons_succ])
    refine wpAnyH_ready (rs := [9]) (by kernel_rfl) (by simp) ?_
    refine AllReadyH.cons rfl (fun K hK => ?_) AllReadyH.nil
    refine wp_run 24 (.tmp 19) (.tmp 23) rfl rfl rfl rfl rfl HRR.out ?_
    refine hK.out _ _ (D1.out.trans HK2.out (fun _ _ q => .inr q)) (fun hS => ?_)
    clear hK K
    (try simp only [Act.put, List.setIfInBounds_toArray, List.set_cons_zero, List.set_cons_succ])
    refine take_at 10 (some 25) (v := ?_) rfl rfl (by kernel_rfl) (by kernel_rfl) (by kernel_rfl) (fun _ _ _ h => h) ⟨by rfl, ?_⟩ hS ?_
    rotate_left
    · intro wq hSw; go_simp; try rfl
    simp only [Act.put, List.setIfInBounds_toArray, List.set_cons_zero, List.set_cons_succ]
    refine take_at 11 (some 26) (v := ?_) rfl rfl (by kernel_rfl) (by kernel_rfl) (by kernel_rfl) (fun _ _ _ h => h) ⟨by rfl, ?_⟩ hS ?_
    rotate_left
    · intro wq hSw; go_simp; try rfl
    simp only [Act.put, List.setIfInBounds_toArray, List.set_cons_zero, List.set_cons_succ]
    refine wpAnyH_ready (rs := [12]) (by kernel_rfl) (by simp) ?_
    refine AllReadyH.cons rfl (fun K hK => ?_) AllReadyH.nil
    go_simp
    go_wp2_with fail
    refine hK.out _ _ (hS.setCell (fun _ => .inl rfl) _) (fun hS => ?_)
    clear hK K hS
    (try simp only [Act.put])
    refine wpAnyH_done (by kernel_rfl) ?_ _
    go_wp2_with fail
    go_end0
    exact ⟨rfl, FIN.out⟩
set_option maxHeartbeats 4000000 in
theorem note2a (S : Nat → Prop) (b : Nat) (L : List Tx) (two : Bool) (tx ctr what free more : Int) (w : World) (h : Lst bookL w S b L) (hok : Ok L) (i : Nat) (hi : idx L tx = some i) (c4 : ∀ t, get L tx = some t → ctr ∈ t.hs) : Calls Try.prog 12 #[ptr b, .agg #[.int .i64 2, .bool two, .int .i64 tx, .int .i64 ctr, .int .i64 what, .int .i64 free, .int .i64 more]] w fun r w' => r = .returned (.tuple #[]) ∧ OutL bookL w S b L w' := by
  obtain ⟨w1, hw1⟩ : ∃ w1, w1 = w.alloc (.cells #[.int .i64 2, .bool two, .int .i64 tx, .int .i64 ctr, .int .i64 what, .int .i64 free, .int .i64 more] 26) := ⟨_, rfl⟩
  obtain ⟨nb, hnb⟩ : ∃ nb, nb = w.heap.size := ⟨_, rfl⟩
  have A1 : Below w.heap.size w w1 := by rw [hw1]; exact alloc_below _ _
  have C1 : Cells w1 nb [.int .i64 2, .bool two, .int .i64 tx, .int .i64 ctr, .int .i64 what, .int .i64 free, .int .i64 more] := by rw [hw1, hnb]; exact Cells.new w #[.int .i64 2, .bool two, .int .i64 tx, .int .i64 ctr, .int .i64 what, .int .i64 free, .int .i64 more] 26
  obtain ⟨o0, -⟩ := C1.get 0 _ rfl
  obtain ⟨o2, -⟩ := C1.get 2 _ rfl
  obtain ⟨o4, -⟩ := C1.get 4 _ rfl
  have h1 := h.below A1
  have HNS := hide (show ¬ S nb from fun q => by have := h.lt nb q; omega)
  have K := bat_any S b L tx w1 h1 (by have := hok.few; omega)
  have HA := hide A1
  have HC := hide C1
  have HW := hide hw1
  have HN := hide hnb
  clear h A1 C1 hw1 hnb
  obtain ⟨v, P, h, e⟩ := h1
  have hil := idx_lt hi
  obtain ⟨t, ht, hg, htn⟩ := idx_get hi
  rw [hi] at K
  simp only [placeI] at K
  have hd : decide ((i : Int) < 0) = false := by simp
  have hlen := map_len e
  have few := hok.few
  have hip : i < P.length := by omega
  have hpn : P.length ≤ 32 := by omega
  have tok := hok.each t (get_mem hg).1
  obtain ⟨vk, hpk⟩ := map_at e ht
  obtain ⟨g, cap, rfl, hgl, p0, p1, p2, p3, fz⟩ := h.bookAt hpk
  obtain ⟨k0, -⟩ := h.box.get 0 _ rfl
  obtain ⟨va, vc, rfl, hseen⟩ := h.blist hpk
  clear hlen hil
  have HH := hide h
  have HPK := hide hpk
  have HE := hide e
  have HF := hide tok.few
  have HSE := hide (show ∀ x, Below w1.heap.size w1 x → Seen .i64 x va t.hs from fun x hx => hseen.below hx)
  obtain ⟨j, hx⟩ : ∃ j, t.hs.findIdx? (fun z => z == ctr) = some j := by
    have := has_idx t.hs ctr
    cases q : t.hs.findIdx? (fun z => z == ctr) with
    | none => rw [q] at this; simp at this; exact absurd (c4 t hg) this
    | some j => exact ⟨j, rfl⟩
  have HPX := hide hx
  have hdj : decide ((j : Int) < 0) = false := by simp
  have STAY := hide (show Lst bookL w1 S b L from ⟨_, P, h, e⟩)
  clear h e hok hi ht hg htn hpk tok c4 hx hseen p0 p1 p2 p3 fz k0
  go_enter Try.func12, Try.ntmps12
  go_upto_region 1 with fail
  rw [← HW.out, ← HN.out]
  clear HW HN
  go_upto_region 5 with (go_at_call 27; refine K.mono ?_; rintro e w3 ⟨rfl, rfl⟩)
  clear o0 o2 o4 K
  refine wp_region_held_drew (S := fun wq => Below w1.heap.size w1 wq) (by kernel_rfl) (Below.refl _ _).drew (fun hS => ?_)
  refine take_at 0 (some 31) (v := ?_) rfl rfl (by kernel_rfl) (by kernel_rfl) (by kernel_rfl) (fun _ _ _ h => h) ⟨by rfl, ?_⟩ hS ?_
  rotate_left
  · intro wq hSw; go_simp; try rfl
  simp only [Act.put, List.setIfInBounds_toArray, List.set_cons_zero, List.set_cons_succ]
  refine take_at 1 (some 32) (v := ?_) rfl rfl (by kernel_rfl) (by kernel_rfl) (by kernel_rfl) (fun _ _ _ h => h) ⟨by rfl, ?_⟩ hS ?_
  rotate_left
  · intro wq hSw; have q := ((HC.out.keep (Keep.of_below (S := fun _ => False) hSw) id).get 0 _ rfl).1; go_simp; try rfl
  simp only [Act.put, List.setIfInBounds_toArray, List.set_cons_zero, List.set_cons_succ]
  refine take_at 2 (some 33) (v := ?_) rfl rfl (by kernel_rfl) (by kernel_rfl) (by kernel_rfl) (fun _ _ _ h => h) ⟨by rfl, ?_⟩ hS ?_
  rotate_left
  · intro wq hSw; go_simp; try rfl
  simp only [Act.put, List.setIfInBounds_toArray, List.set_cons_zero, List.set_cons_succ]
  refine take_at 3 (some 34) (v := ?_) rfl rfl (by kernel_rfl) (by kernel_rfl) (by kernel_rfl) (fun _ _ _ h => h) ⟨by rfl, ?_⟩ hS ?_
  rotate_left
  · intro wq hSw; go_simp; try rfl
  simp only [Act.put, List.setIfInBounds_toArray, List.set_cons_zero, List.set_cons_succ]
  refine take_at 4 (some 35) (v := ?_) rfl rfl (by kernel_rfl) (by kernel_rfl) (by kernel_rfl) (fun _ _ _ h => h) ⟨by rfl, ?_⟩ hS ?_
  rotate_left
  · intro wq hSw; go_simp; try rfl
  simp only [Act.put, List.setIfInBounds_toArray, List.set_cons_zero, List.set_cons_succ]
  refine take_at 5 (some 36) (v := ?_) rfl rfl (by kernel_rfl) (by kernel_rfl) (by kernel_rfl) (fun _ _ _ h => h) ⟨by rfl, ?_⟩ hS ?_
  rotate_left
  · intro wq hSw; go_simp; try rfl
  simp only [Act.put, List.setIfInBounds_toArray, List.set_cons_zero, List.set_cons_succ]
  refine take_at 6 (some 37) (v := ?_) rfl rfl (by kernel_rfl) (by kernel_rfl) (by kernel_rfl) (fun _ _ _ h => h) ⟨by rfl, ?_⟩ hS ?_
  rotate_left
  · intro wq hSw; go_simp; try rfl
  simp only [Act.put, List.setIfInBounds_toArray, List.set_cons_zero, List.set_cons_succ]
  refine take_at 7 (some 38) (v := ?_) rfl rfl (by kernel_rfl) (by kernel_rfl) (by kernel_rfl) (fun _ _ _ h => h) ⟨by rfl, ?_⟩ hS ?_
  rotate_left
  · intro wq hSw; have q := ((HH.out.below hSw).box.get 0 _ rfl).1; go_simp; try rfl
  simp only [Act.put, List.setIfInBounds_toArray, List.set_cons_zero, List.set_cons_succ]
  refine take_at 8 (some 39) (v := ?_) rfl rfl (by kernel_rfl) (by kernel_rfl) (by kernel_rfl) (fun _ _ _ h => h) ⟨by rfl, ?_⟩ hS ?_
  rotate_left
  · intro wq hSw; go_simp; try rfl
  simp only [Act.put, List.setIfInBounds_toArray, List.set_cons_zero, List.set_cons_succ]
  refine take_at 9 (some 40) (v := ?_) rfl rfl (by kernel_rfl) (by kernel_rfl) (by kernel_rfl) (fun _ _ _ h => h) ⟨by rfl, ?_⟩ hS ?_
  rotate_left
  · intro wq hSw; go_simp; try rfl
  simp only [Act.put, List.setIfInBounds_toArray, List.set_cons_zero, List.set_cons_succ]
  refine take_at 10 (some 41) (v := ?_) rfl rfl (by kernel_rfl) (by kernel_rfl) (by kernel_rfl) (fun _ _ _ h => h) ⟨by rfl, ?_⟩ hS ?_
  rotate_left
  · intro wq hSw; go_simp; try rfl
  simp only [Act.put, List.setIfInBounds_toArray, List.set_cons_zero, List.set_cons_succ]
  refine take_at 11 (some 42) (v := ?_) rfl rfl (by kernel_rfl) (by kernel_rfl) (by kernel_rfl) (fun _ _ _ h => h) ⟨by rfl, ?_⟩ hS ?_
  rotate_left
  · intro wq hSw; obtain ⟨g9, cap9, ev9, -, -, q9, -⟩ := (HH.out.below hSw).bookAt HPK.out; cases ev9; go_simp; try rfl
  simp only [Act.put, List.setIfInBounds_toArray, List.set_cons_zero, List.set_cons_succ]
  refine take_at 12 (some 43) (v := ?_) rfl rfl (by kernel_rfl) (by kernel_rfl) (by kernel_rfl) (fun _ _ _ h => h) ⟨by rfl, ?_⟩ hS ?_
  rotate_left
  · intro wq hSw; go_simp; try rfl
  simp only [Act.put, List.setIfInBounds_toArray, List.set_cons_zero, List.set_cons_succ]
  refine take_at 13 (some 44) (v := ?_) rfl rfl (by kernel_rfl) (by kernel_rfl) (by kernel_rfl) (fun _ _ _ h => h) ⟨by rfl, ?_⟩ hS ?_
  rotate_left
  · intro wq hSw; have q := ((HC.out.keep (Keep.of_below (S := fun _ => False) hSw) id).get 3 _ rfl).1; go_simp; try rfl
  simp only [Act.put, List.setIfInBounds_toArray, List.set_cons_zero, List.set_cons_succ]
  have HH2 := hide (HH.out.below (Below.refl _ _).drew)
  have HC2 := hide (HC.out.keep (Keep.of_below (S := fun _ => False) (Below.refl w1.heap.size w1).drew) id)
  have HA2 := hide (HA.out.trans ((Below.refl w1.heap.size w1).drew.mono HA.out.size))
  have HB2 := hide hS
  have SE := hide (HSE.out _ (Below.refl _ _).drew)
  clear hS HH HC HA HSE
  generalize w1.drew = x1 at *
  have K28 := place_any va vc t.hs ctr x1 SE.out (by have := HF.out; omega)
  rw [HPX.out] at K28
  simp only [placeI] at K28
  refine wpAnyH_ready (rs := [14]) (by kernel_rfl) (by simp) ?_
  refine AllReadyH.cons rfl (fun K hK => ?_) AllReadyH.nil
  go_simp
  go_wp2_with fail
  refine K28.mono ?_
  rintro e x2 ⟨rfl, rfl⟩
  go_wp2_with fail
  refine hK.out _ _ HB2.out (fun hS => ?_)
  clear hK K K28 SE
  (try simp only [Act.put, List.setIfInBounds_toArray, List.set_cons_zero, List.set_cons_succ])
  refine take_at 15 (some 46) (v := ?_) rfl rfl (by kernel_rfl) (by kernel_rfl) (by kernel_rfl) (fun _ _ _ h => h) ⟨by rfl, ?_⟩ hS ?_
  rotate_left
  · intro wq hSw; go_simp; try rfl
  simp only [Act.put, List.setIfInBounds_toArray, List.set_cons_zero, List.set_cons_succ]
  refine take_at 16 (some 47) (v := ?_) rfl rfl (by kernel_rfl) (by kernel_rfl) (by kernel_rfl) (fun _ _ _ h => h) ⟨by rfl, ?_⟩ hS ?_
  rotate_left
  · intro wq hSw; go_simp; try rfl
  simp only [Act.put, List.setIfInBounds_toArray, List.set_cons_zero, List.set_cons_succ]
  refine take_at 17 (some 30) (v := ?_) rfl rfl (by kernel_rfl) (by kernel_rfl) (by kernel_rfl) (fun _ _ _ h => h) ⟨by rfl, ?_⟩ hS ?_
  rotate_left
  · intro wq hSw; go_simp; try rfl
  simp only [Act.put, List.setIfInBounds_toArray, List.set_cons_zero, List.set_cons_succ]
  refine wpAnyH_done (by kernel_rfl) ?_ _
  clear hS HB2
  obtain ⟨o0, -⟩ := HC2.out.get 0 _ rfl
  clear HPX
  have ST2 := hide (OutL.after HA2.out (Lst.stays (show Lst bookL x1 S b L from ⟨_, P, HH2.out, HE.out⟩) (Below.refl _ _)))
  clear HH2 HC2 HPK HE
  go_wp2_with fail
  go_end0
  exact ⟨rfl, ST2.out⟩
set_option maxHeartbeats 4000000 in
theorem note2b (S : Nat → Prop) (b : Nat) (L : List Tx) (two : Bool) (tx ctr what free more : Int) (w : World) (h : Lst bookL w S b L) (hok : Ok L) (i : Nat) (hi : idx L tx = some i) (c4 : ∀ t, get L tx = some t → ctr ∉ t.hs) : Calls Try.prog 12 #[ptr b, .agg #[.int .i64 2, .bool two, .int .i64 tx, .int .i64 ctr, .int .i64 what, .int .i64 free, .int .i64 more]] w fun r w' => r = .returned (.tuple #[]) ∧ OutL bookL w S b (upd L tx (fun u => u.more ctr)) w' := by
  obtain ⟨w1, hw1⟩ : ∃ w1, w1 = w.alloc (.cells #[.int .i64 2, .bool two, .int .i64 tx, .int .i64 ctr, .int .i64 what, .int .i64 free, .int .i64 more] 26) := ⟨_, rfl⟩
  obtain ⟨nb, hnb⟩ : ∃ nb, nb = w.heap.size := ⟨_, rfl⟩
  have A1 : Below w.heap.size w w1 := by rw [hw1]; exact alloc_below _ _
  have C1 : Cells w1 nb [.int .i64 2, .bool two, .int .i64 tx, .int .i64 ctr, .int .i64 what, .int .i64 free, .int .i64 more] := by rw [hw1, hnb]; exact Cells.new w #[.int .i64 2, .bool two, .int .i64 tx, .int .i64 ctr, .int .i64 what, .int .i64 free, .int .i64 more] 26
  obtain ⟨o0, -⟩ := C1.get 0 _ rfl
  obtain ⟨o2, -⟩ := C1.get 2 _ rfl
  obtain ⟨o4, -⟩ := C1.get 4 _ rfl
  have h1 := h.below A1
  have HNS := hide (show ¬ S nb from fun q => by have := h.lt nb q; omega)
  have K := bat_any S b L tx w1 h1 (by have := hok.few; omega)
  have HA := hide A1
  have HC := hide C1
  have HW := hide hw1
  have HN := hide hnb
  clear h A1 C1 hw1 hnb
  obtain ⟨v, P, h, e⟩ := h1
  have hil := idx_lt hi
  obtain ⟨t, ht, hg, htn⟩ := idx_get hi
  rw [hi] at K
  simp only [placeI] at K
  have hd : decide ((i : Int) < 0) = false := by simp
  have hlen := map_len e
  have few := hok.few
  have hip : i < P.length := by omega
  have hpn : P.length ≤ 32 := by omega
  have tok := hok.each t (get_mem hg).1
  obtain ⟨vk, hpk⟩ := map_at e ht
  obtain ⟨g, cap, rfl, hgl, p0, p1, p2, p3, fz⟩ := h.bookAt hpk
  obtain ⟨k0, -⟩ := h.box.get 0 _ rfl
  obtain ⟨va, vc, rfl, hseen⟩ := h.blist hpk
  clear hlen hil
  have HH := hide h
  have HPK := hide hpk
  have HE := hide e
  have HF := hide tok.few
  have HSE := hide (show ∀ x, Below w1.heap.size w1 x → Seen .i64 x va t.hs from fun x hx => hseen.below hx)
  have UP : upd L tx (fun u => u.more ctr) = L.set i (t.more ctr) := upd_idx hok.nd _ hi ht
  rw [UP]
  have hx : t.hs.findIdx? (fun z => z == ctr) = none := by
    have := has_idx t.hs ctr
    cases q : t.hs.findIdx? (fun z => z == ctr) with
    | none => rfl
    | some j => rw [q] at this; simp at this; exact absurd this (c4 t hg)
  have HPX := hide hx
  clear h e hok hi ht hg htn hpk tok c4 hx hseen p0 p1 p2 p3 fz k0 UP
  go_enter Try.func12, Try.ntmps12
  go_upto_region 1 with fail
  rw [← HW.out, ← HN.out]
  clear HW HN
  go_upto_region 5 with (go_at_call 27; refine K.mono ?_; rintro e w3 ⟨rfl, rfl⟩)
  clear o0 o2 o4 K
  refine wp_region_held_drew (S := fun wq => Below w1.heap.size w1 wq) (by kernel_rfl) (Below.refl _ _).drew (fun hS => ?_)
  refine take_at 0 (some 31) (v := ?_) rfl rfl (by kernel_rfl) (by kernel_rfl) (by kernel_rfl) (fun _ _ _ h => h) ⟨by rfl, ?_⟩ hS ?_
  rotate_left
  · intro wq hSw; go_simp; try rfl
  simp only [Act.put, List.setIfInBounds_toArray, List.set_cons_zero, List.set_cons_succ]
  refine take_at 1 (some 32) (v := ?_) rfl rfl (by kernel_rfl) (by kernel_rfl) (by kernel_rfl) (fun _ _ _ h => h) ⟨by rfl, ?_⟩ hS ?_
  rotate_left
  · intro wq hSw; have q := ((HC.out.keep (Keep.of_below (S := fun _ => False) hSw) id).get 0 _ rfl).1; go_simp; try rfl
  simp only [Act.put, List.setIfInBounds_toArray, List.set_cons_zero, List.set_cons_succ]
  refine take_at 2 (some 33) (v := ?_) rfl rfl (by kernel_rfl) (by kernel_rfl) (by kernel_rfl) (fun _ _ _ h => h) ⟨by rfl, ?_⟩ hS ?_
  rotate_left
  · intro wq hSw; go_simp; try rfl
  simp only [Act.put, List.setIfInBounds_toArray, List.set_cons_zero, List.set_cons_succ]
  refine take_at 3 (some 34) (v := ?_) rfl rfl (by kernel_rfl) (by kernel_rfl) (by kernel_rfl) (fun _ _ _ h => h) ⟨by rfl, ?_⟩ hS ?_
  rotate_left
  · intro wq hSw; go_simp; try rfl
  simp only [Act.put, List.setIfInBounds_toArray, List.set_cons_zero, List.set_cons_succ]
  refine take_at 4 (some 35) (v := ?_) rfl rfl (by kernel_rfl) (by kernel_rfl) (by kernel_rfl) (fun _ _ _ h => h) ⟨by rfl, ?_⟩ hS ?_
  rotate_left
  · intro wq hSw; go_simp; try rfl
  simp only [Act.put, List.setIfInBounds_toArray, List.set_cons_zero, List.set_cons_succ]
  refine take_at 5 (some 36) (v := ?_) rfl rfl (by kernel_rfl) (by kernel_rfl) (by kernel_rfl) (fun _ _ _ h => h) ⟨by rfl, ?_⟩ hS ?_
  rotate_left
  · intro wq hSw; go_simp; try rfl
  simp only [Act.put, List.setIfInBounds_toArray, List.set_cons_zero, List.set_cons_succ]
  refine take_at 6 (some 37) (v := ?_) rfl rfl (by kernel_rfl) (by kernel_rfl) (by kernel_rfl) (fun _ _ _ h => h) ⟨by rfl, ?_⟩ hS ?_
  rotate_left
  · intro wq hSw; go_simp; try rfl
  simp only [Act.put, List.setIfInBounds_toArray, List.set_cons_zero, List.set_cons_succ]
  refine take_at 7 (some 38) (v := ?_) rfl rfl (by kernel_rfl) (by kernel_rfl) (by kernel_rfl) (fun _ _ _ h => h) ⟨by rfl, ?_⟩ hS ?_
  rotate_left
  · intro wq hSw; have q := ((HH.out.below hSw).box.get 0 _ rfl).1; go_simp; try rfl
  simp only [Act.put, List.setIfInBounds_toArray, List.set_cons_zero, List.set_cons_succ]
  refine take_at 8 (some 39) (v := ?_) rfl rfl (by kernel_rfl) (by kernel_rfl) (by kernel_rfl) (fun _ _ _ h => h) ⟨by rfl, ?_⟩ hS ?_
  rotate_left
  · intro wq hSw; go_simp; try rfl
  simp only [Act.put, List.setIfInBounds_toArray, List.set_cons_zero, List.set_cons_succ]
  refine take_at 9 (some 40) (v := ?_) rfl rfl (by kernel_rfl) (by kernel_rfl) (by kernel_rfl) (fun _ _ _ h => h) ⟨by rfl, ?_⟩ hS ?_
  rotate_left
  · intro wq hSw; go_simp; try rfl
  simp only [Act.put, List.setIfInBounds_toArray, List.set_cons_zero, List.set_cons_succ]
  refine take_at 10 (some 41) (v := ?_) rfl rfl (by kernel_rfl) (by kernel_rfl) (by kernel_rfl) (fun _ _ _ h => h) ⟨by rfl, ?_⟩ hS ?_
  rotate_left
  · intro wq hSw; go_simp; try rfl
  simp only [Act.put, List.setIfInBounds_toArray, List.set_cons_zero, List.set_cons_succ]
  refine take_at 11 (some 42) (v := ?_) rfl rfl (by kernel_rfl) (by kernel_rfl) (by kernel_rfl) (fun _ _ _ h => h) ⟨by rfl, ?_⟩ hS ?_
  rotate_left
  · intro wq hSw; obtain ⟨g9, cap9, ev9, -, -, q9, -⟩ := (HH.out.below hSw).bookAt HPK.out; cases ev9; go_simp; try rfl
  simp only [Act.put, List.setIfInBounds_toArray, List.set_cons_zero, List.set_cons_succ]
  refine take_at 12 (some 43) (v := ?_) rfl rfl (by kernel_rfl) (by kernel_rfl) (by kernel_rfl) (fun _ _ _ h => h) ⟨by rfl, ?_⟩ hS ?_
  rotate_left
  · intro wq hSw; go_simp; try rfl
  simp only [Act.put, List.setIfInBounds_toArray, List.set_cons_zero, List.set_cons_succ]
  refine take_at 13 (some 44) (v := ?_) rfl rfl (by kernel_rfl) (by kernel_rfl) (by kernel_rfl) (fun _ _ _ h => h) ⟨by rfl, ?_⟩ hS ?_
  rotate_left
  · intro wq hSw; have q := ((HC.out.keep (Keep.of_below (S := fun _ => False) hSw) id).get 3 _ rfl).1; go_simp; try rfl
  simp only [Act.put, List.setIfInBounds_toArray, List.set_cons_zero, List.set_cons_succ]
  have HH2 := hide (HH.out.below (Below.refl _ _).drew)
  have HC2 := hide (HC.out.keep (Keep.of_below (S := fun _ => False) (Below.refl w1.heap.size w1).drew) id)
  have HA2 := hide (HA.out.trans ((Below.refl w1.heap.size w1).drew.mono HA.out.size))
  have HB2 := hide hS
  have SE := hide (HSE.out _ (Below.refl _ _).drew)
  clear hS HH HC HA HSE
  generalize w1.drew = x1 at *
  have K28 := place_any va vc t.hs ctr x1 SE.out (by have := HF.out; omega)
  rw [HPX.out] at K28
  simp only [placeI] at K28
  refine wpAnyH_ready (rs := [14]) (by kernel_rfl) (by simp) ?_
  refine AllReadyH.cons rfl (fun K hK => ?_) AllReadyH.nil
  go_simp
  go_wp2_with fail
  refine K28.mono ?_
  rintro e x2 ⟨rfl, rfl⟩
  go_wp2_with fail
  refine hK.out _ _ HB2.out (fun hS => ?_)
  clear hK K K28 SE
  (try simp only [Act.put, List.setIfInBounds_toArray, List.set_cons_zero, List.set_cons_succ])
  refine take_at 15 (some 46) (v := ?_) rfl rfl (by kernel_rfl) (by kernel_rfl) (by kernel_rfl) (fun _ _ _ h => h) ⟨by rfl, ?_⟩ hS ?_
  rotate_left
  · intro wq hSw; go_simp; try rfl
  simp only [Act.put, List.setIfInBounds_toArray, List.set_cons_zero, List.set_cons_succ]
  refine take_at 16 (some 47) (v := ?_) rfl rfl (by kernel_rfl) (by kernel_rfl) (by kernel_rfl) (fun _ _ _ h => h) ⟨by rfl, ?_⟩ hS ?_
  rotate_left
  · intro wq hSw; go_simp; try rfl
  simp only [Act.put, List.setIfInBounds_toArray, List.set_cons_zero, List.set_cons_succ]
  refine take_at 17 (some 30) (v := ?_) rfl rfl (by kernel_rfl) (by kernel_rfl) (by kernel_rfl) (fun _ _ _ h => h) ⟨by rfl, ?_⟩ hS ?_
  rotate_left
  · intro wq hSw; go_simp; try rfl
  simp only [Act.put, List.setIfInBounds_toArray, List.set_cons_zero, List.set_cons_succ]
  refine wpAnyH_done (by kernel_rfl) ?_ _
  clear hS HB2
  clear HPX
  go_upto_region 6 with fail
  have H5 := HH2.out.below (Below.refl _ _).drew
  obtain ⟨vv, w2, ⟨a9, n9, c9, rfl⟩, hr, hk2, FO, ⟨u, cu⟩, fu⟩ := H5.more book_good book_has HPK.out (show t.hs.length ≤ 1000 by have := HF.out; omega) rfl ctr 37
  rw [HE.out] at FO
  change OutL bookL x1.drew S b _ (w2.setCell ⟨g, i * 4 + 1, none⟩ (.slice a9 n9 c9)) at FO
  change w2.cell? ⟨g, i * 4 + 1, none⟩ = _ at cu
  change w2.frozen? ⟨g, i * 4 + 1, none⟩ = _ at fu
  obtain ⟨g8, cap8, ev8, -, -, r2, -⟩ := H5.bookAt HPK.out
  cases ev8
  have NB := hide (show ¬ b = g from fun q => (HH2.out.rs g rfl).2 q.symm)
  have NL := hide (show ∀ z, (Value.slice va t.hs.length vc).ownBlock = some z → ¬ b = z ∧ ¬ nb = z from fun z hz => ⟨fun q => (HH2.out.os _ (List.mem_of_getElem? HPK.out) z hz).2.1 q.symm, fun q => HNS.out (by rw [q]; exact (HH2.out.os _ (List.mem_of_getElem? HPK.out) z hz).1)⟩)
  have NG := hide (show ¬ nb = g from fun q => HNS.out (by rw [q]; exact (HH2.out.rs g rfl).1))
  have HNO := hide (show ¬ (fun z => z = g ∨ (Value.slice va t.hs.length vc).ownBlock = some z) nb from fun q => q.elim NG.out (fun q => (NL.out nb q).2 rfl))
  have HNO2 := hide (show ¬ (fun z => z = g ∨ (Value.slice va t.hs.length vc).ownBlock = some z) b from fun q => q.elim NB.out (fun q => (NL.out b q).1 rfl))
  have HB := hide HH2.out.box
  have FIN := hide (OutL.after (HA2.out.trans ((Below.refl x1.heap.size x1).drew.mono HA2.out.size)) FO)
  have HRR := hide hr
  have HK2 := hide hk2
  clear FO hr hk2 H5 HH2 HPK HE HF
  refine wp_region_held_drew (S := fun wq => Keep (fun z => z = g ∨ (Value.slice va t.hs.length vc).ownBlock = some z) x1 wq) (by kernel_rfl) (Keep.refl _ _).drew (fun hS => ?_)
  refine take_at 0 (some 48) (v := ?_) rfl rfl (by kernel_rfl) (by kernel_rfl) (by kernel_rfl) (fun _ _ _ h => h) ⟨by rfl, ?_⟩ hS ?_
  rotate_left
  · intro wq hSw; go_simp; try rfl
  simp only [Act.put, List.setIfInBounds_toArray, List.set_cons_zero, List.set_cons_succ]
  refine take_at 1 (some 49) (v := ?_) rfl rfl (by kernel_rfl) (by kernel_rfl) (by kernel_rfl) (fun _ _ _ h => h) ⟨by rfl, ?_⟩ hS ?_
  rotate_left
  · intro wq hSw; go_simp; try rfl
  simp only [Act.put, List.setIfInBounds_toArray, List.set_cons_zero, List.set_cons_succ]
  refine take_at 2 (some 50) (v := ?_) rfl rfl (by kernel_rfl) (by kernel_rfl) (by kernel_rfl) (fun _ _ _ h => h) ⟨by rfl, ?_⟩ hS ?_
  rotate_left
  · intro wq hSw; go_simp; try rfl
  simp only [Act.put, List.setIfInBounds_toArray, List.set_cons_zero, List.set_cons_succ]
  refine take_at 3 (some 51) (v := ?_) rfl rfl (by kernel_rfl) (by kernel_rfl) (by kernel_rfl) (fun _ _ _ h => h) ⟨by rfl, ?_⟩ hS ?_
  rotate_left
  · intro wq hSw; have q := ((HB.out.keep hSw HNO2.out).get 0 _ rfl).1; go_simp; try rfl
  simp only [Act.put, List.setIfInBounds_toArray, List.set_cons_zero, List.set_cons_succ]
  refine take_at 4 (some 52) (v := ?_) rfl rfl (by kernel_rfl) (by kernel_rfl) (by kernel_rfl) (fun _ _ _ h => h) ⟨by rfl, ?_⟩ hS ?_
  rotate_left
  · intro wq hSw; go_simp; try rfl
  simp only [Act.put, List.setIfInBounds_toArray, List.set_cons_zero, List.set_cons_succ]
  refine take_at 5 (some 53) (v := ?_) rfl rfl (by kernel_rfl) (by kernel_rfl) (by kernel_rfl) (fun _ _ _ h => h) ⟨by rfl, ?_⟩ hS ?_
  rotate_left
  · intro wq hSw; go_simp; try rfl
  simp only [Act.put, List.setIfInBounds_toArray, List.set_cons_zero, List.set_cons_succ]
  refine take_at 6 (some 54) (v := ?_) rfl rfl (by kernel_rfl) (by kernel_rfl) (by kernel_rfl) (fun _ _ _ h => h) ⟨by rfl, ?_⟩ hS ?_
  rotate_left
  · intro wq hSw; go_simp; try rfl
  simp only [Act.put, List.setIfInBounds_toArray, List.set_cons_zero, List.set_cons_succ]
  refine take_at 7 (some 55) (v := ?_) rfl rfl (by kernel_rfl) (by kernel_rfl) (by kernel_rfl) (fun _ _ _ h => h) ⟨by rfl, ?_⟩ hS ?_
  rotate_left
  · intro wq hSw; go_simp; try rfl
  simp only [Act.put, List.setIfInBounds_toArray, List.set_cons_zero, List.set_cons_succ]
  refine take_at 8 (some 56) (v := ?_) rfl rfl (by kernel_rfl) (by kernel_rfl) (by kernel_rfl) (fun _ _ _ h => h) ⟨by rfl, ?_⟩ hS ?_
  rotate_left
  · intro wq hSw; have q := ((HB.out.keep hSw HNO2.out).get 0 _ rfl).1; go_simp; try rfl
  simp only [Act.put, List.setIfInBounds_toArray, List.set_cons_zero, List.set_cons_succ]
  refine take_at 9 (some 57) (v := ?_) rfl rfl (by kernel_rfl) (by kernel_rfl) (by kernel_rfl) (fun _ _ _ h => h) ⟨by rfl, ?_⟩ hS ?_
  rotate_left
  · intro wq hSw; go_simp; try rfl
  simp only [Act.put, List.setIfInBounds_toArray, List.set_cons_zero, List.set_cons_succ]
  refine take_at 10 (some 58) (v := ?_) rfl rfl (by kernel_rfl) (by kernel_rfl) (by kernel_rfl) (fun _ _ _ h => h) ⟨by rfl, ?_⟩ hS ?_
  rotate_left
  · intro wq hSw; go_simp; try rfl
  simp only [Act.put, List.setIfInBounds_toArray, List.set_cons_zero, List.set_cons_succ]
  refine take_at 11 (some 59) (v := ?_) rfl rfl (by kernel_rfl) (by kernel_rfl) (by kernel_rfl) (fun _ _ _ h => h) ⟨by rfl, ?_⟩ hS ?_
  rotate_left
  · intro wq hSw; go_simp; try rfl
  simp only [Act.put, List.setIfInBounds_toArray, List.set_cons_zero, List.set_cons_succ]
  refine take_at 13 (some 61) (v := ?_) rfl rfl (by kernel_rfl) (by kernel_rfl) (by kernel_rfl) (fun _ _ _ h => h) ⟨by rfl, ?_⟩ hS ?_
  rotate_left
  · intro wq hSw; go_simp; try rfl
  simp only [Act.put, List.setIfInBounds_toArray, List.set_cons_zero, List.set_cons_succ]
  refine take_at 14 (some 62) (v := ?_) rfl rfl (by kernel_rfl) (by kernel_rfl) (by kernel_rfl) (fun _ _ _ h => h) ⟨by rfl, ?_⟩ hS ?_
  rotate_left
  · intro wq hSw; have q := ((HC2.out.keep hSw HNO.out).get 3 _ rfl).1; go_simp; try rfl
  simp only [Act.put, List.setIfInBounds_toArray, List.set_cons_zero, List.set_cons_succ]
  have D1 := hide hS
  clear hS HC2 HA2
  have R2 := hide r2
  clear r2
  generalize x1.drew = x3 at *
  refine wpAnyH_ready (rs := [12, 15]) (by kernel_rfl) (by simp) ?_
  refine AllReadyH.cons rfl (fun K hK => ?_) (AllReadyH.cons rfl (fun K hK => ?_) AllReadyH.nil)
  · have q2 := R2.out
    go_simp
    go_wp2_with fail
    refine hK.out _ _ D1.out (fun hS => ?_)
    clear hK K hS
    (try simp only [Act.put, List.setIfInBounds_toArray, List.set_cons_zero, List.set_cons_succ])
    refine wpAnyH_ready (rs := [15]) (by kernel_rfl) (by simp) ?_
    refine AllReadyH.cons rfl (fun K hK => ?_) AllReadyH.nil
    go_simp
    go_wp2_with fail
    refine hK.out _ _ (D1.out.alloc _) (fun hS => ?_)
    clear hK K hS
    (try simp only [Act.put, List.setIfInBounds_toArray, List.set_cons_zero, List.set_cons_succ])
    refine wpAnyH_ready (rs := [16]) (by kernel_rfl) (by simp) ?_
    refine AllReadyH.cons rfl (fun K hK => ?_) AllReadyH.nil
    refine wp_run 64 (.tmp 60) (.tmp 63) rfl rfl rfl rfl rfl HRR.out ?_
    refine hK.out _ _ (D1.out.trans HK2.out (fun _ _ q => .inr q)) (fun hS => ?_)
    clear hK K
    (try simp only [Act.put, List.setIfInBounds_toArray, List.set_cons_zero, List.set_cons_succ])
    refine take_at 17 (some 65) (v := ?_) rfl rfl (by kernel_rfl) (by kernel_rfl) (by kernel_rfl) (fun _ _ _ h => h) ⟨by rfl, ?_⟩ hS ?_
    rotate_left
    · intro wq hSw; go_simp; try rfl
    simp only [Act.put, List.setIfInBounds_toArray, List.set_cons_zero, List.set_cons_succ]
    refine take_at 18 (some 66) (v := ?_) rfl rfl (by kernel_rfl) (by kernel_rfl) (by kernel_rfl) (fun _ _ _ h => h) ⟨by rfl, ?_⟩ hS ?_
    rotate_left
    · intro wq hSw; go_simp; try rfl
    simp only [Act.put, List.setIfInBounds_toArray, List.set_cons_zero, List.set_cons_succ]
    refine wpAnyH_ready (rs := [19]) (by kernel_rfl) (by simp) ?_
    refine AllReadyH.cons rfl (fun K hK => ?_) AllReadyH.nil
    go_simp
    go_wp2_with fail
    refine hK.out _ _ (hS.setCell (fun _ => .inl rfl) _) (fun hS => ?_)
    clear hK K hS
    (try simp only [Act.put])
    refine wpAnyH_done (by kernel_rfl) ?_ _
    go_wp2_with fail
    go_end0
    exact ⟨rfl, FIN.out⟩
  · go_simp
    go_wp2_with fail
    refine hK.out _ _ (D1.out.alloc _) (fun hS => ?_)
    clear hK K hS
    (try simp only [Act.put, List.setIfInBounds_toArray, List.set_cons_zero, List.set_cons_succ])
    refine wpAnyH_ready (rs := [12]) (by kernel_rfl) (by simp) ?_
    refine AllReadyH.cons rfl (fun K hK => ?_) AllReadyH.nil
    have q2 : (x3.alloc (.cells #[.int .i64 ctr] 3)).cell? ⟨g, i * 4 + 1, none⟩ = some (Value.slice va t.hs.length vc) := by rw [World.cell?_alloc_some _ _ _ (by rw [R2.out]; rfl)]; exact R2.out
    go_simp
    go_wp2_with fail
    refine hK.out _ _ (D1.out.alloc _) (fun hS => ?_)
    clear hK K hS
    (try simp only [Act.put, List.setIfInBounds_toArray, List.set_cons_zero, List.set_cons_succ])
    refine wpAnyH_ready (rs := [16]) (by kernel_rfl) (by simp) ?_
    refine AllReadyH.cons rfl (fun K hK => ?_) AllReadyH.nil
    refine wp_run 64 (.tmp 60) (.tmp 63) rfl rfl rfl rfl rfl HRR.out ?_
    refine hK.out _ _ (D1.out.trans HK2.out (fun _ _ q => .inr q)) (fun hS => ?_)
    clear hK K
    (try simp only [Act.put, List.setIfInBounds_toArray, List.set_cons_zero, List.set_cons_succ])
    refine take_at 17 (some 65) (v := ?_) rfl rfl (by kernel_rfl) (by kernel_rfl) (by kernel_rfl) (fun _ _ _ h => h) ⟨by rfl, ?_⟩ hS ?_
    rotate_left
    · intro wq hSw; go_simp; try rfl
    simp only [Act.put, List.setIfInBounds_toArray, List.set_cons_zero, List.set_cons_succ]
    refine take_at 18 (some 66) (v := ?_) rfl rfl (by kernel_rfl) (by kernel_rfl) (by kernel_rfl) (fun _ _ _ h => h) ⟨by rfl, ?_⟩ hS ?_
    rotate_left
    · intro wq hSw; go_simp; try rfl
    simp only [Act.put, List.setIfInBounds_toArray, List.set_cons_zero, List.set_cons_succ]
    refine wpAnyH_ready (rs := [19]) (by kernel_rfl) (by simp) ?_
    refine AllReadyH.cons rfl (fun K hK => ?_) AllReadyH.nil
    go_simp
    go_wp2_with fail
    refine hK.out _ _ (hS.setCell (fun _ => .inl rfl) _) (fun hS => ?_)
    clear hK K hS
    (try simp only [Act.put])
    refine wpAnyH_done (by kernel_rfl) ?_ _
    go_wp2_with fail
    go_end0
    exact ⟨rfl, FIN.out⟩
end Go.Proofs.Ytadppakflbilcaa
