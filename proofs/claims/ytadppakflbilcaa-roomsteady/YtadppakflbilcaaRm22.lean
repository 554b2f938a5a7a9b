import Derived.Test.YtadppakflbilcaaRm21
namespace Go.Proofs.Ytadppakflbilcaa
open Go.RowKit Go.QK Go.Maps Go.QM Go.QR
set_option maxRecDepth 100000
set_option maxHeartbeats 4000000 in
theorem note5 (S : Nat → Prop) (b : Nat) (L : List Tx) (two : Bool) (tx ctr free more : Int) (w : World) (h : Lst bookL w S b L) (hok : Ok L) (i : Nat) (hi : idx L tx = some i) (c4 : ∀ t, get L tx = some t → t.st = 0) : Calls Try.prog 12 #[ptr b, .agg #[.int .i64 3, .bool two, .int .i64 tx, .int .i64 ctr, .int .i64 5, .int .i64 free, .int .i64 more]] w fun r w' => r = .returned (.tuple #[]) ∧ OutL bookL w S b (upd L tx (fun u => u.turn 1)) w' := by
  obtain ⟨w1, hw1⟩ : ∃ w1, w1 = w.alloc (.cells #[.int .i64 3, .bool two, .int .i64 tx, .int .i64 ctr, .int .i64 5, .int .i64 free, .int .i64 more] 26) := ⟨_, rfl⟩
  obtain ⟨nb, hnb⟩ : ∃ nb, nb = w.heap.size := ⟨_, rfl⟩
  have A1 : Below w.heap.size w w1 := by rw [hw1]; exact alloc_below _ _
  have C1 : Cells w1 nb [.int .i64 3, .bool two, .int .i64 tx, .int .i64 ctr, .int .i64 5, .int .i64 free, .int .i64 more] := by rw [hw1, hnb]; exact Cells.new w #[.int .i64 3, .bool two, .int .i64 tx, .int .i64 ctr, .int .i64 5, .int .i64 free, .int .i64 more] 26
  obtain ⟨o0, -⟩ := C1.get 0 _ rfl
  obtain ⟨o2, -⟩ := C1.get 2 _ rfl
  obtain ⟨o4, -⟩ := C1.get 4 _ rfl
  have h1 := h.below A1
  have HNS := hide (show ¬ S nb from fun q => by have := h.lt nb q; omega)
  have K := bat_any S b L tx w1 h1 (by have := hok.few; omega)
  have HA := hide A1
  have HC := hide C1
  have HW := hide hw1
  have HN := hide hnb
  clear h A1 C1 hw1 hnb
  obtain ⟨v, P, h, e⟩ := h1
  have hil := idx_lt hi
  obtain ⟨t, ht, hg, htn⟩ := idx_get hi
  rw [hi] at K
  simp only [placeI] at K
  have hd : decide ((i : Int) < 0) = false := by simp
  have hlen := map_len e
  have few := hok.few
  have hip : i < P.length := by omega
  have hpn : P.length ≤ 32 := by omega
  have tok := hok.each t (get_mem hg).1
  obtain ⟨vk, hpk⟩ := map_at e ht
  obtain ⟨g, cap, rfl, hgl, p0, p1, p2, p3, fz⟩ := h.bookAt hpk
  obtain ⟨k0, -⟩ := h.box.get 0 _ rfl
  obtain ⟨va, vc, rfl, hseen⟩ := h.blist hpk
  clear hlen hil
  have HH := hide h
  have HPK := hide hpk
  have HE := hide e
  have HF := hide tok.few
  have HSE := hide (show ∀ x, Below w1.heap.size w1 x → Seen .i64 x va t.hs from fun x hx => hseen.below hx)
  have UP : upd L tx (fun u => u.turn 1) = L.set i (t.turn 1) := upd_idx hok.nd _ hi ht
  rw [UP]
  have C4 := hide (c4 t hg)
  clear UP c4 hok htn
  clear h e hi ht hg hpk hseen p0 p1 p2 p3 fz k0 tok
  go_enter Try.func12, Try.ntmps12
  go_upto_region 1 with fail
  rw [← HW.out, ← HN.out]
  clear HW HN
  go_upto_region 5 with (go_at_call 27; refine K.mono ?_; rintro e w3 ⟨rfl, rfl⟩)
  clear o0 o2 o4 K
  refine wp_region_held_drew (S := fun wq => Below w1.heap.size w1 wq) (by kernel_rfl) (Below.refl _ _).drew (fun hS => ?_)
  refine take_at 0 (some 31) (v := ?_) rfl rfl (by kernel_rfl) (by kernel_rfl) (by kernel_rfl) (fun _ _ _ h => h) ⟨by rfl, ?_⟩ hS ?_
  rotate_left
  · intro wq hSw; go_simp; try rfl
  simp only [Act.put, List.setIfInBounds_toArray, List.set_cons_zero, List.set_cons_succ]
  refine take_at 1 (some 32) (v := ?_) rfl rfl (by kernel_rfl) (by kernel_rfl) (by kernel_rfl) (fun _ _ _ h => h) ⟨by rfl, ?_⟩ hS ?_
  rotate_left
  · intro wq hSw; have q := ((HC.out.keep (Keep.of_below (S := fun _ => False) hSw) id).get 0 _ rfl).1; go_simp; try rfl
  simp only [Act.put, List.setIfInBounds_toArray, List.set_cons_zero, List.set_cons_succ]
  refine take_at 2 (some 33) (v := ?_) rfl rfl (by kernel_rfl) (by kernel_rfl) (by kernel_rfl) (fun _ _ _ h => h) ⟨by rfl, ?_⟩ hS ?_
  rotate_left
  · intro wq hSw; go_simp; try rfl
  simp only [Act.put, List.setIfInBounds_toArray, List.set_cons_zero, List.set_cons_succ]
  refine take_at 3 (some 34) (v := ?_) rfl rfl (by kernel_rfl) (by kernel_rfl) (by kernel_rfl) (fun _ _ _ h => h) ⟨by rfl, ?_⟩ hS ?_
  rotate_left
  · intro wq hSw; go_simp; try rfl
  simp only [Act.put, List.setIfInBounds_toArray, List.set_cons_zero, List.set_cons_succ]
  refine pass_at 4 (some 35) rfl rfl (by kernel_rfl) (by kernel_rfl) (by kernel_rfl) (fun _ _ _ h => h) (by rfl) hS ?_
  simp only [Act.put, List.setIfInBounds_toArray, List.set_cons_zero, List.set_cons_succ]
  refine pass_at 5 (some 36) rfl rfl (by kernel_rfl) (by kernel_rfl) (by kernel_rfl) (fun _ _ _ h => h) (by rfl) hS ?_
  simp only [Act.put, List.setIfInBounds_toArray, List.set_cons_zero, List.set_cons_succ]
  refine pass_at 6 (some 37) rfl rfl (by kernel_rfl) (by kernel_rfl) (by kernel_rfl) (fun _ _ _ h => h) (by rfl) hS ?_
  simp only [Act.put, List.setIfInBounds_toArray, List.set_cons_zero, List.set_cons_succ]
  refine pass_at 7 (some 38) rfl rfl (by kernel_rfl) (by kernel_rfl) (by kernel_rfl) (fun _ _ _ h => h) (by rfl) hS ?_
  simp only [Act.put, List.setIfInBounds_toArray, List.set_cons_zero, List.set_cons_succ]
  refine pass_at 8 (some 39) rfl rfl (by kernel_rfl) (by kernel_rfl) (by kernel_rfl) (fun _ _ _ h => h) (by rfl) hS ?_
  simp only [Act.put, List.setIfInBounds_toArray, List.set_cons_zero, List.set_cons_succ]
  refine pass_at 9 (some 40) rfl rfl (by kernel_rfl) (by kernel_rfl) (by kernel_rfl) (fun _ _ _ h => h) (by rfl) hS ?_
  simp only [Act.put, List.setIfInBounds_toArray, List.set_cons_zero, List.set_cons_succ]
  refine pass_at 10 (some 41) rfl rfl (by kernel_rfl) (by kernel_rfl) (by kernel_rfl) (fun _ _ _ h => h) (by rfl) hS ?_
  simp only [Act.put, List.setIfInBounds_toArray, List.set_cons_zero, List.set_cons_succ]
  refine pass_at 11 (some 42) rfl rfl (by kernel_rfl) (by kernel_rfl) (by kernel_rfl) (fun _ _ _ h => h) (by rfl) hS ?_
  simp only [Act.put, List.setIfInBounds_toArray, List.set_cons_zero, List.set_cons_succ]
  refine pass_at 12 (some 43) rfl rfl (by kernel_rfl) (by kernel_rfl) (by kernel_rfl) (fun _ _ _ h => h) (by rfl) hS ?_
  simp only [Act.put, List.setIfInBounds_toArray, List.set_cons_zero, List.set_cons_succ]
  refine pass_at 13 (some 44) rfl rfl (by kernel_rfl) (by kernel_rfl) (by kernel_rfl) (fun _ _ _ h => h) (by rfl) hS ?_
  simp only [Act.put, List.setIfInBounds_toArray, List.set_cons_zero, List.set_cons_succ]
  refine pass_at 14 (some 45) rfl rfl (by kernel_rfl) (by kernel_rfl) (by kernel_rfl) (fun _ _ _ h => h) (by rfl) hS ?_
  simp only [Act.put, List.setIfInBounds_toArray, List.set_cons_zero, List.set_cons_succ]
  refine pass_at 15 (some 46) rfl rfl (by kernel_rfl) (by kernel_rfl) (by kernel_rfl) (fun _ _ _ h => h) (by rfl) hS ?_
  simp only [Act.put, List.setIfInBounds_toArray, List.set_cons_zero, List.set_cons_succ]
  refine take_at 16 (some 47) (v := ?_) rfl rfl (by kernel_rfl) (by kernel_rfl) (by kernel_rfl) (fun _ _ _ h => h) ⟨by rfl, ?_⟩ hS ?_
  rotate_left
  · intro wq hSw; go_simp; try rfl
  simp only [Act.put, List.setIfInBounds_toArray, List.set_cons_zero, List.set_cons_succ]
  refine take_at 17 (some 30) (v := ?_) rfl rfl (by kernel_rfl) (by kernel_rfl) (by kernel_rfl) (fun _ _ _ h => h) ⟨by rfl, ?_⟩ hS ?_
  rotate_left
  · intro wq hSw; go_simp; try rfl
  simp only [Act.put, List.setIfInBounds_toArray, List.set_cons_zero, List.set_cons_succ]
  refine wpAnyH_done (by kernel_rfl) ?_ _
  have HH2 := hide (HH.out.below (Below.refl _ _).drew)
  have HC2 := hide (HC.out.keep (Keep.of_below (S := fun _ => False) (Below.refl w1.heap.size w1).drew) id)
  have HA2 := hide (HA.out.trans ((Below.refl w1.heap.size w1).drew.mono HA.out.size))
  have HSE2 := hide (HSE.out _ (Below.refl _ _).drew)
  clear hS HH HC HA HSE
  generalize w1.drew = x1 at *
  obtain ⟨o0, -⟩ := HC2.out.get 0 _ rfl
  obtain ⟨o4, -⟩ := HC2.out.get 4 _ rfl
  obtain ⟨o3, -⟩ := HC2.out.get 3 _ rfl
  obtain ⟨k0, -⟩ := HH2.out.box.get 0 _ rfl
  obtain ⟨g9, cap9, ev9, hgl9, p0, p1, p2, p3, fz⟩ := HH2.out.bookAt HPK.out
  cases ev9
  obtain ⟨T1, KT1⟩ := HH2.out.turn book_good HPK.out rfl 2 (.bool true) 1 (by decide) (by simp [bookL, C4.out])
  change Ls bookL (World.setCell _ ⟨g, i * 4 + 2, none⟩ _) _ _ _ _ at T1
  change Keep S _ (World.setCell _ ⟨g, i * 4 + 2, none⟩ _) at KT1
  have FIN := hide (OutL.after HA2.out (out_turn (L := L.set i (t.turn 1)) T1 (by rw [List.map_set, HE.out]; rfl) KT1))
  clear T1 KT1 HH2 HC2 HPK HE HSE2 C4 HF
  generalize P.length = n at *
  go_wp2_with fail
  go_end0
  exact ⟨rfl, FIN.out⟩
set_option maxHeartbeats 4000000 in
theorem note6 (S : Nat → Prop) (b : Nat) (L : List Tx) (two : Bool) (tx ctr free more : Int) (w : World) (h : Lst bookL w S b L) (hok : Ok L) (i : Nat) (hi : idx L tx = some i) (c4 : ∀ t, get L tx = some t → t.st = 0) : Calls Try.prog 12 #[ptr b, .agg #[.int .i64 3, .bool two, .int .i64 tx, .int .i64 ctr, .int .i64 6, .int .i64 free, .int .i64 more]] w fun r w' => r = .returned (.tuple #[]) ∧ OutL bookL w S b (upd L tx (fun u => u.turn 2)) w' := by
  obtain ⟨w1, hw1⟩ : ∃ w1, w1 = w.alloc (.cells #[.int .i64 3, .bool two, .int .i64 tx, .int .i64 ctr, .int .i64 6, .int .i64 free, .int .i64 more] 26) := ⟨_, rfl⟩
  obtain ⟨nb, hnb⟩ : ∃ nb, nb = w.heap.size := ⟨_, rfl⟩
  have A1 : Below w.heap.size w w1 := by rw [hw1]; exact alloc_below _ _
  have C1 : Cells w1 nb [.int .i64 3, .bool two, .int .i64 tx, .int .i64 ctr, .int .i64 6, .int .i64 free, .int .i64 more] := by rw [hw1, hnb]; exact Cells.new w #[.int .i64 3, .bool two, .int .i64 tx, .int .i64 ctr, .int .i64 6, .int .i64 free, .int .i64 more] 26
  obtain ⟨o0, -⟩ := C1.get 0 _ rfl
  obtain ⟨o2, -⟩ := C1.get 2 _ rfl
  obtain ⟨o4, -⟩ := C1.get 4 _ rfl
  have h1 := h.below A1
  have HNS := hide (show ¬ S nb from fun q => by have := h.lt nb q; omega)
  have K := bat_any S b L tx w1 h1 (by have := hok.few; omega)
  have HA := hide A1
  have HC := hide C1
  have HW := hide hw1
  have HN := hide hnb
  clear h A1 C1 hw1 hnb
  obtain ⟨v, P, h, e⟩ := h1
  have hil := idx_lt hi
  obtain ⟨t, ht, hg, htn⟩ := idx_get hi
  rw [hi] at K
  simp only [placeI] at K
  have hd : decide ((i : Int) < 0) = false := by simp
  have hlen := map_len e
  have few := hok.few
  have hip : i < P.length := by omega
  have hpn : P.length ≤ 32 := by omega
  have tok := hok.each t (get_mem hg).1
  obtain ⟨vk, hpk⟩ := map_at e ht
  obtain ⟨g, cap, rfl, hgl, p0, p1, p2, p3, fz⟩ := h.bookAt hpk
  obtain ⟨k0, -⟩ := h.box.get 0 _ rfl
  obtain ⟨va, vc, rfl, hseen⟩ := h.blist hpk
  clear hlen hil
  have HH := hide h
  have HPK := hide hpk
  have HE := hide e
  have HF := hide tok.few
  have HSE := hide (show ∀ x, Below w1.heap.size w1 x → Seen .i64 x va t.hs from fun x hx => hseen.below hx)
  have UP : upd L tx (fun u => u.turn 2) = L.set i (t.turn 2) := upd_idx hok.nd _ hi ht
  rw [UP]
  have C4 := hide (c4 t hg)
  clear UP c4 hok htn
  clear h e hi ht hg hpk hseen p0 p1 p2 p3 fz k0 tok
  go_enter Try.func12, Try.ntmps12
  go_upto_region 1 with fail
  rw [← HW.out, ← HN.out]
  clear HW HN
  go_upto_region 5 with (go_at_call 27; refine K.mono ?_; rintro e w3 ⟨rfl, rfl⟩)
  clear o0 o2 o4 K
  refine wp_region_held_drew (S := fun wq => Below w1.heap.size w1 wq) (by kernel_rfl) (Below.refl _ _).drew (fun hS => ?_)
  refine take_at 0 (some 31) (v := ?_) rfl rfl (by kernel_rfl) (by kernel_rfl) (by kernel_rfl) (fun _ _ _ h => h) ⟨by rfl, ?_⟩ hS ?_
  rotate_left
  · intro wq hSw; go_simp; try rfl
  simp only [Act.put, List.setIfInBounds_toArray, List.set_cons_zero, List.set_cons_succ]
  refine take_at 1 (some 32) (v := ?_) rfl rfl (by kernel_rfl) (by kernel_rfl) (by kernel_rfl) (fun _ _ _ h => h) ⟨by rfl, ?_⟩ hS ?_
  rotate_left
  · intro wq hSw; have q := ((HC.out.keep (Keep.of_below (S := fun _ => False) hSw) id).get 0 _ rfl).1; go_simp; try rfl
  simp only [Act.put, List.setIfInBounds_toArray, List.set_cons_zero, List.set_cons_succ]
  refine take_at 2 (some 33) (v := ?_) rfl rfl (by kernel_rfl) (by kernel_rfl) (by kernel_rfl) (fun _ _ _ h => h) ⟨by rfl, ?_⟩ hS ?_
  rotate_left
  · intro wq hSw; go_simp; try rfl
  simp only [Act.put, List.setIfInBounds_toArray, List.set_cons_zero, List.set_cons_succ]
  refine take_at 3 (some 34) (v := ?_) rfl rfl (by kernel_rfl) (by kernel_rfl) (by kernel_rfl) (fun _ _ _ h => h) ⟨by rfl, ?_⟩ hS ?_
  rotate_left
  · intro wq hSw; go_simp; try rfl
  simp only [Act.put, List.setIfInBounds_toArray, List.set_cons_zero, List.set_cons_succ]
  refine pass_at 4 (some 35) rfl rfl (by kernel_rfl) (by kernel_rfl) (by kernel_rfl) (fun _ _ _ h => h) (by rfl) hS ?_
  simp only [Act.put, List.setIfInBounds_toArray, List.set_cons_zero, List.set_cons_succ]
  refine pass_at 5 (some 36) rfl rfl (by kernel_rfl) (by kernel_rfl) (by kernel_rfl) (fun _ _ _ h => h) (by rfl) hS ?_
  simp only [Act.put, List.setIfInBounds_toArray, List.set_cons_zero, List.set_cons_succ]
  refine pass_at 6 (some 37) rfl rfl (by kernel_rfl) (by kernel_rfl) (by kernel_rfl) (fun _ _ _ h => h) (by rfl) hS ?_
  simp only [Act.put, List.setIfInBounds_toArray, List.set_cons_zero, List.set_cons_succ]
  refine pass_at 7 (some 38) rfl rfl (by kernel_rfl) (by kernel_rfl) (by kernel_rfl) (fun _ _ _ h => h) (by rfl) hS ?_
  simp only [Act.put, List.setIfInBounds_toArray, List.set_cons_zero, List.set_cons_succ]
  refine pass_at 8 (some 39) rfl rfl (by kernel_rfl) (by kernel_rfl) (by kernel_rfl) (fun _ _ _ h => h) (by rfl) hS ?_
  simp only [Act.put, List.setIfInBounds_toArray, List.set_cons_zero, List.set_cons_succ]
  refine pass_at 9 (some 40) rfl rfl (by kernel_rfl) (by kernel_rfl) (by kernel_rfl) (fun _ _ _ h => h) (by rfl) hS ?_
  simp only [Act.put, List.setIfInBounds_toArray, List.set_cons_zero, List.set_cons_succ]
  refine pass_at 10 (some 41) rfl rfl (by kernel_rfl) (by kernel_rfl) (by kernel_rfl) (fun _ _ _ h => h) (by rfl) hS ?_
  simp only [Act.put, List.setIfInBounds_toArray, List.set_cons_zero, List.set_cons_succ]
  refine pass_at 11 (some 42) rfl rfl (by kernel_rfl) (by kernel_rfl) (by kernel_rfl) (fun _ _ _ h => h) (by rfl) hS ?_
  simp only [Act.put, List.setIfInBounds_toArray, List.set_cons_zero, List.set_cons_succ]
  refine pass_at 12 (some 43) rfl rfl (by kernel_rfl) (by kernel_rfl) (by kernel_rfl) (fun _ _ _ h => h) (by rfl) hS ?_
  simp only [Act.put, List.setIfInBounds_toArray, List.set_cons_zero, List.set_cons_succ]
  refine pass_at 13 (some 44) rfl rfl (by kernel_rfl) (by kernel_rfl) (by kernel_rfl) (fun _ _ _ h => h) (by rfl) hS ?_
  simp only [Act.put, List.setIfInBounds_toArray, List.set_cons_zero, List.set_cons_succ]
  refine pass_at 14 (some 45) rfl rfl (by kernel_rfl) (by kernel_rfl) (by kernel_rfl) (fun _ _ _ h => h) (by rfl) hS ?_
  simp only [Act.put, List.setIfInBounds_toArray, List.set_cons_zero, List.set_cons_succ]
  refine pass_at 15 (some 46) rfl rfl (by kernel_rfl) (by kernel_rfl) (by kernel_rfl) (fun _ _ _ h => h) (by rfl) hS ?_
  simp only [Act.put, List.setIfInBounds_toArray, List.set_cons_zero, List.set_cons_succ]
  refine take_at 16 (some 47) (v := ?_) rfl rfl (by kernel_rfl) (by kernel_rfl) (by kernel_rfl) (fun _ _ _ h => h) ⟨by rfl, ?_⟩ hS ?_
  rotate_left
  · intro wq hSw; go_simp; try rfl
  simp only [Act.put, List.setIfInBounds_toArray, List.set_cons_zero, List.set_cons_succ]
  refine take_at 17 (some 30) (v := ?_) rfl rfl (by kernel_rfl) (by kernel_rfl) (by kernel_rfl) (fun _ _ _ h => h) ⟨by rfl, ?_⟩ hS ?_
  rotate_left
  · intro wq hSw; go_simp; try rfl
  simp only [Act.put, List.setIfInBounds_toArray, List.set_cons_zero, List.set_cons_succ]
  refine wpAnyH_done (by kernel_rfl) ?_ _
  have HH2 := hide (HH.out.below (Below.refl _ _).drew)
  have HC2 := hide (HC.out.keep (Keep.of_below (S := fun _ => False) (Below.refl w1.heap.size w1).drew) id)
  have HA2 := hide (HA.out.trans ((Below.refl w1.heap.size w1).drew.mono HA.out.size))
  have HSE2 := hide (HSE.out _ (Below.refl _ _).drew)
  clear hS HH HC HA HSE
  generalize w1.drew = x1 at *
  obtain ⟨o0, -⟩ := HC2.out.get 0 _ rfl
  obtain ⟨o4, -⟩ := HC2.out.get 4 _ rfl
  obtain ⟨o3, -⟩ := HC2.out.get 3 _ rfl
  obtain ⟨k0, -⟩ := HH2.out.box.get 0 _ rfl
  obtain ⟨g9, cap9, ev9, hgl9, p0, p1, p2, p3, fz⟩ := HH2.out.bookAt HPK.out
  cases ev9
  obtain ⟨T1, KT1⟩ := HH2.out.turn book_good HPK.out rfl 3 (.bool true) 2 (by decide) (by simp [bookL, C4.out])
  change Ls bookL (World.setCell _ ⟨g, i * 4 + 3, none⟩ _) _ _ _ _ at T1
  change Keep S _ (World.setCell _ ⟨g, i * 4 + 3, none⟩ _) at KT1
  have FIN := hide (OutL.after HA2.out (out_turn (L := L.set i (t.turn 2)) T1 (by rw [List.map_set, HE.out]; rfl) KT1))
  clear T1 KT1 HH2 HC2 HPK HE HSE2 C4 HF
  generalize P.length = n at *
  go_wp2_with fail
  go_end0
  exact ⟨rfl, FIN.out⟩
set_option maxHeartbeats 4000000 in
theorem note7 (S : Nat → Prop) (b : Nat) (L : List Tx) (two : Bool) (tx ctr free more : Int) (w : World) (h : Lst bookL w S b L) (hok : Ok L) (i : Nat) (hi : idx L tx = some i) : Calls Try.prog 12 #[ptr b, .agg #[.int .i64 3, .bool two, .int .i64 tx, .int .i64 ctr, .int .i64 7, .int .i64 free, .int .i64 more]] w fun r w' => r = .returned (.tuple #[]) ∧ OutL bookL w S b (del L tx) w' := by
  obtain ⟨w1, hw1⟩ : ∃ w1, w1 = w.alloc (.cells #[.int .i64 3, .bool two, .int .i64 tx, .int .i64 ctr, .int .i64 7, .int .i64 free, .int .i64 more] 26) := ⟨_, rfl⟩
  obtain ⟨nb, hnb⟩ : ∃ nb, nb = w.heap.size := ⟨_, rfl⟩
  have A1 : Below w.heap.size w w1 := by rw [hw1]; exact alloc_below _ _
  have C1 : Cells w1 nb [.int .i64 3, .bool two, .int .i64 tx, .int .i64 ctr, .int .i64 7, .int .i64 free, .int .i64 more] := by rw [hw1, hnb]; exact Cells.new w #[.int .i64 3, .bool two, .int .i64 tx, .int .i64 ctr, .int .i64 7, .int .i64 free, .int .i64 more] 26
  obtain ⟨o0, -⟩ := C1.get 0 _ rfl
  obtain ⟨o2, -⟩ := C1.get 2 _ rfl
  obtain ⟨o4, -⟩ := C1.get 4 _ rfl
  have h1 := h.below A1
  have HNS := hide (show ¬ S nb from fun q => by have := h.lt nb q; omega)
  have K := bat_any S b L tx w1 h1 (by have := hok.few; omega)
  have HA := hide A1
  have HC := hide C1
  have HW := hide hw1
  have HN := hide hnb
  clear h A1 C1 hw1 hnb
  obtain ⟨v, P, h, e⟩ := h1
  have hil := idx_lt hi
  obtain ⟨t, ht, hg, htn⟩ := idx_get hi
  rw [hi] at K
  simp only [placeI] at K
  have hd : decide ((i : Int) < 0) = false := by simp
  have hlen := map_len e
  have few := hok.few
  have hip : i < P.length := by omega
  have hpn : P.length ≤ 32 := by omega
  have tok := hok.each t (get_mem hg).1
  obtain ⟨vk, hpk⟩ := map_at e ht
  obtain ⟨g, cap, rfl, hgl, p0, p1, p2, p3, fz⟩ := h.bookAt hpk
  obtain ⟨k0, -⟩ := h.box.get 0 _ rfl
  obtain ⟨va, vc, rfl, hseen⟩ := h.blist hpk
  clear hlen hil
  have HH := hide h
  have HPK := hide hpk
  have HE := hide e
  have HF := hide tok.few
  have HSE := hide (show ∀ x, Below w1.heap.size w1 x → Seen .i64 x va t.hs from fun x hx => hseen.below hx)
  have DEL := hide (del_idx hok.nd hi)
  clear hok htn
  clear h e hi ht hg hpk hseen p0 p1 p2 p3 fz k0 tok
  go_enter Try.func12, Try.ntmps12
  go_upto_region 1 with fail
  rw [← HW.out, ← HN.out]
  clear HW HN
  go_upto_region 5 with (go_at_call 27; refine K.mono ?_; rintro e w3 ⟨rfl, rfl⟩)
  clear o0 o2 o4 K
  refine wp_region_held_drew (S := fun wq => Below w1.heap.size w1 wq) (by kernel_rfl) (Below.refl _ _).drew (fun hS => ?_)
  refine take_at 0 (some 31) (v := ?_) rfl rfl (by kernel_rfl) (by kernel_rfl) (by kernel_rfl) (fun _ _ _ h => h) ⟨by rfl, ?_⟩ hS ?_
  rotate_left
  · intro wq hSw; go_simp; try rfl
  simp only [Act.put, List.setIfInBounds_toArray, List.set_cons_zero, List.set_cons_succ]
  refine take_at 1 (some 32) (v := ?_) rfl rfl (by kernel_rfl) (by kernel_rfl) (by kernel_rfl) (fun _ _ _ h => h) ⟨by rfl, ?_⟩ hS ?_
  rotate_left
  · intro wq hSw; have q := ((HC.out.keep (Keep.of_below (S := fun _ => False) hSw) id).get 0 _ rfl).1; go_simp; try rfl
  simp only [Act.put, List.setIfInBounds_toArray, List.set_cons_zero, List.set_cons_succ]
  refine take_at 2 (some 33) (v := ?_) rfl rfl (by kernel_rfl) (by kernel_rfl) (by kernel_rfl) (fun _ _ _ h => h) ⟨by rfl, ?_⟩ hS ?_
  rotate_left
  · intro wq hSw; go_simp; try rfl
  simp only [Act.put, List.setIfInBounds_toArray, List.set_cons_zero, List.set_cons_succ]
  refine take_at 3 (some 34) (v := ?_) rfl rfl (by kernel_rfl) (by kernel_rfl) (by kernel_rfl) (fun _ _ _ h => h) ⟨by rfl, ?_⟩ hS ?_
  rotate_left
  · intro wq hSw; go_simp; try rfl
  simp only [Act.put, List.setIfInBounds_toArray, List.set_cons_zero, List.set_cons_succ]
  refine pass_at 4 (some 35) rfl rfl (by kernel_rfl) (by kernel_rfl) (by kernel_rfl) (fun _ _ _ h => h) (by rfl) hS ?_
  simp only [Act.put, List.setIfInBounds_toArray, List.set_cons_zero, List.set_cons_succ]
  refine pass_at 5 (some 36) rfl rfl (by kernel_rfl) (by kernel_rfl) (by kernel_rfl) (fun _ _ _ h => h) (by rfl) hS ?_
  simp only [Act.put, List.setIfInBounds_toArray, List.set_cons_zero, List.set_cons_succ]
  refine pass_at 6 (some 37) rfl rfl (by kernel_rfl) (by kernel_rfl) (by kernel_rfl) (fun _ _ _ h => h) (by rfl) hS ?_
  simp only [Act.put, List.setIfInBounds_toArray, List.set_cons_zero, List.set_cons_succ]
  refine pass_at 7 (some 38) rfl rfl (by kernel_rfl) (by kernel_rfl) (by kernel_rfl) (fun _ _ _ h => h) (by rfl) hS ?_
  simp only [Act.put, List.setIfInBounds_toArray, List.set_cons_zero, List.set_cons_succ]
  refine pass_at 8 (some 39) rfl rfl (by kernel_rfl) (by kernel_rfl) (by kernel_rfl) (fun _ _ _ h => h) (by rfl) hS ?_
  simp only [Act.put, List.setIfInBounds_toArray, List.set_cons_zero, List.set_cons_succ]
  refine pass_at 9 (some 40) rfl rfl (by kernel_rfl) (by kernel_rfl) (by kernel_rfl) (fun _ _ _ h => h) (by rfl) hS ?_
  simp only [Act.put, List.setIfInBounds_toArray, List.set_cons_zero, List.set_cons_succ]
  refine pass_at 10 (some 41) rfl rfl (by kernel_rfl) (by kernel_rfl) (by kernel_rfl) (fun _ _ _ h => h) (by rfl) hS ?_
  simp only [Act.put, List.setIfInBounds_toArray, List.set_cons_zero, List.set_cons_succ]
  refine pass_at 11 (some 42) rfl rfl (by kernel_rfl) (by kernel_rfl) (by kernel_rfl) (fun _ _ _ h => h) (by rfl) hS ?_
  simp only [Act.put, List.setIfInBounds_toArray, List.set_cons_zero, List.set_cons_succ]
  refine pass_at 12 (some 43) rfl rfl (by kernel_rfl) (by kernel_rfl) (by kernel_rfl) (fun _ _ _ h => h) (by rfl) hS ?_
  simp only [Act.put, List.setIfInBounds_toArray, List.set_cons_zero, List.set_cons_succ]
  refine pass_at 13 (some 44) rfl rfl (by kernel_rfl) (by kernel_rfl) (by kernel_rfl) (fun _ _ _ h => h) (by rfl) hS ?_
  simp only [Act.put, List.setIfInBounds_toArray, List.set_cons_zero, List.set_cons_succ]
  refine pass_at 14 (some 45) rfl rfl (by kernel_rfl) (by kernel_rfl) (by kernel_rfl) (fun _ _ _ h => h) (by rfl) hS ?_
  simp only [Act.put, List.setIfInBounds_toArray, List.set_cons_zero, List.set_cons_succ]
  refine pass_at 15 (some 46) rfl rfl (by kernel_rfl) (by kernel_rfl) (by kernel_rfl) (fun _ _ _ h => h) (by rfl) hS ?_
  simp only [Act.put, List.setIfInBounds_toArray, List.set_cons_zero, List.set_cons_succ]
  refine take_at 16 (some 47) (v := ?_) rfl rfl (by kernel_rfl) (by kernel_rfl) (by kernel_rfl) (fun _ _ _ h => h) ⟨by rfl, ?_⟩ hS ?_
  rotate_left
  · intro wq hSw; go_simp; try rfl
  simp only [Act.put, List.setIfInBounds_toArray, List.set_cons_zero, List.set_cons_succ]
  refine take_at 17 (some 30) (v := ?_) rfl rfl (by kernel_rfl) (by kernel_rfl) (by kernel_rfl) (fun _ _ _ h => h) ⟨by rfl, ?_⟩ hS ?_
  rotate_left
  · intro wq hSw; go_simp; try rfl
  simp only [Act.put, List.setIfInBounds_toArray, List.set_cons_zero, List.set_cons_succ]
  refine wpAnyH_done (by kernel_rfl) ?_ _
  have HH2 := hide (HH.out.below (Below.refl _ _).drew)
  have HC2 := hide (HC.out.keep (Keep.of_below (S := fun _ => False) (Below.refl w1.heap.size w1).drew) id)
  have HA2 := hide (HA.out.trans ((Below.refl w1.heap.size w1).drew.mono HA.out.size))
  have HSE2 := hide (HSE.out _ (Below.refl _ _).drew)
  clear hS HH HC HA HSE
  generalize w1.drew = x1 at *
  obtain ⟨o0, -⟩ := HC2.out.get 0 _ rfl
  obtain ⟨o4, -⟩ := HC2.out.get 4 _ rfl
  obtain ⟨o3, -⟩ := HC2.out.get 3 _ rfl
  obtain ⟨k0, -⟩ := HH2.out.box.get 0 _ rfl
  obtain ⟨g9, cap9, ev9, hgl9, p0, p1, p2, p3, fz⟩ := HH2.out.bookAt HPK.out
  cases ev9
  obtain ⟨v1, w5, v2, w6, r1, b1, r2, b2, g2⟩ := row30.cut _ 0 g P.length cap _ HH2.out.row (row_one book_good HH2.out) i hip (by omega) 30
  obtain ⟨ca, cc, ce, -⟩ := GRow.lies g2
  obtain ⟨a9, c9, n9, e9⟩ : ∃ a9 c9 n9, v2 = .slice a9 n9 c9 := ⟨_, _, _, ce⟩
  subst e9
  have FO := HH2.out.cut book_good i hip b2 g2
  rw [HE.out, ← DEL.out] at FO
  have FIN := hide (OutL.after HA2.out FO)
  have s1 := fun wq => row30.to ⟨g, 0, none⟩ P.length cap i wq (by omega) (by have := HH2.out.form; obtain ⟨_, _, q, _, z, _⟩ := this; cases q; exact z)
  have s2 := fun wq => row30.from ⟨g, 0, none⟩ P.length cap (i + 1) wq (by omega) (by have := HH2.out.form; obtain ⟨_, _, q, _, z, _⟩ := this; cases q; exact z)
  have c1 : (((i + 1 : Nat)) : Int) = (i : Int) + 1 := by omega
  rw [c1] at s2
  have hw : wrap64 ((i : Int) + 1) = (i : Int) + 1 := wrapI (by unfold I64; omega)
  obtain ⟨k2, -⟩ := (HH2.out.below b1).box.get 0 _ rfl
  obtain ⟨k3, f3⟩ := (HH2.out.below b2).box.get 0 _ rfl
  clear g2 FO b1 b2 ce c1 HH2 HC2 HPK HE HSE2 HF DEL
  generalize P.length = n at *
  generalize dropS ⟨g, 0, none⟩ cap (i + 1) 4 = ad at *
  go_wp2_with (at_builtin; first | refine wpList_run rfl (.tmp 147) (.tmp 153) rfl rfl rfl r1 ?_ | refine wpList_run rfl (.tmp 156) (.tmp 163) rfl rfl rfl r2 ?_)
  go_end0
  exact ⟨rfl, FIN.out⟩
set_option maxHeartbeats 4000000 in
theorem note4 (S : Nat → Prop) (b : Nat) (L : List Tx) (two : Bool) (tx ctr free more : Int) (w : World) (h : Lst bookL w S b L) (hok : Ok L) (i : Nat) (hi : idx L tx = some i) (c4 : ∀ t, get L tx = some t → ctr ∈ t.hs) : Calls Try.prog 12 #[ptr b, .agg #[.int .i64 3, .bool two, .int .i64 tx, .int .i64 ctr, .int .i64 4, .int .i64 free, .int .i64 more]] w fun r w' => r = .returned (.tuple #[]) ∧ OutL bookL w S b (upd L tx (fun u => u.less ctr)) w' := by
  obtain ⟨w1, hw1⟩ : ∃ w1, w1 = w.alloc (.cells #[.int .i64 3, .bool two, .int .i64 tx, .int .i64 ctr, .int .i64 4, .int .i64 free, .int .i64 more] 26) := ⟨_, rfl⟩
  obtain ⟨nb, hnb⟩ : ∃ nb, nb = w.heap.size := ⟨_, rfl⟩
  have A1 : Below w.heap.size w w1 := by rw [hw1]; exact alloc_below _ _
  have C1 : Cells w1 nb [.int .i64 3, .bool two, .int .i64 tx, .int .i64 ctr, .int .i64 4, .int .i64 free, .int .i64 more] := by rw [hw1, hnb]; exact Cells.new w #[.int .i64 3, .bool two, .int .i64 tx, .int .i64 ctr, .int .i64 4, .int .i64 free, .int .i64 more] 26
  obtain ⟨o0, -⟩ := C1.get 0 _ rfl
  obtain ⟨o2, -⟩ := C1.get 2 _ rfl
  obtain ⟨o4, -⟩ := C1.get 4 _ rfl
  have h1 := h.below A1
  have HNS := hide (show ¬ S nb from fun q => by have := h.lt nb q; omega)
  have K := bat_any S b L tx w1 h1 (by have := hok.few; omega)
  have HA := hide A1
  have HC := hide C1
  have HW := hide hw1
  have HN := hide hnb
  clear h A1 C1 hw1 hnb
  obtain ⟨v, P, h, e⟩ := h1
  have hil := idx_lt hi
  obtain ⟨t, ht, hg, htn⟩ := idx_get hi
  rw [hi] at K
  simp only [placeI] at K
  have hd : decide ((i : Int) < 0) = false := by simp
  have hlen := map_len e
  have few := hok.few
  have hip : i < P.length := by omega
  have hpn : P.length ≤ 32 := by omega
  have tok := hok.each t (get_mem hg).1
  obtain ⟨vk, hpk⟩ := map_at e ht
  obtain ⟨g, cap, rfl, hgl, p0, p1, p2, p3, fz⟩ := h.bookAt hpk
  obtain ⟨k0, -⟩ := h.box.get 0 _ rfl
  obtain ⟨va, vc, rfl, hseen⟩ := h.blist hpk
  clear hlen hil
  have HH := hide h
  have HPK := hide hpk
  have HE := hide e
  have HF := hide tok.few
  have HSE := hide (show ∀ x, Below w1.heap.size w1 x → Seen .i64 x va t.hs from fun x hx => hseen.below hx)
  obtain ⟨j, hx⟩ : ∃ j, t.hs.findIdx? (fun z => z == ctr) = some j := by
    have := has_idx t.hs ctr
    cases q : t.hs.findIdx? (fun z => z == ctr) with
    | none => rw [q] at this; simp at this; exact absurd (c4 t hg) this
    | some j => exact ⟨j, rfl⟩
  have HPX := hide hx
  have hdj : decide ((j : Int) < 0) = false := by simp
  have hdj2 : decide ((0 : Int) ≤ (j : Int)) = true := by simp
  have HJ := hide (show j < t.hs.length from (List.findIdx?_eq_some_iff_getElem.1 hx).1)
  have UP : upd L tx (fun u => u.less ctr) = L.set i (t.less ctr) := upd_idx hok.nd _ hi ht
  rw [UP, less_idx tok.nd hx]
  clear UP c4 hok htn hx
  clear h e hi ht hg hpk hseen p0 p1 p2 p3 fz k0 tok
  go_enter Try.func12, Try.ntmps12
  go_upto_region 1 with fail
  rw [← HW.out, ← HN.out]
  clear HW HN
  go_upto_region 5 with (go_at_call 27; refine K.mono ?_; rintro e w3 ⟨rfl, rfl⟩)
  clear o0 o2 o4 K
  refine wp_region_held_drew (S := fun wq => Below w1.heap.size w1 wq) (by kernel_rfl) (Below.refl _ _).drew (fun hS => ?_)
  refine take_at 0 (some 31) (v := ?_) rfl rfl (by kernel_rfl) (by kernel_rfl) (by kernel_rfl) (fun _ _ _ h => h) ⟨by rfl, ?_⟩ hS ?_
  rotate_left
  · intro wq hSw; go_simp; try rfl
  simp only [Act.put, List.setIfInBounds_toArray, List.set_cons_zero, List.set_cons_succ]
  refine take_at 1 (some 32) (v := ?_) rfl rfl (by kernel_rfl) (by kernel_rfl) (by kernel_rfl) (fun _ _ _ h => h) ⟨by rfl, ?_⟩ hS ?_
  rotate_left
  · intro wq hSw; have q := ((HC.out.keep (Keep.of_below (S := fun _ => False) hSw) id).get 0 _ rfl).1; go_simp; try rfl
  simp only [Act.put, List.setIfInBounds_toArray, List.set_cons_zero, List.set_cons_succ]
  refine take_at 2 (some 33) (v := ?_) rfl rfl (by kernel_rfl) (by kernel_rfl) (by kernel_rfl) (fun _ _ _ h => h) ⟨by rfl, ?_⟩ hS ?_
  rotate_left
  · intro wq hSw; go_simp; try rfl
  simp only [Act.put, List.setIfInBounds_toArray, List.set_cons_zero, List.set_cons_succ]
  refine take_at 3 (some 34) (v := ?_) rfl rfl (by kernel_rfl) (by kernel_rfl) (by kernel_rfl) (fun _ _ _ h => h) ⟨by rfl, ?_⟩ hS ?_
  rotate_left
  · intro wq hSw; go_simp; try rfl
  simp only [Act.put, List.setIfInBounds_toArray, List.set_cons_zero, List.set_cons_succ]
  refine pass_at 4 (some 35) rfl rfl (by kernel_rfl) (by kernel_rfl) (by kernel_rfl) (fun _ _ _ h => h) (by rfl) hS ?_
  simp only [Act.put, List.setIfInBounds_toArray, List.set_cons_zero, List.set_cons_succ]
  refine pass_at 5 (some 36) rfl rfl (by kernel_rfl) (by kernel_rfl) (by kernel_rfl) (fun _ _ _ h => h) (by rfl) hS ?_
  simp only [Act.put, List.setIfInBounds_toArray, List.set_cons_zero, List.set_cons_succ]
  refine pass_at 6 (some 37) rfl rfl (by kernel_rfl) (by kernel_rfl) (by kernel_rfl) (fun _ _ _ h => h) (by rfl) hS ?_
  simp only [Act.put, List.setIfInBounds_toArray, List.set_cons_zero, List.set_cons_succ]
  refine pass_at 7 (some 38) rfl rfl (by kernel_rfl) (by kernel_rfl) (by kernel_rfl) (fun _ _ _ h => h) (by rfl) hS ?_
  simp only [Act.put, List.setIfInBounds_toArray, List.set_cons_zero, List.set_cons_succ]
  refine pass_at 8 (some 39) rfl rfl (by kernel_rfl) (by kernel_rfl) (by kernel_rfl) (fun _ _ _ h => h) (by rfl) hS ?_
  simp only [Act.put, List.setIfInBounds_toArray, List.set_cons_zero, List.set_cons_succ]
  refine pass_at 9 (some 40) rfl rfl (by kernel_rfl) (by kernel_rfl) (by kernel_rfl) (fun _ _ _ h => h) (by rfl) hS ?_
  simp only [Act.put, List.setIfInBounds_toArray, List.set_cons_zero, List.set_cons_succ]
  refine pass_at 10 (some 41) rfl rfl (by kernel_rfl) (by kernel_rfl) (by kernel_rfl) (fun _ _ _ h => h) (by rfl) hS ?_
  simp only [Act.put, List.setIfInBounds_toArray, List.set_cons_zero, List.set_cons_succ]
  refine pass_at 11 (some 42) rfl rfl (by kernel_rfl) (by kernel_rfl) (by kernel_rfl) (fun _ _ _ h => h) (by rfl) hS ?_
  simp only [Act.put, List.setIfInBounds_toArray, List.set_cons_zero, List.set_cons_succ]
  refine pass_at 12 (some 43) rfl rfl (by kernel_rfl) (by kernel_rfl) (by kernel_rfl) (fun _ _ _ h => h) (by rfl) hS ?_
  simp only [Act.put, List.setIfInBounds_toArray, List.set_cons_zero, List.set_cons_succ]
  refine pass_at 13 (some 44) rfl rfl (by kernel_rfl) (by kernel_rfl) (by kernel_rfl) (fun _ _ _ h => h) (by rfl) hS ?_
  simp only [Act.put, List.setIfInBounds_toArray, List.set_cons_zero, List.set_cons_succ]
  refine pass_at 14 (some 45) rfl rfl (by kernel_rfl) (by kernel_rfl) (by kernel_rfl) (fun _ _ _ h => h) (by rfl) hS ?_
  simp only [Act.put, List.setIfInBounds_toArray, List.set_cons_zero, List.set_cons_succ]
  refine pass_at 15 (some 46) rfl rfl (by kernel_rfl) (by kernel_rfl) (by kernel_rfl) (fun _ _ _ h => h) (by rfl) hS ?_
  simp only [Act.put, List.setIfInBounds_toArray, List.set_cons_zero, List.set_cons_succ]
  refine take_at 16 (some 47) (v := ?_) rfl rfl (by kernel_rfl) (by kernel_rfl) (by kernel_rfl) (fun _ _ _ h => h) ⟨by rfl, ?_⟩ hS ?_
  rotate_left
  · intro wq hSw; go_simp; try rfl
  simp only [Act.put, List.setIfInBounds_toArray, List.set_cons_zero, List.set_cons_succ]
  refine take_at 17 (some 30) (v := ?_) rfl rfl (by kernel_rfl) (by kernel_rfl) (by kernel_rfl) (fun _ _ _ h => h) ⟨by rfl, ?_⟩ hS ?_
  rotate_left
  · intro wq hSw; go_simp; try rfl
  simp only [Act.put, List.setIfInBounds_toArray, List.set_cons_zero, List.set_cons_succ]
  refine wpAnyH_done (by kernel_rfl) ?_ _
  have HH2 := hide (HH.out.below (Below.refl _ _).drew)
  have HC2 := hide (HC.out.keep (Keep.of_below (S := fun _ => False) (Below.refl w1.heap.size w1).drew) id)
  have HA2 := hide (HA.out.trans ((Below.refl w1.heap.size w1).drew.mono HA.out.size))
  have HSE2 := hide (HSE.out _ (Below.refl _ _).drew)
  clear hS HH HC HA HSE
  generalize w1.drew = x1 at *
  obtain ⟨o0, -⟩ := HC2.out.get 0 _ rfl
  obtain ⟨o4, -⟩ := HC2.out.get 4 _ rfl
  obtain ⟨o3, -⟩ := HC2.out.get 3 _ rfl
  obtain ⟨k0, -⟩ := HH2.out.box.get 0 _ rfl
  obtain ⟨g9, cap9, ev9, hgl9, p0, p1, p2, p3, fz⟩ := HH2.out.bookAt HPK.out
  cases ev9
  go_upto_region 12 with fail
  clear o0 o4 o3 k0 p0 p1 p2 p3 fz
  refine wp_region_held_drew (S := fun wq => Below x1.heap.size x1 wq) (by kernel_rfl) (Below.refl _ _).drew (fun hS => ?_)
  refine take_at 0 (some 108) (v := ?_) rfl rfl (by kernel_rfl) (by kernel_rfl) (by kernel_rfl) (fun _ _ _ h => h) ⟨by rfl, ?_⟩ hS ?_
  rotate_left
  · intro wq hSw; go_simp; try rfl
  simp only [Act.put, List.setIfInBounds_toArray, List.set_cons_zero, List.set_cons_succ]
  refine take_at 1 (some 109) (v := ?_) rfl rfl (by kernel_rfl) (by kernel_rfl) (by kernel_rfl) (fun _ _ _ h => h) ⟨by rfl, ?_⟩ hS ?_
  rotate_left
  · intro wq hSw; go_simp; try rfl
  simp only [Act.put, List.setIfInBounds_toArray, List.set_cons_zero, List.set_cons_succ]
  refine take_at 2 (some 110) (v := ?_) rfl rfl (by kernel_rfl) (by kernel_rfl) (by kernel_rfl) (fun _ _ _ h => h) ⟨by rfl, ?_⟩ hS ?_
  rotate_left
  · intro wq hSw; go_simp; try rfl
  simp only [Act.put, List.setIfInBounds_toArray, List.set_cons_zero, List.set_cons_succ]
  refine take_at 3 (some 111) (v := ?_) rfl rfl (by kernel_rfl) (by kernel_rfl) (by kernel_rfl) (fun _ _ _ h => h) ⟨by rfl, ?_⟩ hS ?_
  rotate_left
  · intro wq hSw; have q := ((HH2.out.below hSw).box.get 0 _ rfl).1; go_simp; try rfl
  simp only [Act.put, List.setIfInBounds_toArray, List.set_cons_zero, List.set_cons_succ]
  refine take_at 4 (some 112) (v := ?_) rfl rfl (by kernel_rfl) (by kernel_rfl) (by kernel_rfl) (fun _ _ _ h => h) ⟨by rfl, ?_⟩ hS ?_
  rotate_left
  · intro wq hSw; go_simp; try rfl
  simp only [Act.put, List.setIfInBounds_toArray, List.set_cons_zero, List.set_cons_succ]
  refine take_at 5 (some 113) (v := ?_) rfl rfl (by kernel_rfl) (by kernel_rfl) (by kernel_rfl) (fun _ _ _ h => h) ⟨by rfl, ?_⟩ hS ?_
  rotate_left
  · intro wq hSw; go_simp; try rfl
  simp only [Act.put, List.setIfInBounds_toArray, List.set_cons_zero, List.set_cons_succ]
  refine take_at 6 (some 114) (v := ?_) rfl rfl (by kernel_rfl) (by kernel_rfl) (by kernel_rfl) (fun _ _ _ h => h) ⟨by rfl, ?_⟩ hS ?_
  rotate_left
  · intro wq hSw; go_simp; try rfl
  simp only [Act.put, List.setIfInBounds_toArray, List.set_cons_zero, List.set_cons_succ]
  refine take_at 7 (some 115) (v := ?_) rfl rfl (by kernel_rfl) (by kernel_rfl) (by kernel_rfl) (fun _ _ _ h => h) ⟨by rfl, ?_⟩ hS ?_
  rotate_left
  · intro wq hSw; obtain ⟨g9, cap9, ev9, -, -, q9, -⟩ := (HH2.out.below hSw).bookAt HPK.out; cases ev9; go_simp; try rfl
  simp only [Act.put, List.setIfInBounds_toArray, List.set_cons_zero, List.set_cons_succ]
  refine take_at 8 (some 116) (v := ?_) rfl rfl (by kernel_rfl) (by kernel_rfl) (by kernel_rfl) (fun _ _ _ h => h) ⟨by rfl, ?_⟩ hS ?_
  rotate_left
  · intro wq hSw; go_simp; try rfl
  simp only [Act.put, List.setIfInBounds_toArray, List.set_cons_zero, List.set_cons_succ]
  refine take_at 9 (some 117) (v := ?_) rfl rfl (by kernel_rfl) (by kernel_rfl) (by kernel_rfl) (fun _ _ _ h => h) ⟨by rfl, ?_⟩ hS ?_
  rotate_left
  · intro wq hSw; have q := ((HC2.out.keep (Keep.of_below (S := fun _ => False) hSw) id).get 3 _ rfl).1; go_simp; try rfl
  simp only [Act.put, List.setIfInBounds_toArray, List.set_cons_zero, List.set_cons_succ]
  have H3 := hide (HH2.out.below (Below.refl _ _).drew)
  have HA3 := hide (HA2.out.trans ((Below.refl x1.heap.size x1).drew.mono HA2.out.size))
  have HB3 := hide hS
  have SE := hide (HSE2.out.below (Below.refl _ _).drew)
  clear hS HH2 HC2 HA2 HSE2
  generalize x1.drew = x3 at *
  have K28 := place_any va vc t.hs ctr x3 SE.out (by have := HF.out; omega)
  rw [HPX.out] at K28
  simp only [placeI] at K28
  refine wpAnyH_ready (rs := [10]) (by kernel_rfl) (by simp) ?_
  refine AllReadyH.cons rfl (fun K hK => ?_) AllReadyH.nil
  go_simp
  go_wp2_with fail
  refine K28.mono ?_
  rintro e x4 ⟨rfl, rfl⟩
  go_wp2_with fail
  refine hK.out _ _ HB3.out (fun hS => ?_)
  clear hK K K28 SE
  (try simp only [Act.put, List.setIfInBounds_toArray, List.set_cons_zero, List.set_cons_succ])
  refine take_at 11 (some 5) (v := ?_) rfl rfl (by kernel_rfl) (by kernel_rfl) (by kernel_rfl) (fun _ _ _ h => h) ⟨by rfl, ?_⟩ hS ?_
  rotate_left
  · intro wq hSw; go_simp; try rfl
  simp only [Act.put, List.setIfInBounds_toArray, List.set_cons_zero, List.set_cons_succ]
  refine wpAnyH_done (by kernel_rfl) ?_ _
  clear hS HB3 HPX
  go_upto_region 14 with fail
  have NB := hide (show ¬ b = g from fun q => (H3.out.rs g rfl).2 q.symm)
  have HBX := hide H3.out.box
  have H5 := hide (H3.out.below (Below.refl _ _).drew)
  have HA5 := hide (HA3.out.trans ((Below.refl x3.heap.size x3).drew.mono HA3.out.size))
  obtain ⟨g8, cap8, ev8, -, -, r2, -⟩ := H5.out.bookAt HPK.out
  cases ev8
  have R2 := hide r2
  clear r2 HA3 H3
  refine wp_region_held_drew (S := fun wq => Keep (fun z => z = g) x3 wq) (by kernel_rfl) (Keep.refl _ _).drew (fun hS => ?_)
  refine take_at 0 (some 121) (v := ?_) rfl rfl (by kernel_rfl) (by kernel_rfl) (by kernel_rfl) (fun _ _ _ h => h) ⟨by rfl, ?_⟩ hS ?_
  rotate_left
  · intro wq hSw; go_simp; try rfl
  simp only [Act.put, List.setIfInBounds_toArray, List.set_cons_zero, List.set_cons_succ]
  refine take_at 1 (some 122) (v := ?_) rfl rfl (by kernel_rfl) (by kernel_rfl) (by kernel_rfl) (fun _ _ _ h => h) ⟨by rfl, ?_⟩ hS ?_
  rotate_left
  · intro wq hSw; go_simp; try rfl
  simp only [Act.put, List.setIfInBounds_toArray, List.set_cons_zero, List.set_cons_succ]
  refine take_at 2 (some 123) (v := ?_) rfl rfl (by kernel_rfl) (by kernel_rfl) (by kernel_rfl) (fun _ _ _ h => h) ⟨by rfl, ?_⟩ hS ?_
  rotate_left
  · intro wq hSw; go_simp; try rfl
  simp only [Act.put, List.setIfInBounds_toArray, List.set_cons_zero, List.set_cons_succ]
  refine take_at 3 (some 124) (v := ?_) rfl rfl (by kernel_rfl) (by kernel_rfl) (by kernel_rfl) (fun _ _ _ h => h) ⟨by rfl, ?_⟩ hS ?_
  rotate_left
  · intro wq hSw; have q := ((HBX.out.keep hSw NB.out).get 0 _ rfl).1; go_simp; try rfl
  simp only [Act.put, List.setIfInBounds_toArray, List.set_cons_zero, List.set_cons_succ]
  refine take_at 4 (some 125) (v := ?_) rfl rfl (by kernel_rfl) (by kernel_rfl) (by kernel_rfl) (fun _ _ _ h => h) ⟨by rfl, ?_⟩ hS ?_
  rotate_left
  · intro wq hSw; go_simp; try rfl
  simp only [Act.put, List.setIfInBounds_toArray, List.set_cons_zero, List.set_cons_succ]
  refine take_at 5 (some 126) (v := ?_) rfl rfl (by kernel_rfl) (by kernel_rfl) (by kernel_rfl) (fun _ _ _ h => h) ⟨by rfl, ?_⟩ hS ?_
  rotate_left
  · intro wq hSw; go_simp; try rfl
  simp only [Act.put, List.setIfInBounds_toArray, List.set_cons_zero, List.set_cons_succ]
  refine take_at 6 (some 127) (v := ?_) rfl rfl (by kernel_rfl) (by kernel_rfl) (by kernel_rfl) (fun _ _ _ h => h) ⟨by rfl, ?_⟩ hS ?_
  rotate_left
  · intro wq hSw; go_simp; try rfl
  simp only [Act.put, List.setIfInBounds_toArray, List.set_cons_zero, List.set_cons_succ]
  refine take_at 7 (some 128) (v := ?_) rfl rfl (by kernel_rfl) (by kernel_rfl) (by kernel_rfl) (fun _ _ _ h => h) ⟨by rfl, ?_⟩ hS ?_
  rotate_left
  · intro wq hSw; go_simp; try rfl
  simp only [Act.put, List.setIfInBounds_toArray, List.set_cons_zero, List.set_cons_succ]
  refine take_at 8 (some 129) (v := ?_) rfl rfl (by kernel_rfl) (by kernel_rfl) (by kernel_rfl) (fun _ _ _ h => h) ⟨by rfl, ?_⟩ hS ?_
  rotate_left
  · intro wq hSw; have q := ((HBX.out.keep hSw NB.out).get 0 _ rfl).1; go_simp; try rfl
  simp only [Act.put, List.setIfInBounds_toArray, List.set_cons_zero, List.set_cons_succ]
  refine take_at 9 (some 130) (v := ?_) rfl rfl (by kernel_rfl) (by kernel_rfl) (by kernel_rfl) (fun _ _ _ h => h) ⟨by rfl, ?_⟩ hS ?_
  rotate_left
  · intro wq hSw; go_simp; try rfl
  simp only [Act.put, List.setIfInBounds_toArray, List.set_cons_zero, List.set_cons_succ]
  refine take_at 10 (some 131) (v := ?_) rfl rfl (by kernel_rfl) (by kernel_rfl) (by kernel_rfl) (fun _ _ _ h => h) ⟨by rfl, ?_⟩ hS ?_
  rotate_left
  · intro wq hSw; go_simp; try rfl
  simp only [Act.put, List.setIfInBounds_toArray, List.set_cons_zero, List.set_cons_succ]
  refine take_at 11 (some 132) (v := ?_) rfl rfl (by kernel_rfl) (by kernel_rfl) (by kernel_rfl) (fun _ _ _ h => h) ⟨by rfl, ?_⟩ hS ?_
  rotate_left
  · intro wq hSw; go_simp; try rfl
  simp only [Act.put, List.setIfInBounds_toArray, List.set_cons_zero, List.set_cons_succ]
  refine take_at 13 (some 134) (v := ?_) rfl rfl (by kernel_rfl) (by kernel_rfl) (by kernel_rfl) (fun _ _ _ h => h) ⟨by rfl, ?_⟩ hS ?_
  rotate_left
  · intro wq hSw; go_simp; try rfl
  simp only [Act.put, List.setIfInBounds_toArray, List.set_cons_zero, List.set_cons_succ]
  have D1 := hide hS
  clear hS HBX
  generalize x3.drew = x5 at *
  have K29 := bwithout_any 0 (.slice va t.hs.length vc) t.hs j x5 (H5.out.own_at HPK.out) HJ.out (by have := HF.out; omega)
  refine wpAnyH_ready (rs := [12]) (by kernel_rfl) (by simp) ?_
  refine AllReadyH.cons rfl (fun K hK => ?_) AllReadyH.nil
  have q2 := R2.out
  go_simp
  go_wp2_with fail
  refine hK.out _ _ D1.out (fun hS => ?_)
  clear hK K hS
  (try simp only [Act.put, List.setIfInBounds_toArray, List.set_cons_zero, List.set_cons_succ])
  refine wpAnyH_ready (rs := [14]) (by kernel_rfl) (by simp) ?_
  refine AllReadyH.cons rfl (fun K hK => ?_) AllReadyH.nil
  go_simp
  go_wp2_with fail
  refine K29.mono ?_
  rintro e w5 ⟨vv, rfl, o5, b5⟩
  obtain ⟨a9, n9, c9, rfl⟩ : ∃ a9 n9 c9, vv = .slice a9 n9 c9 := by obtain ⟨a, c, e, _⟩ := o5.seen; exact ⟨a, _, c, e⟩
  obtain ⟨FO, ⟨u, cu⟩, fu⟩ := H5.out.fill book_good book_has HPK.out rfl (Keep.of_below b5) (Owns.mono0 o5) (fun x hx => .inr (World.ownsRow.lt o5 x hx).1)
  rw [HE.out] at FO
  change OutL bookL x5 S b _ (w5.setCell ⟨g, i * 4 + 1, none⟩ _) at FO
  change w5.cell? ⟨g, i * 4 + 1, none⟩ = _ at cu
  change w5.frozen? ⟨g, i * 4 + 1, none⟩ = _ at fu
  have FIN := hide (OutL.after HA5.out FO)
  have D5 := hide (D1.out.then_below b5)
  clear FO o5 b5 H5 K29 HPK HE HA5 D1 R2
  go_wp2_with fail
  refine hK.out _ _ D5.out (fun hS => ?_)
  clear hK K
  (try simp only [Act.put, List.setIfInBounds_toArray, List.set_cons_zero, List.set_cons_succ])
  refine take_at 15 (some 136) (v := ?_) rfl rfl (by kernel_rfl) (by kernel_rfl) (by kernel_rfl) (fun _ _ _ h => h) ⟨by rfl, ?_⟩ hS ?_
  rotate_left
  · intro wq hSw; go_simp; try rfl
  simp only [Act.put, List.setIfInBounds_toArray, List.set_cons_zero, List.set_cons_succ]
  refine take_at 16 (some 137) (v := ?_) rfl rfl (by kernel_rfl) (by kernel_rfl) (by kernel_rfl) (fun _ _ _ h => h) ⟨by rfl, ?_⟩ hS ?_
  rotate_left
  · intro wq hSw; go_simp; try rfl
  simp only [Act.put, List.setIfInBounds_toArray, List.set_cons_zero, List.set_cons_succ]
  refine wpAnyH_ready (rs := [17]) (by kernel_rfl) (by simp) ?_
  refine AllReadyH.cons rfl (fun K hK => ?_) AllReadyH.nil
  go_simp
  go_wp2_with fail
  refine hK.out _ _ (hS.setCell (fun _ => rfl) _) (fun hS => ?_)
  clear hK K hS
  (try simp only [Act.put])
  refine wpAnyH_done (by kernel_rfl) ?_ _
  go_wp2_with fail
  go_end0
  exact ⟨rfl, FIN.out⟩
set_option maxHeartbeats 1000000 in
theorem notes_any (S : Nat → Prop) (b : Nat) (L : List Tx) (o : OpX) (w : World) (h : Lst bookL w S b L) (hok : Ok L) (h0 : askE L o = 0) : Calls Try.prog 12 #[ptr b, .agg o.cs.toArray] w fun r w' => r = .returned (.tuple #[]) ∧ OutL bookL w S b (askL L o) w' := by
  obtain ⟨kind, two, tx, ctr, what, free, more⟩ := o
  unfold askE at h0
  unfold askL
  simp only at h0 ⊢
  show Calls Try.prog 12 #[ptr b, .agg #[.int .i64 kind, .bool two, .int .i64 tx, .int .i64 ctr, .int .i64 what, .int .i64 free, .int .i64 more]] w _
  by_cases e1 : kind = 1
  · subst e1
    rw [if_pos rfl] at h0 ⊢
    have hn : get L tx = none := by
      unfold beginE at h0
      split at h0
      · cases h0
      · split at h0
        · cases h0
        · rename_i q _
          cases hq : get L tx with
          | none => rfl
          | some t => exact absurd (by rw [hq]; rfl) (by assumption : ¬ (get L tx).isSome = true)
    unfold beginL
    rw [h0, if_pos rfl]
    exact note1 S b L two tx ctr what free more w h hok (idx_none.2 hn)
  rw [if_neg e1] at h0 ⊢
  by_cases e2 : kind = 2
  · subst e2
    rw [if_pos rfl] at h0 ⊢
    unfold holdL
    rw [h0, if_pos rfl]
    unfold holdE at h0
    cases hi : idx L tx with
    | none => rw [idx_none.1 hi] at h0; cases h0
    | some i =>
      obtain ⟨t, ht, hg, _⟩ := idx_get hi
      by_cases c4 : ctr ∈ t.hs
      · have E : upd L tx (fun u => u.holdT ctr) = L := by
          rw [upd_idx hok.nd _ hi ht]
          unfold Tx.holdT
          rw [if_pos c4]
          obtain ⟨hi1, hi2⟩ := List.getElem?_eq_some_iff.1 ht
          rw [← hi2]
          exact List.set_getElem_self hi1
        rw [E]
        exact note2a S b L two tx ctr what free more w h hok i hi (fun t' h' => by rw [hg] at h'; cases h'; exact c4)
      · have E : upd L tx (fun u => u.holdT ctr) = upd L tx (fun u => u.more ctr) := by
          rw [upd_idx hok.nd _ hi ht, upd_idx hok.nd _ hi ht]
          unfold Tx.holdT
          rw [if_neg c4]
        rw [E]
        exact note2b S b L two tx ctr what free more w h hok i hi (fun t' h' => by rw [hg] at h'; cases h'; exact c4)
  rw [if_neg e2] at h0 ⊢
  by_cases e3 : kind = 3
  · subst e3
    rw [if_pos rfl] at h0 ⊢
    cases hi : idx L tx with
    | none => rw [(wrote0 (idx_none.1 hi) what).1] at h0; cases h0
    | some i =>
      obtain ⟨t, ht, hg, _⟩ := idx_get hi
      by_cases k5 : what = 5
      · subst k5
        rw [(wrote5 hg).1] at h0
        have q : t.st = 0 := by
          by_cases z : t.st = 0
          · exact z
          · rw [if_neg z] at h0; cases h0
        rw [(wrote5 hg).2, if_pos q]
        exact note5 S b L two tx ctr free more w h hok i hi (fun t' h' => by rw [hg] at h'; cases h'; exact q)
      by_cases k6 : what = 6
      · subst k6
        rw [(wrote6 hg).1] at h0
        have q : t.st = 0 := by
          by_cases z : t.st = 0
          · exact z
          · rw [if_neg z] at h0; cases h0
        rw [(wrote6 hg).2, if_pos q]
        exact note6 S b L two tx ctr free more w h hok i hi (fun t' h' => by rw [hg] at h'; cases h'; exact q)
      by_cases k4 : what = 4
      · subst k4
        rw [(wrote4 hg).1] at h0
        have q : t.st = 2 ∧ ctr ∈ t.hs := by
          by_cases z : t.st = 2
          · rw [if_neg (fun y => y z)] at h0
            by_cases y : ctr ∈ t.hs
            · exact ⟨z, y⟩
            · rw [if_neg y] at h0; cases h0
          · rw [if_pos z] at h0; cases h0
        rw [(wrote4 hg).2, if_pos q]
        exact note4 S b L two tx ctr free more w h hok i hi (fun t' h' => by rw [hg] at h'; cases h'; exact q.2)
      by_cases k7 : what = 7
      · subst k7
        rw [(wrote7 hg).1] at h0
        have q : ¬ (t.st = 0 ∨ t.st = 2 ∧ t.hs ≠ []) := fun z => by rw [if_pos z] at h0; cases h0
        rw [(wrote7 hg).2, if_neg q]
        exact note7 S b L two tx ctr free more w h hok i hi
      rw [(wroteX hg k4 k5 k6 k7).1] at h0
      cases h0
  rw [if_neg e3] at h0
  cases h0
end Go.Proofs.Ytadppakflbilcaa
