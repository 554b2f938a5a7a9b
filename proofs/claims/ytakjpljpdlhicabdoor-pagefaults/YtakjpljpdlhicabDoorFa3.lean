import Derived.Test.YtakjpljpdlhicabDoorFa2
import Derived.Test.YtakjpljpdlhicabDoorPg32
namespace Go.Proofs.YtakjpljpdlhicabDoor
open Go.RowKit Go.QK Go.Pg
set_option maxRecDepth 100000

abbrev layV (p : PageM) (t : At) (kd cnt at_ odd : Int) : Value := .agg #[.int .i64 p.num, .int .i64 p.lsn, .slice t.a p.cs.length t.c, .slice t.b p.gs.length t.d, .int .i64 kd, .int .i64 cnt, .int .i64 at_, .int .i64 odd]

set_option maxHeartbeats 8000000 in
theorem pageFaults_any (p : PageM) (t : At) (kd cnt at_ odd number : Int) (w : World) (h : PageIn w p t) (ht : Tab w) :
    Calls Tryd.prog 3 #[layV p t kd cnt at_ odd, .int .i64 number] w fun e w' => e = .returned (.bool true) ∧ Below w.heap.size w w' := by
  have HP := hide h
  have HT := hide ht
  clear h ht
  obtain ⟨w1, hw1⟩ : ∃ w1, w1 = w.alloc (.cells #[.int .i64 p.num, .int .i64 p.lsn, .slice t.a p.cs.length t.c, .slice t.b p.gs.length t.d, .int .i64 kd, .int .i64 cnt, .int .i64 at_, .int .i64 odd] 27) := ⟨_, rfl⟩
  have B1 := hide (show Below w.heap.size w w1 from by rw [hw1]; exact alloc_below _ _)
  have C1 := hide (show Cells w1 w.heap.size [.int .i64 p.num, .int .i64 p.lsn, .slice t.a p.cs.length t.c, .slice t.b p.gs.length t.d, .int .i64 kd, .int .i64 cnt, .int .i64 at_, .int .i64 odd] from by rw [hw1]; exact Cells.new w _ _)
  have HW := hide hw1
  clear hw1
  go_enter Tryd.func3, Tryd.ntmps3
  go_upto_region 1 with fail
  rw [← HW.out]
  clear HW
  go_wp2_with fail
  refine (first_any _ (HT.out.below B1.out)).mono ?_
  rintro r w2 ⟨rfl, hh⟩
  have C2 := hide (C1.out.below hh)
  have B2 := hide (B1.out.trans (hh.mono B1.out.size))
  clear hh C1 B1
  go_upto_region 3 with fail
  refine wp_region_held_drew (S := fun wq => wq.cell? ⟨w.heap.size, 0, none⟩ = some (.int .i64 p.num) ∧ wq.cell? ⟨w.heap.size, 1, none⟩ = some (.int .i64 p.lsn) ∧ wq.cell? ⟨w.heap.size, 2, none⟩ = some (.slice t.a p.cs.length t.c) ∧ wq.cell? ⟨w.heap.size, 3, none⟩ = some (.slice t.b p.gs.length t.d) ∧ wq.cell? ⟨w.heap.size, 4, none⟩ = some (.int .i64 kd) ∧ wq.cell? ⟨w.heap.size, 5, none⟩ = some (.int .i64 cnt) ∧ wq.cell? ⟨w.heap.size, 6, none⟩ = some (.int .i64 at_) ∧ wq.cell? ⟨w.heap.size, 7, none⟩ = some (.int .i64 odd)) (by kernel_rfl) ⟨(C2.out.get 0 _ rfl).1, (C2.out.get 1 _ rfl).1, (C2.out.get 2 _ rfl).1, (C2.out.get 3 _ rfl).1, (C2.out.get 4 _ rfl).1, (C2.out.get 5 _ rfl).1, (C2.out.get 6 _ rfl).1, (C2.out.get 7 _ rfl).1⟩ (fun hS => ?_)
  have C3 := hide (C2.out.below (Below.refl _ _).drew)
  have B3 := hide B2.out.drew
  clear C2 B2
  generalize w2.drew = w3 at *
  refine take_at 0 (some 8) (v := ?_) rfl rfl (by kernel_rfl) (by kernel_rfl) (by kernel_rfl) (fun _ _ _ h => h) ⟨by rfl, ?_⟩ hS ?_
  rotate_left
  · intro wq hSw; go_simp; try rfl
  simp only [Act.put, List.setIfInBounds_toArray, List.set_cons_zero, List.set_cons_succ]
  refine take_at 1 (some 9) (v := ?_) rfl rfl (by kernel_rfl) (by kernel_rfl) (by kernel_rfl) (fun _ _ _ h => h) ⟨by rfl, ?_⟩ hS ?_
  rotate_left
  · intro wq hSw; obtain ⟨r0, r1, r2, r3, r4, r5, r6, r7⟩ := hSw; go_simp; try rfl
  simp only [Act.put, List.setIfInBounds_toArray, List.set_cons_zero, List.set_cons_succ]
  refine take_at 3 (some 11) (v := ?_) rfl rfl (by kernel_rfl) (by kernel_rfl) (by kernel_rfl) (fun _ _ _ h => h) ⟨by rfl, ?_⟩ hS ?_
  rotate_left
  · intro wq hSw; go_simp; try rfl
  simp only [Act.put, List.setIfInBounds_toArray, List.set_cons_zero, List.set_cons_succ]
  refine take_at 4 (some 12) (v := ?_) rfl rfl (by kernel_rfl) (by kernel_rfl) (by kernel_rfl) (fun _ _ _ h => h) ⟨by rfl, ?_⟩ hS ?_
  rotate_left
  · intro wq hSw; obtain ⟨r0, r1, r2, r3, r4, r5, r6, r7⟩ := hSw; go_simp; try rfl
  simp only [Act.put, List.setIfInBounds_toArray, List.set_cons_zero, List.set_cons_succ]
  refine take_at 5 (some 13) (v := ?_) rfl rfl (by kernel_rfl) (by kernel_rfl) (by kernel_rfl) (fun _ _ _ h => h) ⟨by rfl, ?_⟩ hS ?_
  rotate_left
  · intro wq hSw; go_simp; try rfl
  simp only [Act.put, List.setIfInBounds_toArray, List.set_cons_zero, List.set_cons_succ]
  refine take_at 6 (some 14) (v := ?_) rfl rfl (by kernel_rfl) (by kernel_rfl) (by kernel_rfl) (fun _ _ _ h => h) ⟨by rfl, ?_⟩ hS ?_
  rotate_left
  · intro wq hSw; go_simp; try rfl
  simp only [Act.put, List.setIfInBounds_toArray, List.set_cons_zero, List.set_cons_succ]
  refine take_at 7 (some 15) (v := ?_) rfl rfl (by kernel_rfl) (by kernel_rfl) (by kernel_rfl) (fun _ _ _ h => h) ⟨by rfl, ?_⟩ hS ?_
  rotate_left
  · intro wq hSw; obtain ⟨r0, r1, r2, r3, r4, r5, r6, r7⟩ := hSw; go_simp; try rfl
  simp only [Act.put, List.setIfInBounds_toArray, List.set_cons_zero, List.set_cons_succ]
  refine take_at 8 (some 16) (v := ?_) rfl rfl (by kernel_rfl) (by kernel_rfl) (by kernel_rfl) (fun _ _ _ h => h) ⟨by rfl, ?_⟩ hS ?_
  rotate_left
  · intro wq hSw; go_simp; try rfl
  simp only [Act.put, List.setIfInBounds_toArray, List.set_cons_zero, List.set_cons_succ]
  refine take_at 9 (some 17) (v := ?_) rfl rfl (by kernel_rfl) (by kernel_rfl) (by kernel_rfl) (fun _ _ _ h => h) ⟨by rfl, ?_⟩ hS ?_
  rotate_left
  · intro wq hSw; obtain ⟨r0, r1, r2, r3, r4, r5, r6, r7⟩ := hSw; go_simp; try rfl
  simp only [Act.put, List.setIfInBounds_toArray, List.set_cons_zero, List.set_cons_succ]
  refine take_at 10 (some 18) (v := ?_) rfl rfl (by kernel_rfl) (by kernel_rfl) (by kernel_rfl) (fun _ _ _ h => h) ⟨by rfl, ?_⟩ hS ?_
  rotate_left
  · intro wq hSw; go_simp; try rfl
  simp only [Act.put, List.setIfInBounds_toArray, List.set_cons_zero, List.set_cons_succ]
  refine take_at 11 (some 19) (v := ?_) rfl rfl (by kernel_rfl) (by kernel_rfl) (by kernel_rfl) (fun _ _ _ h => h) ⟨by rfl, ?_⟩ hS ?_
  rotate_left
  · intro wq hSw; go_simp; try rfl
  simp only [Act.put, List.setIfInBounds_toArray, List.set_cons_zero, List.set_cons_succ]
  refine take_at 12 (some 20) (v := ?_) rfl rfl (by kernel_rfl) (by kernel_rfl) (by kernel_rfl) (fun _ _ _ h => h) ⟨by rfl, ?_⟩ hS ?_
  rotate_left
  · intro wq hSw; obtain ⟨r0, r1, r2, r3, r4, r5, r6, r7⟩ := hSw; go_simp; try rfl
  simp only [Act.put, List.setIfInBounds_toArray, List.set_cons_zero, List.set_cons_succ]
  refine wpAnyH_ready (rs := [2]) (by kernel_rfl) (by simp) ?_
  refine AllReadyH.cons rfl (fun K hK => ?_) AllReadyH.nil
  go_simp
  go_wp2_with fail
  refine (ref_any p t _).mono ?_
  rintro r x4 ⟨rfl, hh⟩
  have C4 := hide (C3.out.below hh)
  have B4 := hide (B3.out.trans (hh.mono B3.out.size))
  clear hh C3 B3
  go_wp2_with fail
  refine hK.out _ _ ⟨(C4.out.get 0 _ rfl).1, (C4.out.get 1 _ rfl).1, (C4.out.get 2 _ rfl).1, (C4.out.get 3 _ rfl).1, (C4.out.get 4 _ rfl).1, (C4.out.get 5 _ rfl).1, (C4.out.get 6 _ rfl).1, (C4.out.get 7 _ rfl).1⟩ (fun hS => ?_)
  clear hK K
  (try simp only [Act.put, List.setIfInBounds_toArray, List.set_cons_zero, List.set_cons_succ])
  refine wpAnyH_ready (rs := [13]) (by kernel_rfl) (by simp) ?_
  refine AllReadyH.cons rfl (fun K hK => ?_) AllReadyH.nil
  go_simp
  go_wp2_with fail
  refine (laid_any p t _ _ _ _ _ (HP.out.below B4.out) (u8_in _) (u8_in _)).mono ?_
  rintro r x5 ⟨g, rfl, bf, hh⟩
  have C5 := hide (C4.out.below hh)
  have B5 := hide (B4.out.trans (hh.mono B4.out.size))
  have BF := hide bf
  clear hh bf C4 B4
  go_wp2_with fail
  refine hK.out _ _ ⟨(C5.out.get 0 _ rfl).1, (C5.out.get 1 _ rfl).1, (C5.out.get 2 _ rfl).1, (C5.out.get 3 _ rfl).1, (C5.out.get 4 _ rfl).1, (C5.out.get 5 _ rfl).1, (C5.out.get 6 _ rfl).1, (C5.out.get 7 _ rfl).1⟩ (fun hS => ?_)
  clear hK K
  (try simp only [Act.put, List.setIfInBounds_toArray, List.set_cons_zero, List.set_cons_succ])
  refine take_at 14 (some 5) (v := ?_) rfl rfl (by kernel_rfl) (by kernel_rfl) (by kernel_rfl) (fun _ _ _ h => h) ⟨by rfl, ?_⟩ hS ?_
  rotate_left
  · intro wq hSw; go_simp; try rfl
  simp only [Act.put, List.setIfInBounds_toArray, List.set_cons_zero, List.set_cons_succ]
  refine wpAnyH_done (by kernel_rfl) ?_ _
  obtain ⟨l, hl1, hl2, hl3⟩ := BF.out.bytes
  have KR := fun n w' (hs : Bytes w' (some ⟨g, 0, none⟩) l) (ht : Tab w') => reads_any (some ⟨g, 0, none⟩) 1024 l n w' hs hl2 ht (by nofun) (by omega)
  rw [hl1] at KR
  have HL := hide hl3
  have k0 := (C5.out.get 0 _ rfl).1
  clear hl1 hl2 hl3 BF hS
  go_wp2_with fail
  refine (KR _ _ HL.out (HT.out.below B5.out)).mono ?_
  rintro r x6 ⟨rfl, hh⟩
  have L6 := hide (HL.out.below hh)
  have B6 := hide (B5.out.trans (hh.mono B5.out.size))
  clear hh HL C5 B5 k0
  go_wp2_with fail
  refine (KR _ _ L6.out (HT.out.below B6.out)).mono ?_
  rintro r x7 ⟨rfl, hh⟩
  have B7 := hide (B6.out.trans (hh.mono B6.out.size))
  clear hh L6 B6
  go_wp2_with fail
  go_ret
  exact ⟨rfl, B7.out⟩
end Go.Proofs.YtakjpljpdlhicabDoor
