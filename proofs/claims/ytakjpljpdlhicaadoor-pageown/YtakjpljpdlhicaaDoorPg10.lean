import Derived.Test.YtakjpljpdlhicaaDoorPg8
namespace Go.Proofs.YtakjpljpdlhicaaDoor
open Go.RowKit Go.QK Go.Pg
set_option maxRecDepth 100000
theorem layH (g B n0 n1 n2 n3 n4 n5 n6 : Nat) (old post : List Nat) (w5 : World) (sa na : Nat) (ho : OwnB w5 B (.slice (some ⟨g, 0, none⟩) 1024 1024) (old ++ post)) (hs : Seen .i64 w5 (some ⟨sa, 0, none⟩) (ints headS)) (hu : Seen .u64 w5 (some ⟨na, 0, none⟩) (ints [n0, n1, n2, n3, n4, n5, n6])) (hsa : sa ≠ g) (hna : na ≠ g) (hf : FitN headS [n0, n1, n2, n3, n4, n5, n6]) (hl : old.length = 16) (hp : post.length = 1008) :
    Calls Tryd.prog 55 #[.slice (some ⟨g, 0, none⟩) 1024 1024, .slice (some ⟨sa, 0, none⟩) 7 7, .slice (some ⟨na, 0, none⟩) 7 7] w5 fun e w' => e = .returned (.slice (some ⟨g, 16, none⟩) 1008 1008) ∧ OwnB w' B (.slice (some ⟨g, 0, none⟩) 1024 1024) (numsB headS [n0, n1, n2, n3, n4, n5, n6] ++ post) ∧ Keep (fun k => k = g) w5 w' := by
  have q := lay_any g 1024 1024 B 1024 1024 (some ⟨g, 0, none⟩) (some ⟨sa, 0, none⟩) (some ⟨na, 0, none⟩) 7 7 headS [n0, n1, n2, n3, n4, n5, n6] [] old post w5 ho (by omega) (by omega) (by omega) (fun _ => rfl) hs hu
      (by intro ad q; cases q; exact hsa) (by intro ad q; cases q; exact hna) hf sizesH (by decide) hl
  rw [hp] at q
  refine Calls.mono (R := fun e w' => ∃ a', e = .returned (.slice a' 1008 1008) ∧ (0 < 1008 → a' = some ⟨g, 16, none⟩) ∧ OwnB w' B (.slice (some ⟨g, 0, none⟩) 1024 1024) (numsB headS [n0, n1, n2, n3, n4, n5, n6] ++ post) ∧ Keep (fun k => k = g) w5 w') q ?_
  rintro e w' ⟨a', rfl, ha, h1, h2⟩
  obtain rfl := ha (by decide)
  exact ⟨rfl, h1, h2⟩
set_option maxHeartbeats 8000000 in
theorem layHead_any (g B n0 n1 n2 n3 n4 n5 n6 : Nat) (old post : List Nat) (w : World) (ho : OwnB w B (.slice (some ⟨g, 0, none⟩) 1024 1024) (old ++ post)) (hl : old.length = 16) (hp : post.length = 1008) (hf : FitN headS [n0, n1, n2, n3, n4, n5, n6]) :
    Calls Tryd.prog 54 #[.slice (some ⟨g, 0, none⟩) 1024 1024, head7 n0 n1 n2 n3 n4 n5 n6] w fun e w' => e = .returned (.slice (some ⟨g, 16, none⟩) 1008 1008) ∧ OwnB w' B (.slice (some ⟨g, 0, none⟩) 1024 1024) (numsB headS [n0, n1, n2, n3, n4, n5, n6] ++ post) ∧ Keep (fun k => k = g) w w' := by
  have hgl : g < w.heap.size := (World.ownsRow.lt ho g rfl).2
  obtain ⟨w2, hw2⟩ : ∃ w2, w2 = w.alloc (.cells #[.int .u64 (n0 : Int), .int .u64 (n1 : Int), .int .u64 (n2 : Int), .int .u64 (n3 : Int), .int .u64 (n4 : Int), .int .u64 (n5 : Int), .int .u64 (n6 : Int)] 65) := ⟨_, rfl⟩
  have b2 : Below w.heap.size w w2 := by rw [hw2]; exact alloc_below _ _
  have c2 : Cells w2 w.heap.size [.int .u64 (n0 : Int), .int .u64 (n1 : Int), .int .u64 (n2 : Int), .int .u64 (n3 : Int), .int .u64 (n4 : Int), .int .u64 (n5 : Int), .int .u64 (n6 : Int)] := by rw [hw2]; exact Cells.new w _ _
  have FX := hide (show w2.cell? ⟨w.heap.size, 0, none⟩ = some (.int .u64 (n0 : Int)) ∧ w2.cell? ⟨w.heap.size, 1, none⟩ = some (.int .u64 (n1 : Int)) ∧ w2.cell? ⟨w.heap.size, 2, none⟩ = some (.int .u64 (n2 : Int)) ∧ w2.cell? ⟨w.heap.size, 3, none⟩ = some (.int .u64 (n3 : Int)) ∧ w2.cell? ⟨w.heap.size, 4, none⟩ = some (.int .u64 (n4 : Int)) ∧ w2.cell? ⟨w.heap.size, 5, none⟩ = some (.int .u64 (n5 : Int)) ∧ w2.cell? ⟨w.heap.size, 6, none⟩ = some (.int .u64 (n6 : Int)) from ⟨(c2.get 0 _ rfl).1, (c2.get 1 _ rfl).1, (c2.get 2 _ rfl).1, (c2.get 3 _ rfl).1, (c2.get 4 _ rfl).1, (c2.get 5 _ rfl).1, (c2.get 6 _ rfl).1⟩)
  have HW := hide hw2
  have C2 := hide c2.drew
  have B2 := hide (show Below w.heap.size w w2.drew from b2.drew)
  have O2 := hide (show OwnB w2.drew B (.slice (some ⟨g, 0, none⟩) 1024 1024) (old ++ post) from Owns.below ho b2.drew)
  have HL := hide hl
  have HP := hide hp
  have HF := hide hf
  clear hw2 c2 b2 ho hl hp hf
  go_enter Tryd.func54, Tryd.ntmps54
  go_upto_region 1 with fail
  rw [← HW.out]
  refine wp_region_held_drew (S := fun wq => wq.cell? ⟨w.heap.size, 0, none⟩ = some (.int .u64 (n0 : Int)) ∧ wq.cell? ⟨w.heap.size, 1, none⟩ = some (.int .u64 (n1 : Int)) ∧ wq.cell? ⟨w.heap.size, 2, none⟩ = some (.int .u64 (n2 : Int)) ∧ wq.cell? ⟨w.heap.size, 3, none⟩ = some (.int .u64 (n3 : Int)) ∧ wq.cell? ⟨w.heap.size, 4, none⟩ = some (.int .u64 (n4 : Int)) ∧ wq.cell? ⟨w.heap.size, 5, none⟩ = some (.int .u64 (n5 : Int)) ∧ wq.cell? ⟨w.heap.size, 6, none⟩ = some (.int .u64 (n6 : Int))) (by kernel_rfl) FX.out (fun hS => ?_)
  generalize w2.drew = w3 at *
  clear FX HW
  refine take_at 0 (some 5) (v := ?_) rfl rfl (by kernel_rfl) (by kernel_rfl) (by kernel_rfl) (fun _ _ _ h => h) ⟨by rfl, ?_⟩ hS ?_
  rotate_left
  · intro wq hSw; go_simp; try rfl
  simp only [Act.put, List.setIfInBounds_toArray, List.set_cons_zero, List.set_cons_succ]
  refine take_at 2 (some 7) (v := ?_) rfl rfl (by kernel_rfl) (by kernel_rfl) (by kernel_rfl) (fun _ _ _ h => h) ⟨by rfl, ?_⟩ hS ?_
  rotate_left
  · intro wq hSw; go_simp; try rfl
  simp only [Act.put, List.setIfInBounds_toArray, List.set_cons_zero, List.set_cons_succ]
  refine take_at 3 (some 8) (v := ?_) rfl rfl (by kernel_rfl) (by kernel_rfl) (by kernel_rfl) (fun _ _ _ h => h) ⟨by rfl, ?_⟩ hS ?_
  rotate_left
  · intro wq hSw; obtain ⟨y0, y1, y2, y3, y4, y5, y6⟩ := hSw; go_simp; try rfl
  simp only [Act.put, List.setIfInBounds_toArray, List.set_cons_zero, List.set_cons_succ]
  refine take_at 4 (some 9) (v := ?_) rfl rfl (by kernel_rfl) (by kernel_rfl) (by kernel_rfl) (fun _ _ _ h => h) ⟨by rfl, ?_⟩ hS ?_
  rotate_left
  · intro wq hSw; go_simp; try rfl
  simp only [Act.put, List.setIfInBounds_toArray, List.set_cons_zero, List.set_cons_succ]
  refine take_at 5 (some 10) (v := ?_) rfl rfl (by kernel_rfl) (by kernel_rfl) (by kernel_rfl) (fun _ _ _ h => h) ⟨by rfl, ?_⟩ hS ?_
  rotate_left
  · intro wq hSw; obtain ⟨y0, y1, y2, y3, y4, y5, y6⟩ := hSw; go_simp; try rfl
  simp only [Act.put, List.setIfInBounds_toArray, List.set_cons_zero, List.set_cons_succ]
  refine take_at 6 (some 11) (v := ?_) rfl rfl (by kernel_rfl) (by kernel_rfl) (by kernel_rfl) (fun _ _ _ h => h) ⟨by rfl, ?_⟩ hS ?_
  rotate_left
  · intro wq hSw; go_simp; try rfl
  simp only [Act.put, List.setIfInBounds_toArray, List.set_cons_zero, List.set_cons_succ]
  refine take_at 7 (some 12) (v := ?_) rfl rfl (by kernel_rfl) (by kernel_rfl) (by kernel_rfl) (fun _ _ _ h => h) ⟨by rfl, ?_⟩ hS ?_
  rotate_left
  · intro wq hSw; obtain ⟨y0, y1, y2, y3, y4, y5, y6⟩ := hSw; go_simp; try rfl
  simp only [Act.put, List.setIfInBounds_toArray, List.set_cons_zero, List.set_cons_succ]
  refine take_at 8 (some 13) (v := ?_) rfl rfl (by kernel_rfl) (by kernel_rfl) (by kernel_rfl) (fun _ _ _ h => h) ⟨by rfl, ?_⟩ hS ?_
  rotate_left
  · intro wq hSw; go_simp; try rfl
  simp only [Act.put, List.setIfInBounds_toArray, List.set_cons_zero, List.set_cons_succ]
  refine take_at 9 (some 14) (v := ?_) rfl rfl (by kernel_rfl) (by kernel_rfl) (by kernel_rfl) (fun _ _ _ h => h) ⟨by rfl, ?_⟩ hS ?_
  rotate_left
  · intro wq hSw; obtain ⟨y0, y1, y2, y3, y4, y5, y6⟩ := hSw; go_simp; try rfl
  simp only [Act.put, List.setIfInBounds_toArray, List.set_cons_zero, List.set_cons_succ]
  refine take_at 10 (some 15) (v := ?_) rfl rfl (by kernel_rfl) (by kernel_rfl) (by kernel_rfl) (fun _ _ _ h => h) ⟨by rfl, ?_⟩ hS ?_
  rotate_left
  · intro wq hSw; go_simp; try rfl
  simp only [Act.put, List.setIfInBounds_toArray, List.set_cons_zero, List.set_cons_succ]
  refine take_at 11 (some 16) (v := ?_) rfl rfl (by kernel_rfl) (by kernel_rfl) (by kernel_rfl) (fun _ _ _ h => h) ⟨by rfl, ?_⟩ hS ?_
  rotate_left
  · intro wq hSw; obtain ⟨y0, y1, y2, y3, y4, y5, y6⟩ := hSw; go_simp; try rfl
  simp only [Act.put, List.setIfInBounds_toArray, List.set_cons_zero, List.set_cons_succ]
  refine take_at 12 (some 17) (v := ?_) rfl rfl (by kernel_rfl) (by kernel_rfl) (by kernel_rfl) (fun _ _ _ h => h) ⟨by rfl, ?_⟩ hS ?_
  rotate_left
  · intro wq hSw; go_simp; try rfl
  simp only [Act.put, List.setIfInBounds_toArray, List.set_cons_zero, List.set_cons_succ]
  refine take_at 13 (some 18) (v := ?_) rfl rfl (by kernel_rfl) (by kernel_rfl) (by kernel_rfl) (fun _ _ _ h => h) ⟨by rfl, ?_⟩ hS ?_
  rotate_left
  · intro wq hSw; obtain ⟨y0, y1, y2, y3, y4, y5, y6⟩ := hSw; go_simp; try rfl
  simp only [Act.put, List.setIfInBounds_toArray, List.set_cons_zero, List.set_cons_succ]
  refine take_at 14 (some 19) (v := ?_) rfl rfl (by kernel_rfl) (by kernel_rfl) (by kernel_rfl) (fun _ _ _ h => h) ⟨by rfl, ?_⟩ hS ?_
  rotate_left
  · intro wq hSw; go_simp; try rfl
  simp only [Act.put, List.setIfInBounds_toArray, List.set_cons_zero, List.set_cons_succ]
  refine take_at 15 (some 20) (v := ?_) rfl rfl (by kernel_rfl) (by kernel_rfl) (by kernel_rfl) (fun _ _ _ h => h) ⟨by rfl, ?_⟩ hS ?_
  rotate_left
  · intro wq hSw; obtain ⟨y0, y1, y2, y3, y4, y5, y6⟩ := hSw; go_simp; try rfl
  simp only [Act.put, List.setIfInBounds_toArray, List.set_cons_zero, List.set_cons_succ]
  have z3 : w.heap.size < w3.heap.size := C2.out.1
  refine wpAnyH_ready (rs := [1, 16]) (by kernel_rfl) (by simp) ?_
  refine AllReadyH.cons rfl (fun K hK => ?_) (AllReadyH.cons rfl (fun K hK => ?_) AllReadyH.nil)
  · go_simp
    go_wp2_with fail
    refine (headSizes_any w3).mono ?_
    rintro e w4 ⟨rfl, hss, b4, z4⟩
    have B4 := hide b4
    have C4 := hide (C2.out.below b4)
    have OU : Hid (Seen .u64 (w4.alloc (.cells #[.int .u64 (n0 : Int), .int .u64 (n1 : Int), .int .u64 (n2 : Int), .int .u64 (n3 : Int), .int .u64 (n4 : Int), .int .u64 (n5 : Int), .int .u64 (n6 : Int)] 63)) (some ⟨w4.heap.size, 0, none⟩) (ints [n0, n1, n2, n3, n4, n5, n6])) := hide (Seen.lit w4 (ints [n0, n1, n2, n3, n4, n5, n6]) 63)
    have C5 := hide (C4.out.below (alloc_below w4 (.cells #[.int .u64 (n0 : Int), .int .u64 (n1 : Int), .int .u64 (n2 : Int), .int .u64 (n3 : Int), .int .u64 (n4 : Int), .int .u64 (n5 : Int), .int .u64 (n6 : Int)] 63)))
    have LY := layH g B n0 n1 n2 n3 n4 n5 n6 old post (w4.alloc (.cells #[.int .u64 (n0 : Int), .int .u64 (n1 : Int), .int .u64 (n2 : Int), .int .u64 (n3 : Int), .int .u64 (n4 : Int), .int .u64 (n5 : Int), .int .u64 (n6 : Int)] 63)) w3.heap.size w4.heap.size (Owns.below (Owns.below O2.out b4) (alloc_below _ _)) (Seen.below hss (alloc_below _ _)) OU.out (by omega) (by omega) HF.out HL.out HP.out
    have KW : Hid (Keep (fun k => k = g) w (w4.alloc (.cells #[.int .u64 (n0 : Int), .int .u64 (n1 : Int), .int .u64 (n2 : Int), .int .u64 (n3 : Int), .int .u64 (n4 : Int), .int .u64 (n5 : Int), .int .u64 (n6 : Int)] 63))) := hide (((Keep.of_below B2.out).then_below b4).then_below (alloc_below _ _))
    clear hss b4 z4
    go_wp2_with fail
    refine hK.out _ _ (⟨(C4.out.get 0 _ rfl).1, (C4.out.get 1 _ rfl).1, (C4.out.get 2 _ rfl).1, (C4.out.get 3 _ rfl).1, (C4.out.get 4 _ rfl).1, (C4.out.get 5 _ rfl).1, (C4.out.get 6 _ rfl).1⟩) (fun hS => ?_)
    clear hK K
    (try simp only [Act.put, List.setIfInBounds_toArray, List.set_cons_zero, List.set_cons_succ])
    refine wpAnyH_ready (rs := [16]) (by kernel_rfl) (by simp) ?_
    refine AllReadyH.cons rfl (fun K hK => ?_) AllReadyH.nil
    go_simp
    go_wp2_with fail
    refine hK.out _ _ (⟨(C5.out.get 0 _ rfl).1, (C5.out.get 1 _ rfl).1, (C5.out.get 2 _ rfl).1, (C5.out.get 3 _ rfl).1, (C5.out.get 4 _ rfl).1, (C5.out.get 5 _ rfl).1, (C5.out.get 6 _ rfl).1⟩) (fun hS => ?_)
    clear hK K
    (try simp only [Act.put, List.setIfInBounds_toArray, List.set_cons_zero, List.set_cons_succ])
    refine wpAnyH_ready (rs := [17]) (by kernel_rfl) (by simp) ?_
    refine AllReadyH.cons rfl (fun K hK => ?_) AllReadyH.nil
    go_simp
    go_wp2_with fail
    refine LY.mono ?_
    rintro e w6 ⟨rfl, o6, k6⟩
    have O6 := hide o6
    have K6 := hide k6
    have C6 := hide (C5.out.keep k6 (by omega))
    clear o6 k6 LY
    go_wp2_with fail
    refine hK.out _ _ (⟨(C6.out.get 0 _ rfl).1, (C6.out.get 1 _ rfl).1, (C6.out.get 2 _ rfl).1, (C6.out.get 3 _ rfl).1, (C6.out.get 4 _ rfl).1, (C6.out.get 5 _ rfl).1, (C6.out.get 6 _ rfl).1⟩) (fun hS => ?_)
    clear hK K
    (try simp only [Act.put, List.setIfInBounds_toArray, List.set_cons_zero, List.set_cons_succ])
    refine take_at 18 (some 4) (v := ?_) rfl rfl (by kernel_rfl) (by kernel_rfl) (by kernel_rfl) (fun _ _ _ h => h) ⟨by rfl, ?_⟩ hS ?_
    rotate_left
    · intro wq hSw; go_simp; try rfl
    simp only [Act.put, List.setIfInBounds_toArray, List.set_cons_zero, List.set_cons_succ]
    refine wpAnyH_done (by kernel_rfl) ?_ _
    go_wp2_with fail
    go_ret
    exact ⟨rfl, O6.out, KW.out.trans K6.out (fun _ _ h => h)⟩
  · go_simp
    go_wp2_with fail
    have C4 := hide (C2.out.below (alloc_below w3 (.cells #[.int .u64 (n0 : Int), .int .u64 (n1 : Int), .int .u64 (n2 : Int), .int .u64 (n3 : Int), .int .u64 (n4 : Int), .int .u64 (n5 : Int), .int .u64 (n6 : Int)] 63)))
    refine hK.out _ _ (⟨(C4.out.get 0 _ rfl).1, (C4.out.get 1 _ rfl).1, (C4.out.get 2 _ rfl).1, (C4.out.get 3 _ rfl).1, (C4.out.get 4 _ rfl).1, (C4.out.get 5 _ rfl).1, (C4.out.get 6 _ rfl).1⟩) (fun hS => ?_)
    clear hK K
    (try simp only [Act.put, List.setIfInBounds_toArray, List.set_cons_zero, List.set_cons_succ])
    refine wpAnyH_ready (rs := [1]) (by kernel_rfl) (by simp) ?_
    refine AllReadyH.cons rfl (fun K hK => ?_) AllReadyH.nil
    go_simp
    go_wp2_with fail
    refine (headSizes_any _).mono ?_
    rintro e w5 ⟨rfl, hss, b5, z5⟩
    have OU := Seen.below (show Seen .u64 (w3.alloc (.cells #[.int .u64 (n0 : Int), .int .u64 (n1 : Int), .int .u64 (n2 : Int), .int .u64 (n3 : Int), .int .u64 (n4 : Int), .int .u64 (n5 : Int), .int .u64 (n6 : Int)] 63)) (some ⟨w3.heap.size, 0, none⟩) (ints [n0, n1, n2, n3, n4, n5, n6]) from Seen.lit w3 (ints [n0, n1, n2, n3, n4, n5, n6]) 63) b5
    have C5 := hide (C4.out.below b5)
    have LY := layH g B n0 n1 n2 n3 n4 n5 n6 old post w5 (w3.alloc (.cells #[.int .u64 (n0 : Int), .int .u64 (n1 : Int), .int .u64 (n2 : Int), .int .u64 (n3 : Int), .int .u64 (n4 : Int), .int .u64 (n5 : Int), .int .u64 (n6 : Int)] 63)).heap.size w3.heap.size (Owns.below (Owns.below O2.out (alloc_below _ _)) b5) hss OU (by simp; omega) (by omega) HF.out HL.out HP.out
    simp only [World.size_alloc] at LY
    have KW : Hid (Keep (fun k => k = g) w w5) := hide (((Keep.of_below B2.out).then_below (alloc_below _ _)).then_below b5)
    clear hss b5 z5 OU
    go_wp2_with fail
    refine hK.out _ _ (⟨(C5.out.get 0 _ rfl).1, (C5.out.get 1 _ rfl).1, (C5.out.get 2 _ rfl).1, (C5.out.get 3 _ rfl).1, (C5.out.get 4 _ rfl).1, (C5.out.get 5 _ rfl).1, (C5.out.get 6 _ rfl).1⟩) (fun hS => ?_)
    clear hK K
    (try simp only [Act.put, List.setIfInBounds_toArray, List.set_cons_zero, List.set_cons_succ])
    refine wpAnyH_ready (rs := [17]) (by kernel_rfl) (by simp) ?_
    refine AllReadyH.cons rfl (fun K hK => ?_) AllReadyH.nil
    go_simp
    go_wp2_with fail
    refine LY.mono ?_
    rintro e w6 ⟨rfl, o6, k6⟩
    have O6 := hide o6
    have K6 := hide k6
    have C6 := hide (C5.out.keep k6 (by omega))
    clear o6 k6 LY
    go_wp2_with fail
    refine hK.out _ _ (⟨(C6.out.get 0 _ rfl).1, (C6.out.get 1 _ rfl).1, (C6.out.get 2 _ rfl).1, (C6.out.get 3 _ rfl).1, (C6.out.get 4 _ rfl).1, (C6.out.get 5 _ rfl).1, (C6.out.get 6 _ rfl).1⟩) (fun hS => ?_)
    clear hK K
    (try simp only [Act.put, List.setIfInBounds_toArray, List.set_cons_zero, List.set_cons_succ])
    refine take_at 18 (some 4) (v := ?_) rfl rfl (by kernel_rfl) (by kernel_rfl) (by kernel_rfl) (fun _ _ _ h => h) ⟨by rfl, ?_⟩ hS ?_
    rotate_left
    · intro wq hSw; go_simp; try rfl
    simp only [Act.put, List.setIfInBounds_toArray, List.set_cons_zero, List.set_cons_succ]
    refine wpAnyH_done (by kernel_rfl) ?_ _
    go_wp2_with fail
    go_ret
    exact ⟨rfl, O6.out, KW.out.trans K6.out (fun _ _ h => h)⟩
end Go.Proofs.YtakjpljpdlhicaaDoor
