import Derived.Test.YtakjpljpdlhicabDoorPg31
namespace Go.Proofs.YtakjpljpdlhicabDoor
open Go.RowKit Go.QK Go.Pg
set_option maxRecDepth 100000
theorem decP_small {l : List Nat} (hb : AllB l) (number : Int) : (decP l number).cs.length ≤ 1000 ∧ (decP l number).gs.length ≤ 1000 := by
  by_cases h : decE l number = 0
  · have hz := checkE_zero (enc_dec hb h).1
    omega
  · have hP : decP l number = zeroP := by unfold decP; rw [if_pos h]
    rw [hP]
    simp [zeroP]
set_option maxHeartbeats 32000000 in
theorem reads_any (a : Option Addr) (c : Nat) (l : List Nat) (number : Int) (w : World) (hs : Bytes w a l) (hb : AllB l) (ht : Tab w) (hn : a = none → c = 0) (hl : l.length ≤ 140737488351232) :
    Calls Tryd.prog 7 #[.slice a l.length c, .int .i64 number] w fun e w' => e = .returned (.bool true) ∧ Below w.heap.size w w' := by
  have LE := lend_any a l c w hs hn hl
  have DC := fun g c1 w' (h1 : Bytes w' (some ⟨g, 0, none⟩) (l ++ marks3)) (bb : Below w.heap.size w w') (hc : l.length ≤ c1) => decode_any (some ⟨g, 0, none⟩) c1 l number w' (by have q := h1.take l.length; rwa [List.take_left] at q) hb (ht.below bb) hc
  have RD := fun w' (bb : Below w.heap.size w w') => rdecode_any a c l number w' (hs.below bb) hb
  have STL := fun g c1 w' (h1 : Bytes w' (some ⟨g, 0, none⟩) (l ++ marks3)) (bb : Below w.heap.size w w') (hc : l.length + 3 ≤ c1) => still_any g c1 a c l w' h1 (hs.below bb) hc hl
  obtain ⟨s1, s2⟩ := decP_small hb number
  unfold RPost at RD
  obtain ⟨DE, hDE⟩ : ∃ e, e = decE l number := ⟨_, rfl⟩
  obtain ⟨DP, hDP⟩ : ∃ e, e = decP l number := ⟨_, rfl⟩
  simp only [← hDE, ← hDP] at DC RD s1 s2
  have BK := fun (u : At) w => back_any DP u w
  have SM := fun (u v : At) w (h1 : Lies w u.a (ctrsC DP.cs)) (h2 : Lies w u.b (grpsC DP.gs)) (h3 : Lies w v.a (ctrsC DP.cs)) (h4 : Lies w v.b (grpsC DP.gs)) => same_true DP u v w h1 h2 h3 h4 (by omega) (by omega)
  obtain ⟨qn, ql, qc, qg⟩ := DP
  simp only [pageV] at BK SM s1 s2
  obtain ⟨LM, hLM⟩ : ∃ L, L = l ++ marks3 := ⟨_, rfl⟩
  rw [← hLM] at LE
  simp only [← hLM] at DC STL
  generalize l.length = n at *
  clear hs hb ht hDE hDP hLM
  go_enter Tryd.func7, Tryd.ntmps7
  go_wp2_with fail
  refine LE.mono ?_
  rintro e w1 ⟨g, c1, rfl, hb1, hc1, b1⟩
  have HB1 := hide hb1
  have B1 := hide b1
  have DC1 := DC g c1 w1 hb1 b1 (by omega)
  have hc1' : n ≤ c1 := by omega
  clear LE hb1 b1 DC
  go_wp2_with fail
  refine DC1.mono ?_
  rintro e w2 ⟨v2, rfl, ho2, b2⟩
  obtain ⟨⟨a2, c2, b2', d2⟩, rfl, la2, lb2, -, -⟩ := PageOut.open_ ho2
  simp only [pageV] at la2 lb2 ⊢
  have B2 := hide (bnext B1.out b2 (Nat.le_refl _))
  have HB2 := hide (HB1.out.below b2)
  have LA2 := hide la2
  have LB2 := hide lb2
  clear DC1 ho2 la2 lb2 b2 HB1 B1
  go_upto_region 3 with fail
  refine named (P := Code.wp _ _ _ _) ?_
  intro w3 hw3
  have b3 : Below w2.heap.size w2 w3 := by rw [hw3]; exact alloc_below _ _
  have cp3 : Cells w3 w2.heap.size [.int .i64 qn, .int .i64 ql, .slice a2 qc.length c2, .slice b2' qg.length d2] := by rw [hw3]; exact Cells.new w2 _ _
  obtain ⟨P, hP⟩ : ∃ P, P = w2.heap.size := ⟨_, rfl⟩
  rw [← hP] at cp3 ⊢
  have B3 := hide (bnext B2.out b3 (Nat.le_refl _))
  have HB3 := hide (HB2.out.below b3)
  have LA3 := hide (Lies.below LA2.out b3)
  have LB3 := hide (Lies.below LB2.out b3)
  have CP3 := hide cp3
  have RD3 := RD w3 B3.out
  clear hw3 b3 cp3 hP B2 HB2 LA2 LB2 RD
  go_wp2_with fail
  refine RD3.mono ?_
  rintro e w4 ⟨v4, rfl, ho4, b4⟩
  obtain ⟨⟨a3, c3, b3', d3⟩, rfl, la4, lb4, -, -⟩ := PageOut.open_ ho4
  simp only [pageV] at la4 lb4 ⊢
  have B4 := hide (bnext B3.out b4 (Nat.le_refl _))
  have HB4 := hide (HB3.out.below b4)
  have LA4 := hide (Lies.below LA3.out b4)
  have LB4 := hide (Lies.below LB3.out b4)
  have CP4 := hide (CP3.out.below b4)
  have MA4 := hide la4
  have MB4 := hide lb4
  clear RD3 ho4 la4 lb4 b4 HB3 B3 LA3 LB3 CP3
  go_upto_region 4 with fail
  refine named (P := Code.wp _ _ _ _) ?_
  intro w5 hw5
  have b5 : Below w4.heap.size w4 w5 := by rw [hw5]; exact alloc_below _ _
  have cq5 : Cells w5 w4.heap.size [.int .i64 qn, .int .i64 ql, .slice a3 qc.length c3, .slice b3' qg.length d3] := by rw [hw5]; exact Cells.new w4 _ _
  obtain ⟨Q, hQ⟩ : ∃ Q, Q = w4.heap.size := ⟨_, rfl⟩
  rw [← hQ] at cq5 ⊢
  have DW : Below w5.heap.size w5 w5.drew := (Below.refl _ _).drew
  have CP5 := hide (CP4.out.below b5)
  have CQ5 := hide cq5
  have B6 := hide (bnext (bnext B4.out b5 (Nat.le_refl _)) DW (Nat.le_refl _))
  have HB6 := hide ((HB4.out.below b5).below DW)
  have LA6 := hide (Lies.below (Lies.below LA4.out b5) DW)
  have LB6 := hide (Lies.below (Lies.below LB4.out b5) DW)
  have MA6 := hide (Lies.below (Lies.below MA4.out b5) DW)
  have MB6 := hide (Lies.below (Lies.below MB4.out b5) DW)
  have CP6 := hide (CP5.out.below DW)
  have CQ6 := hide (CQ5.out.below DW)
  clear hw5 b5 cq5 hQ B4 HB4 LA4 LB4 MA4 MB4 CP4 DW
  refine wp_region_held_drew (S := (fun wq => wq.cell? ⟨P, 0, none⟩ = some (.int .i64 qn) ∧ wq.cell? ⟨P, 1, none⟩ = some (.int .i64 ql) ∧ wq.cell? ⟨P, 2, none⟩ = some (.slice a2 qc.length c2) ∧ wq.cell? ⟨P, 3, none⟩ = some (.slice b2' qg.length d2) ∧ wq.cell? ⟨Q, 0, none⟩ = some (.int .i64 qn) ∧ wq.cell? ⟨Q, 1, none⟩ = some (.int .i64 ql) ∧ wq.cell? ⟨Q, 2, none⟩ = some (.slice a3 qc.length c3) ∧ wq.cell? ⟨Q, 3, none⟩ = some (.slice b3' qg.length d3))) (by kernel_rfl) ⟨(CP5.out.get 0 _ rfl).1, (CP5.out.get 1 _ rfl).1, (CP5.out.get 2 _ rfl).1, (CP5.out.get 3 _ rfl).1, (CQ5.out.get 0 _ rfl).1, (CQ5.out.get 1 _ rfl).1, (CQ5.out.get 2 _ rfl).1, (CQ5.out.get 3 _ rfl).1⟩ (fun hS => ?_)
  generalize w5.drew = w6 at *
  clear CP5 CQ5
  refine take_at 0 (some 24) (v := ?_) rfl rfl (by kernel_rfl) (by kernel_rfl) (by kernel_rfl) (fun _ _ _ h => h) ⟨by rfl, ?_⟩ hS ?_
  rotate_left
  · intro wq hSw; go_simp; try rfl
  simp only [Act.put, List.setIfInBounds_toArray, List.set_cons_zero, List.set_cons_succ]
  refine take_at 1 (some 25) (v := ?_) rfl rfl (by kernel_rfl) (by kernel_rfl) (by kernel_rfl) (fun _ _ _ h => h) ⟨by rfl, ?_⟩ hS ?_
  rotate_left
  · intro wq hSw; go_simp; try rfl
  simp only [Act.put, List.setIfInBounds_toArray, List.set_cons_zero, List.set_cons_succ]
  refine take_at 2 (some 26) (v := ?_) rfl rfl (by kernel_rfl) (by kernel_rfl) (by kernel_rfl) (fun _ _ _ h => h) ⟨by rfl, ?_⟩ hS ?_
  rotate_left
  · intro wq hSw; go_simp; try rfl
  simp only [Act.put, List.setIfInBounds_toArray, List.set_cons_zero, List.set_cons_succ]
  refine take_at 3 (some 27) (v := ?_) rfl rfl (by kernel_rfl) (by kernel_rfl) (by kernel_rfl) (fun _ _ _ h => h) ⟨by rfl, ?_⟩ hS ?_
  rotate_left
  · intro wq hSw; go_simp; try rfl
  simp only [Act.put, List.setIfInBounds_toArray, List.set_cons_zero, List.set_cons_succ]
  refine take_at 4 (some 28) (v := ?_) rfl rfl (by kernel_rfl) (by kernel_rfl) (by kernel_rfl) (fun _ _ _ h => h) ⟨by rfl, ?_⟩ hS ?_
  rotate_left
  · intro wq hSw; obtain ⟨y0, y1, y2, y3, y4, y5, y6, y7⟩ := hSw; go_simp; try rfl
  simp only [Act.put, List.setIfInBounds_toArray, List.set_cons_zero, List.set_cons_succ]
  refine take_at 6 (some 30) (v := ?_) rfl rfl (by kernel_rfl) (by kernel_rfl) (by kernel_rfl) (fun _ _ _ h => h) ⟨by rfl, ?_⟩ hS ?_
  rotate_left
  · intro wq hSw; obtain ⟨y0, y1, y2, y3, y4, y5, y6, y7⟩ := hSw; go_simp; try rfl
  simp only [Act.put, List.setIfInBounds_toArray, List.set_cons_zero, List.set_cons_succ]
  refine wpAnyH_ready (rs := [5]) (by kernel_rfl) (by simp) ?_
  refine AllReadyH.cons rfl (fun K hK => ?_) AllReadyH.nil
  go_simp
  go_wp2_with fail
  refine (BK ⟨a2, c2, b2', d2⟩ _).mono ?_
  rintro e w7 ⟨rfl, b7⟩
  have CP7 := hide (CP6.out.below b7)
  have CQ7 := hide (CQ6.out.below b7)
  have B7 := hide b7
  clear b7
  go_wp2_with fail
  refine hK.out _ _ ⟨(CP7.out.get 0 _ rfl).1, (CP7.out.get 1 _ rfl).1, (CP7.out.get 2 _ rfl).1, (CP7.out.get 3 _ rfl).1, (CQ7.out.get 0 _ rfl).1, (CQ7.out.get 1 _ rfl).1, (CQ7.out.get 2 _ rfl).1, (CQ7.out.get 3 _ rfl).1⟩ (fun hS => ?_)
  clear hK K
  (try simp only [Act.put, List.setIfInBounds_toArray, List.set_cons_zero, List.set_cons_succ])
  refine wpAnyH_ready (rs := [7]) (by kernel_rfl) (by simp) ?_
  refine AllReadyH.cons rfl (fun K hK => ?_) AllReadyH.nil
  go_simp
  go_wp2_with fail
  refine (SM ⟨a2, c2, b2', d2⟩ ⟨a3, c3, b3', d3⟩ w7 (Lies.below LA6.out B7.out) (Lies.below LB6.out B7.out) (Lies.below MA6.out B7.out) (Lies.below MB6.out B7.out)).mono ?_
  rintro e w8 ⟨rfl, b8⟩
  have CP8 := hide (CP7.out.below b8)
  have CQ8 := hide (CQ7.out.below b8)
  have B8 := hide (bnext B7.out b8 (Nat.le_refl _))
  clear b8
  go_wp2_with fail
  refine hK.out _ _ ⟨(CP8.out.get 0 _ rfl).1, (CP8.out.get 1 _ rfl).1, (CP8.out.get 2 _ rfl).1, (CP8.out.get 3 _ rfl).1, (CQ8.out.get 0 _ rfl).1, (CQ8.out.get 1 _ rfl).1, (CQ8.out.get 2 _ rfl).1, (CQ8.out.get 3 _ rfl).1⟩ (fun hS => ?_)
  clear hK K
  (try simp only [Act.put, List.setIfInBounds_toArray, List.set_cons_zero, List.set_cons_succ])
  have STL8 := STL g c1 w8 (HB6.out.below B8.out) (bnext B6.out B8.out (Nat.le_refl _)) hc1
  refine take_at 8 (some 32) (v := ?_) rfl rfl (by kernel_rfl) (by kernel_rfl) (by kernel_rfl) (fun _ _ _ h => h) ⟨by rfl, ?_⟩ hS ?_
  rotate_left
  · intro wq hSw; go_simp; try rfl
  simp only [Act.put, List.setIfInBounds_toArray, List.set_cons_zero, List.set_cons_succ]
  refine take_at 9 (some 33) (v := ?_) rfl rfl (by kernel_rfl) (by kernel_rfl) (by kernel_rfl) (fun _ _ _ h => h) ⟨by rfl, ?_⟩ hS ?_
  rotate_left
  · intro wq hSw; go_simp; try rfl
  simp only [Act.put, List.setIfInBounds_toArray, List.set_cons_zero, List.set_cons_succ]
  refine take_at 10 (some 34) (v := ?_) rfl rfl (by kernel_rfl) (by kernel_rfl) (by kernel_rfl) (fun _ _ _ h => h) ⟨by rfl, ?_⟩ hS ?_
  rotate_left
  · intro wq hSw; go_simp; try rfl
  simp only [Act.put, List.setIfInBounds_toArray, List.set_cons_zero, List.set_cons_succ]
  refine take_at 11 (some 35) (v := ?_) rfl rfl (by kernel_rfl) (by kernel_rfl) (by kernel_rfl) (fun _ _ _ h => h) ⟨by rfl, ?_⟩ hS ?_
  rotate_left
  · intro wq hSw; go_simp; try rfl
  simp only [Act.put, List.setIfInBounds_toArray, List.set_cons_zero, List.set_cons_succ]
  refine wpAnyH_ready (rs := [12]) (by kernel_rfl) (by simp) ?_
  refine AllReadyH.cons rfl (fun K hK => ?_) AllReadyH.nil
  go_simp
  go_wp2_with fail
  refine STL8.mono ?_
  rintro e w9 ⟨rfl, hw9⟩
  subst hw9
  go_wp2_with fail
  refine hK.out _ _ ⟨(CP8.out.get 0 _ rfl).1, (CP8.out.get 1 _ rfl).1, (CP8.out.get 2 _ rfl).1, (CP8.out.get 3 _ rfl).1, (CQ8.out.get 0 _ rfl).1, (CQ8.out.get 1 _ rfl).1, (CQ8.out.get 2 _ rfl).1, (CQ8.out.get 3 _ rfl).1⟩ (fun hS => ?_)
  clear hK K
  (try simp only [Act.put, List.setIfInBounds_toArray, List.set_cons_zero, List.set_cons_succ])
  refine take_at 13 (some 37) (v := ?_) rfl rfl (by kernel_rfl) (by kernel_rfl) (by kernel_rfl) (fun _ _ _ h => h) ⟨by rfl, ?_⟩ hS ?_
  rotate_left
  · intro wq hSw; go_simp; try rfl
  simp only [Act.put, List.setIfInBounds_toArray, List.set_cons_zero, List.set_cons_succ]
  refine take_at 14 (some 4) (v := ?_) rfl rfl (by kernel_rfl) (by kernel_rfl) (by kernel_rfl) (fun _ _ _ h => h) ⟨by rfl, ?_⟩ hS ?_
  rotate_left
  · intro wq hSw; go_simp; try rfl
  simp only [Act.put, List.setIfInBounds_toArray, List.set_cons_zero, List.set_cons_succ]
  refine wpAnyH_done (by kernel_rfl) ?_ _
  go_wp2_with fail
  go_ret
  exact ⟨by simp, bnext B6.out B8.out (Nat.le_refl _)⟩
end Go.Proofs.YtakjpljpdlhicabDoor
