import Derived.Test.YtakjpljpdlhicaaDoorPg24
namespace Go.Proofs.YtakjpljpdlhicaaDoor
open Go.RowKit Go.QK Go.Pg
set_option maxRecDepth 100000
set_option maxHeartbeats 32000000 in
theorem pageBack_any (p : PageM) (t : At) (other : Int) (w : World) (h : PageIn w p t) (ht : Tab w) :
    Calls Tryd.prog 5 #[pageV p t, .int .i64 other] w fun e w' => e = .returned (.bool true) ∧ Below w.heap.size w w' := by
  have RG := fun w' (b : Below w.heap.size w w') => right_any p t w' (h.below b)
  have HT := hide ht
  obtain ⟨num, lsn, cs, gs⟩ := p
  obtain ⟨ta, tc, tb, td⟩ := t
  simp only [pageV] at *
  clear h ht
  obtain ⟨w2, hw2⟩ : ∃ w2, w2 = w.alloc (.cells #[.int .i64 num, .int .i64 lsn, .slice ta cs.length tc, .slice tb gs.length td] 34) := ⟨_, rfl⟩
  have b2 : Below w.heap.size w w2 := by rw [hw2]; exact alloc_below _ _
  have c2 : Cells w2 w.heap.size [.int .i64 num, .int .i64 lsn, .slice ta cs.length tc, .slice tb gs.length td] := by rw [hw2]; exact Cells.new w _ _
  have HW := hide hw2
  have B2 := hide b2
  clear hw2 b2
  go_enter Tryd.func5, Tryd.ntmps5
  go_upto_region 1 with fail
  rw [← HW.out]
  go_wp2_with fail
  refine (first_any w2 (HT.out.below B2.out)).mono ?_
  rintro e w3 ⟨rfl, b3⟩
  have c3 := c2.below b3
  have BW3 := hide (bnext B2.out b3 (Nat.le_refl _))
  obtain ⟨g0, x0⟩ := c3.get 0 _ rfl
  obtain ⟨g1, x1⟩ := c3.get 1 _ rfl
  obtain ⟨g2, x2⟩ := c3.get 2 _ rfl
  obtain ⟨g3, x3⟩ := c3.get 3 _ rfl
  clear c2 c3 b3 HW B2
  go_wp2_with fail
  refine (RG w3 BW3.out).mono ?_
  rintro e w4 ⟨q, v, rfl, hck, hfit, ho, b4⟩
  obtain ⟨⟨a, c, b, d⟩, rfl, la, lb, -, -⟩ := PageOut.open_ ho
  have bw4 := bnext BW3.out b4 (Nat.le_refl _)
  have hlen := encB_length hck
  have hbs := encB_bytes q
  obtain ⟨dr1, dr2⟩ := dec_right hck hfit
  have hsz := checkE_zero hck
  have hl1 : q.cs.length ≤ 1000 := by omega
  have hl2 : q.gs.length ≤ 1000 := by omega
  have hcase : (q.cs.length = 0 ∧ q.gs.length = 0 ∧ (0 ≤ other ∧ other ≤ 63 → decE (encB q) other = 0 ∧ decP (encB q) other = ⟨other, 0, [], []⟩)) ∨ (¬ (q.cs.length = 0 ∧ q.gs.length = 0) ∧ (0 ≤ other ∧ other ≤ 63 → other ≠ q.num → decE (encB q) other = 82 ∧ decP (encB q) other = zeroP)) := by
    by_cases he : isEmpty q = true
    · obtain ⟨e1, e2⟩ := empty_lists he
      refine .inl ⟨by rw [e1]; rfl, by rw [e2]; rfl, fun hr => ?_⟩
      have e : encB q = zs 1024 := by unfold encB; rw [he]; rfl
      rw [e]
      exact dec_empty hr
    · have he : isEmpty q = false := by simpa using he
      refine .inr ⟨fun k => by simp [isEmpty, k.1, k.2] at he, fun hr hne => ?_⟩
      have hE := (dec_full hck hfit he other hr).1
      rw [if_neg hne] at hE
      exact ⟨hE, by unfold decP; rw [hE]; rfl⟩
  have EN := fun w' (u : At) (h1 : Lies w' u.a (ctrsC q.cs)) (h2 : Lies w' u.b (grpsC q.gs)) (bb : Below w.heap.size w w') => encode_ok q u w' ⟨h1, h2, hfit⟩ (HT.out.below bb) hck
  have BK := fun (u : At) w => back_any q u w
  have SM := fun (u v : At) w (h1 : Lies w u.a (ctrsC q.cs)) (h2 : Lies w u.b (grpsC q.gs)) (h3 : Lies w v.a (ctrsC q.cs)) (h4 : Lies w v.b (grpsC q.gs)) => same_true q u v w h1 h2 h3 h4 (by omega) (by omega)
  obtain ⟨EB, hEB⟩ : ∃ e, e = encB q := ⟨_, rfl⟩
  simp only [← hEB] at hlen hbs dr1 dr2 hcase EN
  have DC := fun (g : Nat) w' (n : Int) (hs : Bytes w' (some ⟨g, 0, none⟩) EB) (bb : Below w.heap.size w w') => decode_any (some ⟨g, 0, none⟩) 1024 EB n w' hs hbs (HT.out.below bb) (by rw [hlen]; exact Nat.le_refl _)
  simp only [hlen] at DC
  have D1 := fun (g : Nat) w' (hs : Bytes w' (some ⟨g, 0, none⟩) EB) (bb : Below w.heap.size w w') => DC g w' q.num hs bb
  simp only [dr1, dr2] at D1
  obtain ⟨qn, ql, qc, qg⟩ := q
  simp only [pageV] at EN BK SM D1 hcase hl1 hl2 la lb ⊢
  have HCASE := hide hcase
  have HLE := hide hlen
  have BW4 := hide bw4
  have LA := hide la
  have LB := hide lb
  clear hck hfit ho la lb b4 bw4 hlen hbs hEB RG g0 g1 g2 g3 x0 x1 x2 x3 dr1 dr2 hsz hcase
  have EN1 := EN (w4.alloc (.cells #[.int .i64 qn, .int .i64 ql, .slice a qc.length c, .slice b qg.length d] 27)) ⟨a, c, b, d⟩ (Lies.below LA.out (alloc_below _ _)) (Lies.below LB.out (alloc_below _ _)) (bnext BW4.out (alloc_below _ _) (Nat.le_refl _))
  go_wp2_with fail
  refine EN1.mono ?_
  rintro e w5 ⟨g, rfl, hg, o5, b5⟩
  have c5 := (Cells.new w4 #[.int .i64 qn, .int .i64 ql, .slice a qc.length c, .slice b qg.length d] 27).below b5
  have bw5 := bnext (bnext BW4.out (alloc_below w4 _) (Nat.le_refl _)) b5 (Nat.le_refl _)
  have bl5 := bnext (alloc_below w4 _) b5 (Nat.le_refl _)
  obtain ⟨P, hP⟩ : ∃ P, P = w4.heap.size := ⟨_, rfl⟩
  rw [← hP] at c5
  have HP := hide hP
  have D15 := D1 g w5 (Owns.seen_at o5) bw5
  have O5 := hide o5
  have C5 := hide c5
  have BW5 := hide bw5
  have LA5 := hide (Lies.below LA.out bl5)
  have LB5 := hide (Lies.below LB.out bl5)
  obtain ⟨g0, x0⟩ := c5.get 0 _ rfl
  clear hg o5 c5 bw5 b5 bl5 hP EN1
  go_upto_region 7 with fail
  rw [← HP.out]
  go_wp2_with fail
  refine D15.mono ?_
  rintro e w6 ⟨v6, rfl, ho6, b6⟩
  obtain ⟨⟨a6, c6, b6', d6⟩, rfl, la6, lb6, -, -⟩ := PageOut.open_ ho6
  simp only [pageV] at la6 lb6 ⊢
  obtain ⟨w7, hw7⟩ : ∃ w7, w7 = w6.alloc (.cells #[.int .i64 qn, .int .i64 ql, .slice a6 qc.length c6, .slice b6' qg.length d6] 27) := ⟨_, rfl⟩
  have b7 : Below w6.heap.size w6 w7 := by rw [hw7]; exact alloc_below _ _
  have cq7 : Cells w7 w6.heap.size [.int .i64 qn, .int .i64 ql, .slice a6 qc.length c6, .slice b6' qg.length d6] := by rw [hw7]; exact Cells.new w6 _ _
  have cp7 := (C5.out.below b6).below b7
  have BW7 := hide (bnext (bnext BW5.out b6 (Nat.le_refl _)) b7 (Nat.le_refl _)).drew
  have O7 := hide (Owns.below (Owns.below (Owns.below O5.out b6) b7) (Below.refl _ _).drew)
  have LA7 := hide (Lies.below (Lies.below (Lies.below LA5.out b6) b7) (Below.refl _ _).drew)
  have LB7 := hide (Lies.below (Lies.below (Lies.below LB5.out b6) b7) (Below.refl _ _).drew)
  have LC7 := hide (Lies.below (Lies.below la6 b7) (Below.refl _ _).drew)
  have LD7 := hide (Lies.below (Lies.below lb6 b7) (Below.refl _ _).drew)
  obtain ⟨Q, hQ⟩ : ∃ Q, Q = w6.heap.size := ⟨_, rfl⟩
  rw [← hQ] at cq7
  have HQ := hide hQ
  have HW7 := hide hw7
  have CP7 := hide cp7
  have CQ7 := hide cq7
  have FX := hide (show w7.cell? ⟨P, 0, none⟩ = some (.int .i64 qn) ∧ w7.cell? ⟨P, 1, none⟩ = some (.int .i64 ql) ∧ w7.cell? ⟨P, 2, none⟩ = some (.slice a qc.length c) ∧ w7.cell? ⟨P, 3, none⟩ = some (.slice b qg.length d) ∧ w7.cell? ⟨Q, 0, none⟩ = some (.int .i64 qn) ∧ w7.cell? ⟨Q, 1, none⟩ = some (.int .i64 ql) ∧ w7.cell? ⟨Q, 2, none⟩ = some (.slice a6 qc.length c6) ∧ w7.cell? ⟨Q, 3, none⟩ = some (.slice b6' qg.length d6) from ⟨(CP7.out.get 0 _ rfl).1, (CP7.out.get 1 _ rfl).1, (CP7.out.get 2 _ rfl).1, (CP7.out.get 3 _ rfl).1, (CQ7.out.get 0 _ rfl).1, (CQ7.out.get 1 _ rfl).1, (CQ7.out.get 2 _ rfl).1, (CQ7.out.get 3 _ rfl).1⟩)
  have CP8 := hide CP7.out.drew
  have CQ8 := hide CQ7.out.drew
  clear ho6 la6 lb6 b6 b7 cp7 cq7 hQ hw7 g0 x0 D15 D1 LA5 LB5 O5 C5 LA LB
  go_upto_region 8 with fail
  rw [← HW7.out, ← HQ.out]
  refine wp_region_held_drew (S := fun wq => wq.cell? ⟨P, 0, none⟩ = some (.int .i64 qn) ∧ wq.cell? ⟨P, 1, none⟩ = some (.int .i64 ql) ∧ wq.cell? ⟨P, 2, none⟩ = some (.slice a qc.length c) ∧ wq.cell? ⟨P, 3, none⟩ = some (.slice b qg.length d) ∧ wq.cell? ⟨Q, 0, none⟩ = some (.int .i64 qn) ∧ wq.cell? ⟨Q, 1, none⟩ = some (.int .i64 ql) ∧ wq.cell? ⟨Q, 2, none⟩ = some (.slice a6 qc.length c6) ∧ wq.cell? ⟨Q, 3, none⟩ = some (.slice b6' qg.length d6)) (by kernel_rfl) FX.out (fun hS => ?_)
  generalize w7.drew = w8 at *
  clear FX HW7 HQ HP CP7 CQ7
  refine take_at 0 (some 37) (v := ?_) rfl rfl (by kernel_rfl) (by kernel_rfl) (by kernel_rfl) (fun _ _ _ h => h) ⟨by rfl, ?_⟩ hS ?_
  rotate_left
  · intro wq hSw; go_simp; try rfl
  simp only [Act.put, List.setIfInBounds_toArray, List.set_cons_zero, List.set_cons_succ]
  refine take_at 1 (some 38) (v := ?_) rfl rfl (by kernel_rfl) (by kernel_rfl) (by kernel_rfl) (fun _ _ _ h => h) ⟨by rfl, ?_⟩ hS ?_
  rotate_left
  · intro wq hSw; go_simp; try rfl
  simp only [Act.put, List.setIfInBounds_toArray, List.set_cons_zero, List.set_cons_succ]
  refine take_at 2 (some 39) (v := ?_) rfl rfl (by kernel_rfl) (by kernel_rfl) (by kernel_rfl) (fun _ _ _ h => h) ⟨by rfl, ?_⟩ hS ?_
  rotate_left
  · intro wq hSw; go_simp; try rfl
  simp only [Act.put, List.setIfInBounds_toArray, List.set_cons_zero, List.set_cons_succ]
  refine take_at 3 (some 40) (v := ?_) rfl rfl (by kernel_rfl) (by kernel_rfl) (by kernel_rfl) (fun _ _ _ h => h) ⟨by rfl, ?_⟩ hS ?_
  rotate_left
  · intro wq hSw; obtain ⟨y0, y1, y2, y3, y4, y5, y6, y7⟩ := hSw; go_simp; try rfl
  simp only [Act.put, List.setIfInBounds_toArray, List.set_cons_zero, List.set_cons_succ]
  refine take_at 5 (some 42) (v := ?_) rfl rfl (by kernel_rfl) (by kernel_rfl) (by kernel_rfl) (fun _ _ _ h => h) ⟨by rfl, ?_⟩ hS ?_
  rotate_left
  · intro wq hSw; obtain ⟨y0, y1, y2, y3, y4, y5, y6, y7⟩ := hSw; go_simp; try rfl
  simp only [Act.put, List.setIfInBounds_toArray, List.set_cons_zero, List.set_cons_succ]
  refine wpAnyH_ready (rs := [4]) (by kernel_rfl) (by simp) ?_
  refine AllReadyH.cons rfl (fun K hK => ?_) AllReadyH.nil
  go_simp
  go_wp2_with fail
  refine (BK ⟨a6, c6, b6', d6⟩ _).mono ?_
  rintro e w9 ⟨rfl, b9⟩
  have CP9 := hide (CP8.out.below b9)
  have CQ9 := hide (CQ8.out.below b9)
  have B9 := hide b9
  clear b9
  go_wp2_with fail
  refine hK.out _ _ (⟨(CP9.out.get 0 _ rfl).1, (CP9.out.get 1 _ rfl).1, (CP9.out.get 2 _ rfl).1, (CP9.out.get 3 _ rfl).1, (CQ9.out.get 0 _ rfl).1, (CQ9.out.get 1 _ rfl).1, (CQ9.out.get 2 _ rfl).1, (CQ9.out.get 3 _ rfl).1⟩) (fun hS => ?_)
  clear hK K
  (try simp only [Act.put, List.setIfInBounds_toArray, List.set_cons_zero, List.set_cons_succ])
  refine wpAnyH_ready (rs := [6]) (by kernel_rfl) (by simp) ?_
  refine AllReadyH.cons rfl (fun K hK => ?_) AllReadyH.nil
  go_simp
  go_wp2_with fail
  refine (BK ⟨a, c, b, d⟩ _).mono ?_
  rintro e w10 ⟨rfl, b10⟩
  have CP10 := hide (CP9.out.below b10)
  have CQ10 := hide (CQ9.out.below b10)
  have B10 := hide (bnext B9.out b10 (Nat.le_refl _))
  clear b10
  go_wp2_with fail
  refine hK.out _ _ (⟨(CP10.out.get 0 _ rfl).1, (CP10.out.get 1 _ rfl).1, (CP10.out.get 2 _ rfl).1, (CP10.out.get 3 _ rfl).1, (CQ10.out.get 0 _ rfl).1, (CQ10.out.get 1 _ rfl).1, (CQ10.out.get 2 _ rfl).1, (CQ10.out.get 3 _ rfl).1⟩) (fun hS => ?_)
  clear hK K
  (try simp only [Act.put, List.setIfInBounds_toArray, List.set_cons_zero, List.set_cons_succ])
  refine wpAnyH_ready (rs := [7]) (by kernel_rfl) (by simp) ?_
  refine AllReadyH.cons rfl (fun K hK => ?_) AllReadyH.nil
  go_simp
  go_wp2_with fail
  refine (SM ⟨a6, c6, b6', d6⟩ ⟨a, c, b, d⟩ w10 (Lies.below LC7.out B10.out) (Lies.below LD7.out B10.out) (Lies.below LA7.out B10.out) (Lies.below LB7.out B10.out)).mono ?_
  rintro e w11 ⟨rfl, b11⟩
  have CP11 := hide (CP10.out.below b11)
  have CQ11 := hide (CQ10.out.below b11)
  have B11 := hide (bnext B10.out b11 (Nat.le_refl _))
  clear b11
  go_wp2_with fail
  refine hK.out _ _ (⟨(CP11.out.get 0 _ rfl).1, (CP11.out.get 1 _ rfl).1, (CP11.out.get 2 _ rfl).1, (CP11.out.get 3 _ rfl).1, (CQ11.out.get 0 _ rfl).1, (CQ11.out.get 1 _ rfl).1, (CQ11.out.get 2 _ rfl).1, (CQ11.out.get 3 _ rfl).1⟩) (fun hS => ?_)
  clear hK K
  (try simp only [Act.put, List.setIfInBounds_toArray, List.set_cons_zero, List.set_cons_succ])
  refine take_at 8 (some 45) (v := ?_) rfl rfl (by kernel_rfl) (by kernel_rfl) (by kernel_rfl) (fun _ _ _ h => h) ⟨by rfl, ?_⟩ hS ?_
  rotate_left
  · intro wq hSw; go_simp; try rfl
  simp only [Act.put, List.setIfInBounds_toArray, List.set_cons_zero, List.set_cons_succ]
  refine take_at 9 (some 46) (v := ?_) rfl rfl (by kernel_rfl) (by kernel_rfl) (by kernel_rfl) (fun _ _ _ h => h) ⟨by rfl, ?_⟩ hS ?_
  rotate_left
  · intro wq hSw; go_simp; try rfl
  simp only [Act.put, List.setIfInBounds_toArray, List.set_cons_zero, List.set_cons_succ]
  refine wpAnyH_done (by kernel_rfl) ?_ _
  have BW11 := hide (bnext BW7.out B11.out (Nat.le_refl _))
  have O11 := hide (Owns.below O7.out B11.out)
  have EN2 := EN w11 ⟨a6, c6, b6', d6⟩ (Lies.below LC7.out B11.out) (Lies.below LD7.out B11.out) BW11.out
  obtain ⟨r0, -⟩ := CQ11.out.get 0 _ rfl
  obtain ⟨r1, -⟩ := CQ11.out.get 1 _ rfl
  obtain ⟨r2, -⟩ := CQ11.out.get 2 _ rfl
  obtain ⟨r3, -⟩ := CQ11.out.get 3 _ rfl
  clear EN BK SM LA7 LB7 LC7 LD7 O7 BW7 CP8 CQ8 CP9 CQ9 CP10 CQ10 B9 B10 B11 hS
  go_wp2_with fail
  refine EN2.mono ?_
  rintro e w12 ⟨g', rfl, -, o12, b12⟩
  have o12' := Owns.below O11.out b12
  have cv1 : (convert 22 9 (.slice (some ⟨g', 0, none⟩) 1024 1024)).run Tryd.prog w12 = .ok (.string (strOf EB)) w12 := by
    have q := conv_any (some ⟨g', 0, none⟩) EB 1024 w12 (Owns.seen_at o12)
    rw [HLE.out] at q
    exact q
  have cv2 : (convert 22 9 (.slice (some ⟨g, 0, none⟩) 1024 1024)).run Tryd.prog w12 = .ok (.string (strOf EB)) w12 := by
    have q := conv_any (some ⟨g, 0, none⟩) EB 1024 w12 (Owns.seen_at o12')
    rw [HLE.out] at q
    exact q
  have BW12 := hide (bnext BW11.out b12 (Nat.le_refl _))
  have CP12 := hide (CP11.out.below b12)
  have DO := fun w' (bb : Below w12.heap.size w12 w') => DC g w' other (Owns.seen_at (Owns.below o12' bb)) (bnext BW12.out bb (Nat.le_refl _))
  generalize strOf EB = SL at *
  obtain ⟨r0', -⟩ := CP12.out.get 0 _ rfl
  clear EN2 o12 o12' b12 r0 r1 r2 r3 DC O11 CQ11 CP11 BW11
  by_cases k1 : other < 0
  · have d1 : decide (other < 0) = true := by simp [k1]
    go_wp2_with fail
    go_ret
    exact ⟨rfl, BW12.out⟩
  by_cases k2 : 64 ≤ other
  · have d1 : decide (other < 0) = false := by simp [k1]
    have d2 : decide (64 ≤ other) = true := by simp [k2]
    have d3 : decide (other ≥ 64) = true := by simp [k2]
    go_wp2_with fail
    go_ret
    exact ⟨rfl, BW12.out⟩
  have d1 : decide (other < 0) = false := by simp [k1]
  have d2 : decide (64 ≤ other) = false := by simp [k2]
  have d3 : decide (other ≥ 64) = false := by simp [k2]
  by_cases k3 : other = qn
  · subst k3
    go_wp2_with fail
    go_ret
    exact ⟨rfl, BW12.out⟩
  have d4 : (other == qn) = false := by simp [k3]
  have d5 : decide (other = qn) = false := by simp [k3]
  have DO1 := DO w12 (Below.refl _ _)
  obtain ⟨p2, -⟩ := CP12.out.get 2 _ rfl
  rcases HCASE.out with ⟨n1, n2, hd⟩ | ⟨n1, hd⟩
  · obtain ⟨hE, hP⟩ := hd ⟨by omega, by omega⟩
    rw [hE, hP] at DO1
    go_wp2_with fail
    refine DO1.mono ?_
    rintro e w13 ⟨v13, rfl, ho13, b13⟩
    obtain ⟨⟨a3, c3, b3, e3⟩, rfl, -, -, -, -⟩ := PageOut.open_ ho13
    simp only [pageV, List.length_nil]
    have CP13 := hide (CP12.out.below b13)
    have BW13 := hide (bnext BW12.out b13 (Nat.le_refl _))
    clear DO1 DO ho13 b13 p2 r0' cv1 cv2 hE hP hd
    go_upto_region 16 with fail
    refine named (P := Code.wp _ _ _ _) ?_
    intro w14 hw14
    have b14 : Below w13.heap.size w13 w14 := by rw [hw14]; exact alloc_below _ _
    have c14 : Cells w14 w13.heap.size [.int .i64 other, .int .i64 0, .slice a3 0 c3, .slice b3 0 e3] := by rw [hw14]; exact Cells.new w13 _ _
    have BW14 := hide (bnext BW13.out b14 (Nat.le_refl _))
    obtain ⟨p2, -⟩ := (CP13.out.below b14).get 2 _ rfl
    obtain ⟨p3, -⟩ := (CP13.out.below b14).get 3 _ rfl
    obtain ⟨X, hX⟩ : ∃ X, X = w13.heap.size := ⟨_, rfl⟩
    rw [← hX] at c14 ⊢
    obtain ⟨t0, -⟩ := c14.get 0 _ rfl
    obtain ⟨t1, -⟩ := c14.get 1 _ rfl
    obtain ⟨t2, -⟩ := c14.get 2 _ rfl
    obtain ⟨t3, -⟩ := c14.get 3 _ rfl
    rw [n1] at p2
    rw [n2] at p3
    clear hX hw14 b14 c14 n1 n2
    go_wp2_with fail
    go_ret
    exact ⟨by simp, BW14.out⟩
  · obtain ⟨hE, hP⟩ := hd ⟨by omega, by omega⟩ k3
    rw [hE, hP] at DO1
    go_wp2_with fail
    refine DO1.mono ?_
    rintro e w13 ⟨v13, rfl, ho13, b13⟩
    obtain ⟨⟨a3, c3, b3, e3⟩, rfl, -, -, -, -⟩ := PageOut.open_ ho13
    simp only [pageV, zeroP, List.length_nil]
    have CP13 := hide (CP12.out.below b13)
    have BW13 := hide (bnext BW12.out b13 (Nat.le_refl _))
    clear DO1 DO ho13 b13 p2 r0' cv1 cv2 hE hP hd
    go_upto_region 16 with fail
    refine named (P := Code.wp _ _ _ _) ?_
    intro w14 hw14
    have b14 : Below w13.heap.size w13 w14 := by rw [hw14]; exact alloc_below _ _
    have c14 : Cells w14 w13.heap.size [.int .i64 0, .int .i64 0, .slice a3 0 c3, .slice b3 0 e3] := by rw [hw14]; exact Cells.new w13 _ _
    have BW14 := hide (bnext BW13.out b14 (Nat.le_refl _))
    obtain ⟨p2, -⟩ := (CP13.out.below b14).get 2 _ rfl
    obtain ⟨p3, -⟩ := (CP13.out.below b14).get 3 _ rfl
    obtain ⟨X, hX⟩ : ∃ X, X = w13.heap.size := ⟨_, rfl⟩
    rw [← hX] at c14 ⊢
    obtain ⟨t0, -⟩ := c14.get 0 _ rfl
    obtain ⟨t2, -⟩ := c14.get 2 _ rfl
    obtain ⟨t3, -⟩ := c14.get 3 _ rfl
    generalize qc.length = nn at *
    generalize qg.length = mm at *
    have e1 : IntKind.i64.wrap ((nn : Int) + (mm : Int)) = (nn : Int) + (mm : Int) := by rw [IntKind.wrap_i64]; omega
    have e2 : (((nn : Int) + (mm : Int)) == 0) = false := by simp; omega
    clear hX hw14 b14 c14 n1
    go_wp2_with fail
    go_ret
    exact ⟨by simp, BW14.out⟩
end Go.Proofs.YtakjpljpdlhicaaDoor
