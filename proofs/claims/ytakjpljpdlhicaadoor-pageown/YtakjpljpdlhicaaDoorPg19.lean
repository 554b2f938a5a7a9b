import Derived.Test.YtakjpljpdlhicaaDoorPg18
namespace Go.Proofs.YtakjpljpdlhicaaDoor
open Go.RowKit Go.QK Go.Pg
set_option maxRecDepth 100000
theorem below_drewN {B n : Nat} {w w' : World} (h : Below B w w') : Below B w (w'.drewN n) := ⟨h.os, h.tape, h.output, h.size, h.block⟩
set_option maxHeartbeats 16000000 in
theorem first_any (w : World) (ht : Tab w) : Calls Tryd.prog 9 #[] w fun e w' => e = .returned (.bool true) ∧ Below w.heap.size w w' := by
  obtain ⟨w1, hw1⟩ : ∃ w1, w1 = w.alloc (.cells #[.int .i64 7, .int .i64 (-1)] 59) := ⟨_, rfl⟩
  have b1 : Below w.heap.size w w1 := by rw [hw1]; exact alloc_below _ _
  have l1 : Lies w1 (some ⟨w.heap.size, 0, none⟩) (grpsC p0.gs) := by
    have q := Cells.new w #[.int .i64 7, .int .i64 (-1)] 59
    rw [← hw1] at q
    exact .inr ⟨w.heap.size, 0, rfl, q.1, fun i hi => by rw [Nat.zero_add]; exact (q.get i _ (List.getElem?_eq_getElem hi)).1⟩
  have EN : Calls Tryd.prog 11 #[.agg #[.int .i64 2, .int .i64 258, .slice none 0 0, .slice (some ⟨w.heap.size, 0, none⟩) 1 1]] w1 fun e w' => ∃ g, e = .returned (.tuple #[.slice (some ⟨g, 0, none⟩) 1024 1024, .int .i64 0]) ∧ w1.heap.size ≤ g ∧ OwnB w' w1.heap.size (.slice (some ⟨g, 0, none⟩) 1024 1024) (encB p0) ∧ Below w1.heap.size w1 w' :=
    encode_ok p0 ⟨none, 0, some ⟨w.heap.size, 0, none⟩, 1⟩ w1 ⟨.inl rfl, l1, p0_fit⟩ (ht.below b1) p0_ok
  have HW := hide hw1
  have B1 := hide b1
  have HT := hide ht
  clear hw1 b1 l1 ht
  go_enter Tryd.func9, Tryd.ntmps9
  go_wp2_with fail
  rw [← HW.out]
  refine EN.mono ?_
  rintro e w2 ⟨g, rfl, hg, o2, b2⟩
  have hen : (encB p0).length = 1024 := encB_length p0_ok
  have hsee := Owns.seen_at o2
  have sl1 : ∀ w, (Instr.slice 22 (.slice (some ⟨g, 0, none⟩) 1024 1024) none (some (.int .i64 12)) none).run Tryd.prog w = .ok (.slice (some ⟨g, 0, none⟩) 12 1024) w := by
    intro w
    go_simp
  have sl2 : ∀ w, (Instr.slice 22 (.slice (some ⟨g, 0, none⟩) 1024 1024) (some (.int .i64 16)) (some (.int .i64 28)) none).run Tryd.prog w = .ok (.slice (some ⟨g, 16, none⟩) 12 1008) w := by
    intro w
    have q := slice_mid g 0 1024 1024 16 12 w (by decide) (by decide) (by decide)
    rw [Nat.zero_add] at q
    exact q
  have cv1 : (convert 22 9 (.slice (some ⟨g, 0, none⟩) 12 1024)).run Tryd.prog w2 = .ok (.string ⟨#[113, 2, 2, 0, 1, 0, 0, 0, 2, 1, 0, 0]⟩) w2 := by
    have q := conv_any (some ⟨g, 0, none⟩) ((encB p0).take 12) 1024 w2 (Bytes.take hsee 12)
    rw [p0_12, str12] at q
    exact q
  have cv2 : (convert 22 9 (.slice (some ⟨g, 16, none⟩) 12 1008)).run Tryd.prog w2 = .ok (.string ⟨#[7, 0, 0, 0, 255, 255, 255, 255, 255, 255, 255, 255]⟩) w2 := by
    have q0 := Bytes.drop (cap := 1024) hsee 16 (by rw [hen]; exact Nat.le_refl _)
    have hd : dropA (some ⟨g, 0, none⟩) 1024 16 = some ⟨g, 16, none⟩ := by unfold dropA; rw [if_neg (by decide), Option.map_some, addr_add, Nat.zero_add]
    rw [hd] at q0
    have q := conv_any (some ⟨g, 16, none⟩) (((encB p0).drop 16).take 12) 1008 w2 (Bytes.take q0 12)
    rw [p0_28, str28] at q
    exact q
  have bw2 := bnext B1.out b2 (Nat.le_refl _)
  have DC : Calls Tryd.prog 10 #[.slice (some ⟨g, 0, none⟩) 1024 1024, .int .i64 2] w2 fun e w' => ∃ v, e = .returned (.tuple #[v, .int .i64 0]) ∧ PageOut w' w2.heap.size v p0 ∧ Below w2.heap.size w2 w' := by
    have q := decode_any (some ⟨g, 0, none⟩) 1024 (encB p0) 2 w2 hsee (encB_bytes p0) (HT.out.below bw2) (by rw [hen]; exact Nat.le_refl _)
    rw [p0_dec.1, p0_dec.2, hen] at q
    exact q
  have BW2 := hide bw2
  clear EN hen hsee o2 b2 bw2 hg HT HW B1
  go_wp2_with fail
  refine DC.mono ?_
  rintro e w3 ⟨v, rfl, ho, b3⟩
  obtain ⟨⟨ta, tc, tb, td⟩, rfl, la, lb, na, nb⟩ := PageOut.open_ ho
  simp only [p0] at ho la lb na nb
  obtain ⟨bb, oo, rfl, hbb, hcc⟩ : ∃ b off, tb = some ⟨b, off, none⟩ ∧ b < w3.heap.size ∧ (w3.cell? ⟨b, off, none⟩ = some (.int .i64 7) ∧ w3.cell? ⟨b, off + 1, none⟩ = some (.int .i64 (-1))) := by
    rcases lb with h | ⟨b, off, h1, h2, h3⟩
    · simp [rowsC, grpC] at h
    · exact ⟨b, off, h1, h2, h3 0 (by simp [rowsC, grpC]), h3 1 (by simp [rowsC, grpC])⟩
  have CP := fun w' (b : Below w3.heap.size w3 w') => copy_any p0 ⟨ta, tc, some ⟨bb, oo, none⟩, td⟩ w' (Lies.below la b) (Lies.below lb b) (fun q => ⟨na q, rfl⟩) (by nofun) (by decide) (by decide)
  have CP : ∀ w', Below w3.heap.size w3 w' → Calls Tryd.prog 19 #[.agg #[.int .i64 2, .int .i64 258, .slice ta 0 tc, .slice (some ⟨bb, oo, none⟩) 1 td]] w' fun e w'' => ∃ v, e = .returned v ∧ PageOut w'' w'.heap.size v p0 ∧ Below w'.heap.size w' w'' := CP
  simp only [p0]
  have BW3 := hide (bnext BW2.out b3 (Nat.le_refl _))
  have HC := hide hcc
  have HBB := hide hbb
  clear DC sl1 sl2 cv1 cv2 ho la lb na nb b3 hcc
  go_wp2_with fail
  refine (CP _ (alloc_below _ _)).mono ?_
  rintro e w5 ⟨v, rfl, ho, b5⟩
  obtain ⟨⟨ta', tc', tb', td'⟩, rfl, -, lb, -, -⟩ := PageOut.open_ ho
  simp only [p0] at lb
  obtain ⟨bb', oo', rfl, hbb', hcc'⟩ : ∃ b off, tb' = some ⟨b, off, none⟩ ∧ b < w5.heap.size ∧ (w5.cell? ⟨b, off, none⟩ = some (.int .i64 7) ∧ w5.cell? ⟨b, off + 1, none⟩ = some (.int .i64 (-1))) := by
    rcases lb with h | ⟨b, off, h1, h2, h3⟩
    · simp [rowsC, grpC] at h
    · exact ⟨b, off, h1, h2, h3 0 (by simp [rowsC, grpC]), h3 1 (by simp [rowsC, grpC])⟩
  have c5 := (Cells.new w3 #[.int .i64 2, .int .i64 258, .slice ta 0 tc, .slice (some ⟨bb, oo, none⟩) 1 td] 27).below b5
  have hc5 : w5.cell? ⟨bb, oo, none⟩ = some (.int .i64 7) ∧ w5.cell? ⟨bb, oo + 1, none⟩ = some (.int .i64 (-1)) := by
    have q := bnext (alloc_below w3 _) b5 (Nat.le_refl _)
    exact ⟨(q.cell (p := ⟨bb, oo, none⟩) HBB.out).trans HC.out.1, (q.cell (p := ⟨bb, oo + 1, none⟩) HBB.out).trans HC.out.2⟩
  have hb5 : bb < w5.heap.size := by have := b5.size; have := HBB.out; simp at *; omega
  have bw5 := bnext (bnext BW3.out (alloc_below w3 _) (Nat.le_refl _)) b5 (Nat.le_refl _)
  simp only [p0]
  have C5 := hide c5
  have HC5 := hide hc5
  have HC5' := hide hcc'
  have HB5 := hide hb5
  have HB5' := hide hbb'
  have BW5 := hide bw5
  clear c5 hc5 hcc' hb5 hbb' bw5 ho lb b5 CP HC HBB BW3
  obtain ⟨G, hG⟩ : ∃ G, G = w3.heap.size := ⟨_, rfl⟩
  rw [← hG] at C5
  have HG := hide hG
  clear hG
  go_upto_region 6 with fail
  rw [← HG.out]
  refine named (P := Code.wp _ _ _ _) ?_
  intro w6 hw6
  have b6 : Below w5.heap.size w5 w6 := by rw [hw6]; exact alloc_below _ _
  have c6 := C5.out.below b6
  have d6 : Cells w6 w5.heap.size [.int .i64 2, .int .i64 258, .slice ta' 0 tc', .slice (some ⟨bb', oo', none⟩) 1 td'] := by rw [hw6]; exact Cells.new w5 _ _
  have i0 := (b6.cell (p := ⟨bb, oo, none⟩) HB5.out).trans HC5.out.1
  have i1 := (b6.cell (p := ⟨bb, oo + 1, none⟩) HB5.out).trans HC5.out.2
  have i2 := (b6.cell (p := ⟨bb', oo', none⟩) HB5'.out).trans HC5'.out.1
  have i3 := (b6.cell (p := ⟨bb', oo' + 1, none⟩) HB5'.out).trans HC5'.out.2
  obtain ⟨g1, -⟩ := c6.get 1 _ rfl
  obtain ⟨g3, -⟩ := c6.get 3 _ rfl
  obtain ⟨f0, -⟩ := d6.get 0 _ rfl
  obtain ⟨f3, -⟩ := d6.get 3 _ rfl
  have BF := hide (bnext BW5.out b6 (Nat.le_refl _))
  obtain ⟨F, hF⟩ : ∃ F, F = w5.heap.size := ⟨_, rfl⟩
  rw [← hF] at f0 f3 ⊢
  clear hF hw6 b6 c6 d6 C5 HC5 HC5' HB5 HB5' HG
  go_quiet (fail)
  go_wp2_with fail
  go_ret
  exact ⟨rfl, below_drewN BF.out⟩

set_option maxHeartbeats 16000000 in
theorem oneForm_any (a : Option Addr) (c : Nat) (l : List Nat) (number : Int) (w : World) (hs : Bytes w a l) (hb : AllB l) (ht : Tab w) (hc : l.length ≤ c) :
    Calls Tryd.prog 3 #[.slice a l.length c, .int .i64 number] w fun e w' => e = .returned (.bool true) ∧ Below w.heap.size w w' := by
  have DC := fun w' (b : Below w.heap.size w w') => decode_any a c l number w' (hs.below b) hb (ht.below b) hc
  obtain ⟨DE, hDE⟩ : ∃ e, e = decE l number := ⟨_, rfl⟩
  obtain ⟨DP, hDP⟩ : ∃ e, e = decP l number := ⟨_, rfl⟩
  simp only [← hDE, ← hDP] at DC
  have HS := hide hs
  have HT := hide ht
  by_cases hz : DE = 0
  · have ED := enc_dec hb (number := number) (by rw [← hDE]; exact hz)
    rw [← hDP] at ED
    obtain ⟨hck, hen, hnum, hfit⟩ := ED
    subst hz
    obtain ⟨num, lsn, cs, gs⟩ := DP
    simp only at hnum
    subst hnum
    have HCK := hide hck
    have HEN := hide hen
    have HFI := hide hfit
    have hel := encB_length hck
    rw [hen] at hel
    have HEL := hide hel
    clear hck hen hfit hDE hDP hs ht hb hc hel
    obtain ⟨n, hn⟩ : ∃ n, n = l.length := ⟨_, rfl⟩
    rw [← hn] at DC ⊢
    have HN := hide hn
    clear hn
    go_enter Tryd.func3, Tryd.ntmps3
    go_wp2_with fail
    refine (first_any w HT.out).mono ?_
    rintro e w1 ⟨rfl, b1⟩
    go_wp2_with fail
    refine (DC w1 b1).mono ?_
    rintro e w2 ⟨v, rfl, ho, b2⟩
    obtain ⟨⟨ta, tc, tb, td⟩, rfl, la, lb, na, nb⟩ := PageOut.open_ ho
    have bw2 := bnext b1 b2 (Nat.le_refl _)
    have EN := fun w' (b : Below w2.heap.size w2 w') => encode_ok ⟨num, lsn, cs, gs⟩ ⟨ta, tc, tb, td⟩ w' ⟨Lies.below la b, Lies.below lb b, HFI.out⟩ (HT.out.below (bnext bw2 b (Nat.le_refl _))) HCK.out
    simp only [pageV, HEN.out] at EN ⊢
    have BW2 := hide bw2
    clear ho la lb na nb b1 b2 bw2 DC
    go_wp2_with fail
    refine (EN _ (alloc_below _ _)).mono ?_
    rintro e w4 ⟨g, rfl, hg, o4, b4⟩
    have c4 := (Cells.new w2 #[.int .i64 num, .int .i64 lsn, .slice ta cs.length tc, .slice tb gs.length td] 27).below b4
    obtain ⟨g0, -⟩ := c4.get 0 _ rfl
    have bw4 := bnext (bnext BW2.out (alloc_below w2 _) (Nat.le_refl _)) b4 (Nat.le_refl _)
    have cv1 : (convert 22 9 (.slice (some ⟨g, 0, none⟩) 1024 1024)).run Tryd.prog w4 = .ok (.string (strOf l)) w4 := by
      have q := conv_any (some ⟨g, 0, none⟩) l 1024 w4 (Owns.seen_at o4)
      rw [HEL.out] at q
      exact q
    have cv2 : (convert 22 9 (.slice a n c)).run Tryd.prog w4 = .ok (.string (strOf l)) w4 := by
      rw [HN.out]
      exact conv_any a l c w4 (HS.out.below bw4)
    have BW4 := hide bw4
    generalize strOf l = SL at *
    clear o4 b4 c4 bw4 hg EN
    go_wp2_with fail
    go_ret
    exact ⟨by simp, BW4.out⟩
  · have hP : DP = zeroP := by rw [hDP]; unfold decP; rw [← hDE, if_pos hz]
    have hd : (DE != 0) = true := by simp; exact hz
    subst hP
    clear hDE hDP hs ht hb hc
    generalize l.length = n at *
    go_enter Tryd.func3, Tryd.ntmps3
    go_wp2_with fail
    refine (first_any w HT.out).mono ?_
    rintro e w1 ⟨rfl, b1⟩
    go_wp2_with fail
    refine (DC w1 b1).mono ?_
    rintro e w2 ⟨v, rfl, ho, b2⟩
    obtain ⟨⟨ta, tc, tb, td⟩, rfl, -, -, -, -⟩ := PageOut.open_ ho
    have BW2 := hide (bnext b1 b2 (Nat.le_refl _))
    simp only [pageV, zeroP, List.length_nil]
    clear ho b1 b2 DC
    go_wp2_with fail
    go_ret
    exact ⟨by simp, bnext BW2.out (alloc_below _ _) (Nat.le_refl _)⟩
end Go.Proofs.YtakjpljpdlhicaaDoor
