import Derived.Test.YtakjpljpdlhicaaDoorPg39
set_option linter.all false
namespace Go.Proofs.YtakjpljpdlhicaaDoor
open Go.RowKit Go.QK Go.Pg
set_option maxRecDepth 100000
def encL (p : PageM) : List Nat := if checkE p = 0 then encB p else []
def EncOut (w : World) (L : List Nat) (ce : Int) (e : Ending) (w' : World) : Prop := ∃ (a : Option Addr) (n c : Nat), e = .returned (.tuple #[.slice a n c, .int .i64 ce]) ∧ n = L.length ∧ Bytes w' a L ∧ Below w.heap.size w w'
theorem encode_all (p : PageM) (t : At) (w : World) (h : PageIn w p t) (ht : Tab w) : Calls Tryd.prog 11 #[pageV p t] w (EncOut w (encL p) (checkE p)) := by
  by_cases hk : checkE p = 0
  · refine (encode_ok p t w h ht hk).mono ?_
    rintro e w' ⟨g, rfl, -, o, b⟩
    exact ⟨some ⟨g, 0, none⟩, 1024, 1024, by rw [hk], by unfold encL; rw [if_pos hk, encB_length hk], by unfold encL; rw [if_pos hk]; exact Owns.seen_at o, b⟩
  · refine (encode_bad p t w h hk).mono ?_
    rintro e w' ⟨rfl, b⟩
    exact ⟨none, 0, 0, rfl, by unfold encL; rw [if_neg hk]; rfl, by unfold encL; rw [if_neg hk]; exact .inl rfl, b⟩
theorem rencode_all (p : PageM) (t : At) (w : World) (h : PageIn w p t) (l1 : p.cs.length ≤ 10000000000000) (l2 : p.gs.length ≤ 10000000000000) : Calls Tryd.prog 16 #[pageV p t] w (EncOut w (encL p) (checkE p)) := by
  by_cases hk : checkE p = 0
  · refine (rencode_ok p t w h.cs h.gs hk).mono ?_
    rintro e w' ⟨g, rfl, o, b⟩
    exact ⟨some ⟨g, 0, none⟩, 1024, 1024, by rw [hk], by unfold encL; rw [if_pos hk, encB_length hk], by unfold encL; rw [if_pos hk]; exact Owns.seen_at o, b⟩
  · refine (rencode_bad p t w h.cs h.gs l1 l2 hk).mono ?_
    rintro e w' ⟨rfl, b⟩
    exact ⟨none, 0, 0, rfl, by unfold encL; rw [if_neg hk]; rfl, by unfold encL; rw [if_neg hk]; exact .inl rfl, b⟩
set_option maxHeartbeats 16000000 in
theorem packs_any (p : PageM) (t : At) (w : World) (h : PageIn w p t) (ht : Tab w) (hm : Mks w) (hna : t.a = none → t.c = 0 ∧ p.cs.length = 0) (hnb : t.b = none → t.d = 0 ∧ p.gs.length = 0) (hl1 : p.cs.length * 40 + 40 ≤ 140737488355328) (hl2 : p.gs.length * 16 + 16 ≤ 140737488355328) :
    Calls Tryd.prog 6 #[pageV p t] w fun e w' => e = .returned (.bool true) ∧ Below w.heap.size w w' := by
  have KL := hide (fun w' (b : Below w.heap.size w w') => lent_any p t w' (hm.below b) (h.below b).cs (h.below b).gs hna hnb hl1 hl2)
  have KE := hide (fun (u : At) w' (b : Below w.heap.size w w') (h1 : Lies w' u.a (ctrsC p.cs)) (h2 : Lies w' u.b (grpsC p.gs)) => encode_all p u w' ⟨h1, h2, h.fit⟩ (ht.below b))
  have KD := hide (fun w' (b : Below w.heap.size w w') => rencode_all p t w' (h.below b) (by omega) (by omega))
  have KR := hide (fun w' => ref_any p t w')
  have KB := hide (fun (u : At) w' => back_any p u w')
  have KK := hide (fun (u : At) (g1 g2 B : Nat) w' (b : Below w.heap.size w w') (hl : Lent w' B p u g1 g2) => kept_any p t u B g1 g2 w' hl (hm.below b) (h.below b).cs (h.below b).gs (by omega) (by omega))
  have KC := hide (fun (u : At) w' (h1 : Lies w' u.a (ctrsC p.cs)) (h2 : Lies w' u.b (grpsC p.gs)) (h3 : u.a = none → u.c = 0 ∧ p.cs.length = 0) (h4 : u.b = none → u.d = 0 ∧ p.gs.length = 0) => copyW p u w' h1 h2 h3 h4 hl1 hl2)
  have KS := hide (fun (u : At) w' (b : Below w.heap.size w w') (h1 : Lies w' u.a (ctrsC p.cs)) (h2 : Lies w' u.b (grpsC p.gs)) => same_trueW p u t w' h1 h2 (h.below b).cs (h.below b).gs (by omega) (by omega))
  have HT := hide ht
  obtain ⟨ce, hce⟩ : ∃ z, z = checkE p := ⟨_, rfl⟩
  obtain ⟨L, hL⟩ : ∃ z, z = encL p := ⟨_, rfl⟩
  rw [← hce, ← hL] at KE KD
  clear hce hL h ht hm hna hnb hl1 hl2
  obtain ⟨num, lsn, cs, gs⟩ := p
  obtain ⟨ta, tc, tb, td⟩ := t
  simp only [pageV] at *
  obtain ⟨w2, hw2⟩ : ∃ w2, w2 = w.alloc (.cells #[.int .i64 num, .int .i64 lsn, .slice ta cs.length tc, .slice tb gs.length td] 34) := ⟨_, rfl⟩
  obtain ⟨b, hb⟩ : ∃ b, b = w.heap.size := ⟨_, rfl⟩
  have B2 := hide (show Below w.heap.size w w2 by rw [hw2]; exact alloc_below _ _)
  have C2 := hide (show Cells w2 b [.int .i64 num, .int .i64 lsn, .slice ta cs.length tc, .slice tb gs.length td] by rw [hw2, hb]; exact Cells.new w #[.int .i64 num, .int .i64 lsn, .slice ta cs.length tc, .slice tb gs.length td] 34)
  go_enter Tryd.func6, Tryd.ntmps6
  go_upto_region 1 with fail
  rw [← hw2, ← hb]
  clear hw2 hb
  go_wp2_with fail
  refine (first_any w2 (HT.out.below B2.out)).mono ?_
  rintro e w3 ⟨rfl, b3⟩
  have C3 := hide (C2.out.below b3)
  have B3 := hide (bnext B2.out b3 (Nat.le_refl _))
  clear b3 C2 B2
  obtain ⟨g0, -⟩ := C3.out.get 0 _ rfl
  obtain ⟨g1, -⟩ := C3.out.get 1 _ rfl
  obtain ⟨g2, -⟩ := C3.out.get 2 _ rfl
  obtain ⟨g3, -⟩ := C3.out.get 3 _ rfl
  go_wp2_with fail
  clear g0 g1 g2 g3
  refine (KL.out w3 B3.out).mono ?_
  rintro e w4 ⟨⟨ua, uc, ub, ud⟩, h1, h2, rfl, ln, b4⟩
  have LN := hide ln
  have C4 := hide (C3.out.below b4)
  have B4 := hide (bnext B3.out b4 (Nat.le_refl _))
  clear ln b4 C3 B3 KL
  simp only at *
  go_upto_region 4 with fail
  refine named (P := Code.wp _ _ _ _) ?_
  intro w5 hw5
  obtain ⟨q, hq⟩ : ∃ z, z = w4.heap.size := ⟨_, rfl⟩
  have CQ := hide (show Cells w5 q [.int .i64 num, .int .i64 lsn, .slice ua cs.length uc, .slice ub gs.length ud] by rw [hw5, hq]; exact Cells.new _ _ _)
  have A5 := hide (show Below w4.heap.size w4 w5 by rw [hw5]; exact alloc_below _ _)
  rw [← hq]
  clear hw5 hq
  have LN5 := hide (LN.out.below A5.out)
  have C5 := hide (C4.out.below A5.out)
  have B5 := hide (bnext B4.out A5.out (Nat.le_refl _))
  clear LN C4 B4 A5
  obtain ⟨l1, l2, l3, l4⟩ := LN5.out.lies
  have eu := LN5.out.ta
  have ev := LN5.out.tb
  simp only at l1 l2 l3 l4 eu ev
  have LL := hide (And.intro l1 l2)
  have HU := hide (And.intro eu ev)
  clear l1 l2 l3 l4 eu ev
  obtain ⟨g0, -⟩ := CQ.out.get 0 _ rfl
  obtain ⟨g1, -⟩ := CQ.out.get 1 _ rfl
  obtain ⟨g2, -⟩ := CQ.out.get 2 _ rfl
  obtain ⟨g3, -⟩ := CQ.out.get 3 _ rfl
  go_wp2_with fail
  clear g0 g1 g2 g3
  refine (KE.out ⟨ua, uc, ub, ud⟩ w5 B5.out LL.out.1 LL.out.2).mono ?_
  rintro e w6 ⟨xa, xn, xc, rfl, hxn, bx, b6⟩
  have BX := hide bx
  have HXN := hide hxn
  have LN6 := hide (LN5.out.below b6)
  have C6 := hide (C5.out.below b6)
  have CQ6 := hide (CQ.out.below b6)
  have B6 := hide (bnext B5.out b6 (Nat.le_refl _))
  clear bx b6 hxn LN5 C5 CQ B5 LL KE
  obtain ⟨g0, -⟩ := C6.out.get 0 _ rfl
  obtain ⟨g1, -⟩ := C6.out.get 1 _ rfl
  obtain ⟨g2, -⟩ := C6.out.get 2 _ rfl
  obtain ⟨g3, -⟩ := C6.out.get 3 _ rfl
  go_wp2_with fail
  clear g0 g1 g2 g3
  refine (KR.out w6).mono ?_
  rintro e w7 ⟨rfl, b7⟩
  have B7 := hide (bnext B6.out b7 (Nat.le_refl _))
  have V7 := hide b7
  clear b7
  go_wp2_with fail
  refine (KD.out w7 B7.out).mono ?_
  rintro e w8 ⟨ya, yn, yc, rfl, hyn, byy, b8⟩
  have V8 := hide (show Below w6.heap.size w6 w8 from V7.out.trans (b8.mono V7.out.size))
  have HYN := hide hyn
  have BY := hide byy
  have BX8 := hide (Seen.below BX.out V8.out)
  have LN8 := hide (LN6.out.below V8.out)
  have C8 := hide (C6.out.below V8.out)
  have CQ8 := hide (CQ6.out.below V8.out)
  have B8 := hide (bnext B6.out V8.out (Nat.le_refl _))
  clear byy b8 hyn V7 V8 BX LN6 C6 CQ6 B6 B7 KD
  have cv1 : (convert 22 9 (.slice xa xn xc)).run Tryd.prog w8 = .ok (.string (strOf L)) w8 := by have q := conv_any xa L xc w8 BX8.out; rw [← HXN.out] at q; exact q
  have cv2 : (convert 22 9 (.slice ya yn yc)).run Tryd.prog w8 = .ok (.string (strOf L)) w8 := by have q := conv_any ya L yc w8 BY.out; rw [← HYN.out] at q; exact q
  generalize strOf L = SL at *
  obtain ⟨g0, -⟩ := C8.out.get 0 _ rfl
  obtain ⟨g1, -⟩ := C8.out.get 1 _ rfl
  obtain ⟨g2, -⟩ := C8.out.get 2 _ rfl
  obtain ⟨g3, -⟩ := C8.out.get 3 _ rfl
  obtain ⟨k0, -⟩ := CQ8.out.get 0 _ rfl
  obtain ⟨k1, -⟩ := CQ8.out.get 1 _ rfl
  obtain ⟨k2, -⟩ := CQ8.out.get 2 _ rfl
  obtain ⟨k3, -⟩ := CQ8.out.get 3 _ rfl
  go_wp2_with fail
  clear g0 g1 g2 g3 k0 k1 k2 k3 cv1 cv2
  refine (KK.out ⟨ua, uc, ub, ud⟩ h1 h2 w3.heap.size w8 B8.out LN8.out).mono ?_
  rintro e w9 ⟨rfl, b9⟩
  have LN9 := hide (LN8.out.below b9)
  have C9 := hide (C8.out.below b9)
  have CQ9 := hide (CQ8.out.below b9)
  have B9 := hide (bnext B8.out b9 (Nat.le_refl _))
  clear b9 LN8 C8 CQ8 B8 BX8 BY
  obtain ⟨l1, l2, -, -⟩ := LN9.out.lies
  simp only at l1 l2
  have LL := hide (And.intro l1 l2)
  clear l1 l2
  obtain ⟨g0, -⟩ := CQ9.out.get 0 _ rfl
  obtain ⟨g1, -⟩ := CQ9.out.get 1 _ rfl
  obtain ⟨g2, -⟩ := CQ9.out.get 2 _ rfl
  obtain ⟨g3, -⟩ := CQ9.out.get 3 _ rfl
  go_wp2_with fail
  clear g0 g1 g2 g3
  refine (KC.out ⟨ua, uc, ub, ud⟩ w9 LL.out.1 LL.out.2 (fun q => by have := HU.out.1; simp only at q; rw [this] at q; cases q) (fun q => by have := HU.out.2; simp only at q; rw [this] at q; cases q)).mono ?_
  rintro e w10 ⟨v, rfl, po, b10⟩
  obtain ⟨⟨va, vc, vb, vd⟩, rfl, la, lb, -, -⟩ := PageOut.open_ po
  simp only [pageV] at *
  have VL := hide (And.intro la lb)
  have LN10 := hide (LN9.out.below b10)
  have C10 := hide (C9.out.below b10)
  have CQ10 := hide (CQ9.out.below b10)
  have B10 := hide (bnext B9.out b10 (Nat.le_refl _))
  clear po b10 la lb LN9 C9 CQ9 B9 KC LL
  go_upto_region 9 with fail
  refine named (P := Code.wp _ _ _ _) ?_
  intro wb hwb
  obtain ⟨d, hd⟩ : ∃ z, z = w10.heap.size := ⟨_, rfl⟩
  have CD := hide (show Cells wb d [.int .i64 num, .int .i64 lsn, .slice va cs.length vc, .slice vb gs.length vd] by rw [hwb, hd]; exact Cells.new _ _ _)
  have AB := hide (show Below w10.heap.size w10 wb by rw [hwb]; exact alloc_below _ _)
  rw [← hd]
  clear hwb hd
  have LNb := hide (LN10.out.below AB.out)
  have Cb := hide (C10.out.below AB.out)
  have CQb := hide (CQ10.out.below AB.out)
  have Bb := hide (bnext B10.out AB.out (Nat.le_refl _))
  have VB := hide (And.intro (VL.out.1.below AB.out) (VL.out.2.below AB.out))
  clear LN10 C10 CQ10 B10 AB VL
  refine wp_region_held_drew (S := fun wq => Below wb.heap.size wb wq) (by kernel_rfl) (Below.refl _ _).drew (fun hS => ?_)
  refine take_at 0 (some 42) (v := ?_) rfl rfl (by kernel_rfl) (by kernel_rfl) (by kernel_rfl) (fun _ _ _ h => h) ⟨by rfl, ?_⟩ hS ?_
  rotate_left
  · intro wq hSw; have qq := (CD.out.below hSw); obtain ⟨q0, _⟩ := qq.get 0 _ rfl; obtain ⟨q1, _⟩ := qq.get 1 _ rfl; obtain ⟨q2, _⟩ := qq.get 2 _ rfl; obtain ⟨q3, _⟩ := qq.get 3 _ rfl; clear qq; go_simp; try rfl
  simp only [Act.put, List.setIfInBounds_toArray, List.set_cons_zero, List.set_cons_succ]
  refine take_at 2 (some 44) (v := ?_) rfl rfl (by kernel_rfl) (by kernel_rfl) (by kernel_rfl) (fun _ _ _ h => h) ⟨by rfl, ?_⟩ hS ?_
  rotate_left
  · intro wq hSw; have qq := (Cb.out.below hSw); obtain ⟨q0, _⟩ := qq.get 0 _ rfl; obtain ⟨q1, _⟩ := qq.get 1 _ rfl; obtain ⟨q2, _⟩ := qq.get 2 _ rfl; obtain ⟨q3, _⟩ := qq.get 3 _ rfl; clear qq; go_simp; try rfl
  simp only [Act.put, List.setIfInBounds_toArray, List.set_cons_zero, List.set_cons_succ]
  refine wpAnyH_ready (rs := [1]) (by kernel_rfl) (by simp) ?_
  refine AllReadyH.cons rfl (fun K hK => ?_) AllReadyH.nil
  go_simp
  go_wp2_with fail
  refine (KB.out ⟨va, vc, vb, vd⟩ _).mono ?_
  rintro e x1 ⟨rfl, hh⟩
  go_wp2_with fail
  refine hK.out _ _ (hS.trans (hh.mono hS.size)) (fun hS => ?_)
  clear hK K
  (try simp only [Act.put, List.setIfInBounds_toArray, List.set_cons_zero, List.set_cons_succ])
  refine wpAnyH_ready (rs := [3]) (by kernel_rfl) (by simp) ?_
  refine AllReadyH.cons rfl (fun K hK => ?_) AllReadyH.nil
  go_simp
  go_wp2_with fail
  refine (KR.out _).mono ?_
  rintro e x2 ⟨rfl, hh2⟩
  go_wp2_with fail
  refine hK.out _ _ (hS.trans (hh2.mono hS.size)) (fun hS => ?_)
  clear hK K
  (try simp only [Act.put, List.setIfInBounds_toArray, List.set_cons_zero, List.set_cons_succ])
  refine wpAnyH_ready (rs := [4]) (by kernel_rfl) (by simp) ?_
  refine AllReadyH.cons rfl (fun K hK => ?_) AllReadyH.nil
  go_simp
  go_wp2_with fail
  refine (KS.out ⟨va, vc, vb, vd⟩ _ (bnext Bb.out hS (Nat.le_refl _)) (VB.out.1.below hS) (VB.out.2.below hS)).mono ?_
  rintro e x3 ⟨rfl, hh3⟩
  go_wp2_with fail
  refine hK.out _ _ (hS.trans (hh3.mono hS.size)) (fun hS => ?_)
  clear hK K
  (try simp only [Act.put, List.setIfInBounds_toArray, List.set_cons_zero, List.set_cons_succ])
  refine take_at 5 (some 47) (v := ?_) rfl rfl (by kernel_rfl) (by kernel_rfl) (by kernel_rfl) (fun _ _ _ h => h) ⟨by rfl, ?_⟩ hS ?_
  rotate_left
  · intro wq hSw; go_simp; try rfl
  simp only [Act.put, List.setIfInBounds_toArray, List.set_cons_zero, List.set_cons_succ]
  refine take_at 6 (some 48) (v := ?_) rfl rfl (by kernel_rfl) (by kernel_rfl) (by kernel_rfl) (fun _ _ _ h => h) ⟨by rfl, ?_⟩ hS ?_
  rotate_left
  · intro wq hSw; have qq := (CQb.out.below hSw); obtain ⟨q0, _⟩ := qq.get 0 _ rfl; obtain ⟨q1, _⟩ := qq.get 1 _ rfl; obtain ⟨q2, _⟩ := qq.get 2 _ rfl; obtain ⟨q3, _⟩ := qq.get 3 _ rfl; clear qq; go_simp; try rfl
  simp only [Act.put, List.setIfInBounds_toArray, List.set_cons_zero, List.set_cons_succ]
  refine take_at 7 (some 49) (v := ?_) rfl rfl (by kernel_rfl) (by kernel_rfl) (by kernel_rfl) (fun _ _ _ h => h) ⟨by rfl, ?_⟩ hS ?_
  rotate_left
  · intro wq hSw; have qq := (Cb.out.below hSw); obtain ⟨q0, _⟩ := qq.get 0 _ rfl; obtain ⟨q1, _⟩ := qq.get 1 _ rfl; obtain ⟨q2, _⟩ := qq.get 2 _ rfl; obtain ⟨q3, _⟩ := qq.get 3 _ rfl; clear qq; go_simp; try rfl
  simp only [Act.put, List.setIfInBounds_toArray, List.set_cons_zero, List.set_cons_succ]
  refine wpAnyH_ready (rs := [8]) (by kernel_rfl) (by simp) ?_
  refine AllReadyH.cons rfl (fun K hK => ?_) AllReadyH.nil
  go_simp
  go_wp2_with fail
  refine (KK.out ⟨ua, uc, ub, ud⟩ h1 h2 w3.heap.size _ (bnext Bb.out hS (Nat.le_refl _)) (LNb.out.below hS)).mono ?_
  rintro e x4 ⟨rfl, hh4⟩
  go_wp2_with fail
  refine hK.out _ _ (hS.trans (hh4.mono hS.size)) (fun hS => ?_)
  clear hK K
  (try simp only [Act.put, List.setIfInBounds_toArray, List.set_cons_zero, List.set_cons_succ])
  refine take_at 9 (some 51) (v := ?_) rfl rfl (by kernel_rfl) (by kernel_rfl) (by kernel_rfl) (fun _ _ _ h => h) ⟨by rfl, ?_⟩ hS ?_
  rotate_left
  · intro wq hSw; go_simp; try rfl
  simp only [Act.put, List.setIfInBounds_toArray, List.set_cons_zero, List.set_cons_succ]
  refine take_at 10 (some 2) (v := ?_) rfl rfl (by kernel_rfl) (by kernel_rfl) (by kernel_rfl) (fun _ _ _ h => h) ⟨by rfl, ?_⟩ hS ?_
  rotate_left
  · intro wq hSw; go_simp; try rfl
  simp only [Act.put, List.setIfInBounds_toArray, List.set_cons_zero, List.set_cons_succ]
  have SS := hide hS
  clear hS
  refine wpAnyH_done (by kernel_rfl) ?_ _
  go_wp2_with fail
  go_ret
  exact ⟨rfl, bnext Bb.out SS.out (Nat.le_refl _)⟩
end Go.Proofs.YtakjpljpdlhicaaDoor
