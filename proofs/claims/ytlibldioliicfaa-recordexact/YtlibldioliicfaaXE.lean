import Derived.Test.YtlibldioliicfaaXD
namespace Go.Proofs.Ytlibldioliicfaa
open Go.RowKit Go.QK
set_option maxRecDepth 100000
set_option maxHeartbeats 0 in
theorem rDec_3 (a0 : Option Addr) (l : List Nat) (cap : Nat) (w : World) (hs : Bytes w a0 l) (ha : a0 = none → cap = 0) (hl : l.length ≤ 1000000) (hb : AllB l) (s1 : RS) (hu : uM 18446744073709551615 l ⟨0, 0⟩ = (3, s1)) (he : s1.e = 0) :
    Calls Try.prog 37 #[.slice a0 l.length cap] w fun e w' => ∃ v, e = .returned (.tuple #[v, .int .i64 (((restM l 3 s1).2 : Nat) : Int)]) ∧ RecOut w.heap.size w' v (restM l 3 s1).1 ∧ Below w.heap.size w w' := by
  obtain ⟨dm, hdm⟩ : ∃ q, q = restM l 3 s1 := ⟨_, rfl⟩
  rw [← hdm]
  unfold restM at hdm
  obtain ⟨kk, hkk⟩ : ∃ kk : Nat, kk = 3 := ⟨_, rfl⟩
  have e1 : hTx (kk : Int) = true := by rw [hkk]; rfl
  have e2 : hPrev (kk : Int) = true := by rw [hkk]; rfl
  have e3 : hCtr (kk : Int) = true := by rw [hkk]; rfl
  have e4 : hFirst (kk : Int) = false := by rw [hkk]; rfl
  have e5 : hDelta (kk : Int) = true := by rw [hkk]; rfl
  have e6 : hPts (kk : Int) = false := by rw [hkk]; rfl
  obtain ⟨RR, hRR⟩ : ∃ q, q = readM (kk : Int) l s1 := ⟨_, rfl⟩
  have hRR' : RR = readM ((3 : Nat) : Int) l s1 := by rw [hRR, hkk]
  rw [← hRR'] at hdm
  simp only [readM, condM, e1, e2, e3, e4, e5, e6, bindM, pureM, cond_true, cond_false, zeroR] at hRR
  rw [hkk] at hRR
  clear e1 e2 e3 e4 e5 e6 hkk hRR' kk
  have HRR := hide hRR
  have HDM := hide hdm
  clear hRR hdm
  have B0 := alloc_below w (.cells #[.int .i64 0, .int .i64 0, .int .i64 0, .int .i64 0, .int .i64 0, .int .i64 0, .int .i64 0, .int .i64 0, .int .i64 0, .int .i64 0, .int .i64 0, .int .i64 0, .int .i64 0, .int .i64 0, .slice none 0 0, .slice none 0 0, .int .i64 0] 36)
  have X0 := RBox.new w #[.int .i64 0, .int .i64 0, .int .i64 0, .int .i64 0, .int .i64 0, .int .i64 0, .int .i64 0, .int .i64 0, .int .i64 0, .int .i64 0, .int .i64 0, .int .i64 0, .int .i64 0, .int .i64 0, .slice none 0 0, .slice none 0 0, .int .i64 0] 36
  have hs0 := Seen.below hs B0
  generalize hw0 : w.alloc (.cells #[.int .i64 0, .int .i64 0, .int .i64 0, .int .i64 0, .int .i64 0, .int .i64 0, .int .i64 0, .int .i64 0, .int .i64 0, .int .i64 0, .int .i64 0, .int .i64 0, .int .i64 0, .int .i64 0, .slice none 0 0, .slice none 0 0, .int .i64 0] 36) = w0 at *
  have F1 := hide (rNew_any a0 l cap w0 hs0 ha hl hb)
  have F2 := hide (fun p a c w' h => rU_r 18446744073709551615 p a c l ⟨0, 0⟩ w' h)
  rw [hu] at F2
  simp only at F2
  have lt0 := X0.lt
  have HX0 := hide X0
  have HB0 := hide B0
  clear hs hs0 ha hl hb X0 B0
  go_enter Try.func37, Try.ntmps37
  go_wp2_with fail
  clear hw0
  refine F1.out.mono ?_
  rintro e w1 ⟨p, a, c, rfl, hp, hpa, hrd, b1⟩
  have D1 := hide (show DSt w p a c l w1 ⟨0, 0⟩ from ⟨bnext HB0.out b1 (Nat.le_refl _), hrd, HX0.out.below b1, by omega, by
    rintro k (rfl | ⟨hl, ad, q, rfl⟩)
    · omega
    · have := hpa ad q; omega⟩)
  clear hp hpa hrd b1 F1 HX0 HB0 lt0
  go_wp2_with fail
  refine (F2.out p a c _ D1.out.rd).mono ?_
  rintro e w2 ⟨rfl, r2⟩
  have D2 := hide (D1.out.next r2)
  clear r2 D1 F2
  have F3 := hide (rBad_any p a c l s1 w2 D2.out.rd)
  have hbt : decide (s1.e ≠ 0) = false := by simp [he]
  rw [hbt] at F3
  clear hbt he
  go_wp2_with fail
  refine F3.out.mono ?_
  rintro e' wq ⟨rfl, hq⟩
  obtain rfl : w2 = wq := hq.symm
  clear F3
  have lt2 := D2.out.bx.lt
  have rlt := fun k q => Rd.old D2.out.rd k q
  have D2' := D2.out.below (alloc_below w2 (.cells #[.int .i64 0, .int .i64 0, .int .i64 0, .int .i64 0, .int .i64 0, .int .i64 0, .int .i64 0, .int .i64 0, .int .i64 0, .int .i64 0, .int .i64 0, .int .i64 0, .int .i64 0, .int .i64 0, .slice none 0 0, .slice none 0 0, .int .i64 0] 36))
  go_upto_region 8 with (refine wpList_store36 (RBox.new _ _ _) rfl rfl rfl rfl rfl ?_; intro w3 R3 hk3)
  have nr3 : ¬ rS p a l w2.heap.size := fun r => by have := rlt _ r; omega
  have X := hide (XSt.mk (D2'.touch hk3 (fun k q => ⟨by have e : k = w2.heap.size := q; omega, fun r => by have e : k = w2.heap.size := q; rw [e] at r; exact nr3 r⟩)) R3 lt2 nr3)
  generalize w2.heap.size = b6 at *
  clear D2' R3 hk3 rlt D2
  have F := fun w' h => rNum_r p a c l s1 w' h
  generalize hq1 : takeM l s1 = q1 at F
  obtain ⟨n1, t1⟩ := q1
  simp only at F
  have F := hide F
  have HQ1 := hide hq1
  clear hq1
  have c1 := (X.out.cell 1 _ rfl).1
  go_wp2_with fail
  refine (F.out _ X.out.d.rd).mono ?_
  rintro e v1 ⟨rfl, r⟩
  replace X := hide (X.out.next r)
  clear r F c1
  obtain ⟨x2, y2⟩ := X.out.cell 2 _ rfl
  have c1 := (X.out.cell 1 _ rfl).1
  go_upto_region 22 with fail
  have X2 := (X.out.set 2 (.int .i64 (n1 : Int)))
  simp only [List.setIfInBounds_toArray, List.set_cons_zero, List.set_cons_succ] at X2
  replace X := hide X2
  generalize (v1.setCell ⟨b6, 2, none⟩ (.int .i64 (n1 : Int))) = z1 at *
  clear X2 c1 x2 y2
  have F := fun w' h => rNum_r p a c l t1 w' h
  generalize hq2 : takeM l t1 = q2 at F
  obtain ⟨n2, t2⟩ := q2
  simp only at F
  have F := hide F
  have HQ2 := hide hq2
  clear hq2
  have c1 := (X.out.cell 1 _ rfl).1
  go_wp2_with fail
  refine (F.out _ X.out.d.rd).mono ?_
  rintro e v2 ⟨rfl, r⟩
  replace X := hide (X.out.next r)
  clear r F c1
  obtain ⟨x3, y3⟩ := X.out.cell 3 _ rfl
  have c1 := (X.out.cell 1 _ rfl).1
  go_upto_region 23 with fail
  have X2 := (X.out.set 3 (.int .i64 (n2 : Int)))
  simp only [List.setIfInBounds_toArray, List.set_cons_zero, List.set_cons_succ] at X2
  replace X := hide X2
  generalize (v2.setCell ⟨b6, 3, none⟩ (.int .i64 (n2 : Int))) = z2 at *
  clear X2 c1 x3 y3
  have F := fun w' h => rSlot_r p a c l t2 w' h
  generalize hq3 : slotM l t2 = q3 at F
  obtain ⟨n3, t3⟩ := q3
  obtain ⟨n3a, n3b⟩ := n3
  simp only at F
  have F := hide F
  have HQ3 := hide hq3
  clear hq3
  have c1 := (X.out.cell 1 _ rfl).1
  go_wp2_with fail
  refine (F.out _ X.out.d.rd).mono ?_
  rintro e v3 ⟨rfl, r⟩
  replace X := hide (X.out.next r)
  clear r F c1
  obtain ⟨x4, y4⟩ := X.out.cell 4 _ rfl
  obtain ⟨x5, y5⟩ := X.out.cell 5 _ rfl
  have c1 := (X.out.cell 1 _ rfl).1
  go_upto_region 24 with fail
  have X2 := ((X.out.set 4 (.int .i64 (n3a : Int))).set 5 (.int .i64 (n3b : Int)))
  simp only [List.setIfInBounds_toArray, List.set_cons_zero, List.set_cons_succ] at X2
  replace X := hide X2
  generalize ((v3.setCell ⟨b6, 4, none⟩ (.int .i64 (n3a : Int))).setCell ⟨b6, 5, none⟩ (.int .i64 (n3b : Int))) = z3 at *
  clear X2 c1 x4 y4 x5 y5
  have F := fun w' h => rSlot_r p a c l t3 w' h
  generalize hq4 : slotM l t3 = q4 at F
  obtain ⟨n4, t4⟩ := q4
  obtain ⟨n4a, n4b⟩ := n4
  simp only at F
  have F := hide F
  have HQ4 := hide hq4
  clear hq4
  have c1 := (X.out.cell 1 _ rfl).1
  go_wp2_with fail
  refine (F.out _ X.out.d.rd).mono ?_
  rintro e v4 ⟨rfl, r⟩
  replace X := hide (X.out.next r)
  clear r F c1
  obtain ⟨x6, y6⟩ := X.out.cell 6 _ rfl
  obtain ⟨x7, y7⟩ := X.out.cell 7 _ rfl
  have c1 := (X.out.cell 1 _ rfl).1
  go_upto_region 25 with fail
  have X2 := ((X.out.set 6 (.int .i64 (n4a : Int))).set 7 (.int .i64 (n4b : Int)))
  simp only [List.setIfInBounds_toArray, List.set_cons_zero, List.set_cons_succ] at X2
  replace X := hide X2
  generalize ((v4.setCell ⟨b6, 6, none⟩ (.int .i64 (n4a : Int))).setCell ⟨b6, 7, none⟩ (.int .i64 (n4b : Int))) = z4 at *
  clear X2 c1 x6 y6 x7 y7
  have F := fun w' h => rNum_r p a c l t4 w' h
  generalize hq5 : takeM l t4 = q5 at F
  obtain ⟨n5, t5⟩ := q5
  simp only at F
  have F := hide F
  have HQ5 := hide hq5
  clear hq5
  have c1 := (X.out.cell 1 _ rfl).1
  go_wp2_with fail
  refine (F.out _ X.out.d.rd).mono ?_
  rintro e v5 ⟨rfl, r⟩
  replace X := hide (X.out.next r)
  clear r F c1
  obtain ⟨x9, y9⟩ := X.out.cell 9 _ rfl
  have c1 := (X.out.cell 1 _ rfl).1
  go_upto_region 26 with fail
  have X2 := (X.out.set 9 (.int .i64 (n5 : Int)))
  simp only [List.setIfInBounds_toArray, List.set_cons_zero, List.set_cons_succ] at X2
  replace X := hide X2
  generalize (v5.setCell ⟨b6, 9, none⟩ (.int .i64 (n5 : Int))) = z5 at *
  clear X2 c1 x9 y9
  have F := fun w' h => rS_r p a c l t5 w' h
  generalize hq6 : signM l t5 = q6 at F
  obtain ⟨n6, t6⟩ := q6
  simp only at F
  have F := hide F
  have HQ6 := hide hq6
  clear hq6
  have c1 := (X.out.cell 1 _ rfl).1
  go_wp2_with fail
  refine (F.out _ X.out.d.rd).mono ?_
  rintro e v6 ⟨rfl, r⟩
  replace X := hide (X.out.next r)
  clear r F c1
  obtain ⟨x8, y8⟩ := X.out.cell 8 _ rfl
  have c1 := (X.out.cell 1 _ rfl).1
  go_upto_region 34 with fail
  have X2 := (X.out.set 8 (.int .i64 n6))
  simp only [List.setIfInBounds_toArray, List.set_cons_zero, List.set_cons_succ] at X2
  replace X := hide X2
  generalize (v6.setCell ⟨b6, 8, none⟩ (.int .i64 n6)) = z6 at *
  clear X2 c1 x8 y8
  have hR := HRR.out
  simp only [HQ1.out, HQ2.out, HQ3.out, HQ4.out, HQ5.out, HQ6.out] at hR
  have hd := HDM.out
  rw [hR] at hd
  simp only at hd
  replace HDM := hide hd
  have C1 := fun w' a b => rCheck_any (RecM.mk 0 3 ((n1 : Int)) ((n2 : Int)) ((n3a : Int)) ((n3b : Int)) ((n4a : Int)) ((n4b : Int)) n6 ((n5 : Int)) 0 0 0 0 [] [] 0) none none 0 0 w' a b
  simp only [recC, List.length_nil] at C1
  clear hR hd HRR HQ1 HQ2 HQ3 HQ4 HQ5 HQ6
  have HL : Hid (∀ w', Lies w' none (liveCs [])) := hide (fun _ => .inl rfl)
  have HDL : Hid (∀ w', Lies w' none (dirtyCs [])) := hide (fun _ => .inl rfl)
  have c1 := (X.out.cell 1 _ rfl).1
  have hzz : Hid (t6.e ≠ 0 → endE l t6.pos t6.e ≠ 0) := hide (fun h => by unfold endE; simp [h])
  go_wp2_with fail
  refine (rEnd_r p a c l t6 _ X.out.d.rd).mono ?_
  rintro e w5 ⟨rfl, r5⟩
  replace X := hide (X.out.next r5)
  clear r5 c1
  have F6 := rBad_any p a c l ⟨t6.pos, endE l t6.pos t6.e⟩ w5 X.out.d.rd
  simp only at F6
  generalize endE l t6.pos t6.e = ee at *
  by_cases hee : ee = 0
  · subst hee
    have hbt : decide ((0 : Nat) ≠ 0) = false := rfl
    rw [hbt] at F6
    replace F6 := hide F6
    clear hbt
    have C1 := hide (C1 w5 (HL.out _) (HDL.out _))
    generalize chkE (RecM.mk 0 3 ((n1 : Int)) ((n2 : Int)) ((n3a : Int)) ((n3b : Int)) ((n4a : Int)) ((n4b : Int)) n6 ((n5 : Int)) 0 0 0 0 [] [] 0) = ce at *
    clear hzz
    go_wp2_with fail
    refine F6.out.mono ?_
    rintro e' wq ⟨rfl, hq⟩
    obtain rfl : w5 = wq := hq.symm
    clear F6
    go_wp2_with (refine wpList_load36 X.out.x rfl rfl ?_)
    refine C1.out.mono ?_
    rintro e w7 ⟨rfl, b7⟩
    replace X := hide (X.out.below b7)
    clear b7 C1
    by_cases hce : ce = 0
    · subst hce
      have hd := HDM.out
      simp only [ne_eq, not_true_eq_false, if_false] at hd
      subst hd
      go_wp2_with (first | refine wpList_load36 X.out.x rfl rfl ?_ | (refine wpList_store36 X.out.d.bx rfl rfl rfl rfl rfl ?_; intro wf hbf hkf))
      exact bodyPost_ret (results_box2 rfl _ _ rfl hbf rfl) rfl ⟨_, rfl, ⟨none, none, 0, 0, rfl, World.ownsRow_nil _ _ _ _, World.ownsRow_nil _ _ _ _, nofun⟩, X.out.d.bel.trans (hkf.below X.out.d.bel.size (fun k hk q => by omega))⟩
    · have hd := HDM.out
      simp only [ne_eq, not_true_eq_false, if_false, hce, not_false_eq_true, if_true] at hd
      subst hd
      have hce1 : ¬ ((ce : Int) = 0) := by omega
      go_wp2_with (refine wpList_store36 X.out.d.bx rfl rfl rfl rfl rfl ?_; intro wf hbf hkf)
      exact bodyPost_ret (results_box2 rfl _ _ rfl hbf rfl) rfl ⟨_, rfl, RecOut.zero _ _, X.out.d.bel.trans (hkf.below X.out.d.bel.size (fun k hk q => by omega))⟩
  · have hd := HDM.out
    simp only [ne_eq, hee, not_false_eq_true, if_true] at hd
    subst hd
    have hbt : decide (ee ≠ 0) = true := by simp [hee]
    rw [hbt] at F6
    replace F6 := hide F6
    clear hbt C1
    have D5 := hide X.out.d
    clear X
    go_wp2_with fail
    refine F6.out.mono ?_
    rintro e' wq ⟨rfl, hq⟩
    obtain rfl : w5 = wq := hq.symm
    clear F6
    go_upto_region 36 with fail
    have FX := hide (show w5.cell? ⟨p, 2, none⟩ = some (.int .i64 (ee : Int)) from (D5.out.rd.1.get 2 _ rfl).1)
    have D5e := hide (D5.out.below (Below.refl _ _).drew)
    refine wp_region_held_drew (S := fun wq => wq.cell? ⟨p, 2, none⟩ = some (.int .i64 (ee : Int))) (by kernel_rfl) FX.out (fun hS => ?_)
    generalize w5.drew = we at *
    clear FX
    refine take_at 0 (some 107) (v := ?_) rfl rfl (by kernel_rfl) (by kernel_rfl) (by kernel_rfl) (fun _ _ _ h => h) ⟨by rfl, ?_⟩ hS ?_
    rotate_left
    · intro wq hSw; go_simp; try rfl
    simp only [Act.put, List.setIfInBounds_toArray, List.set_cons_zero, List.set_cons_succ]
    refine take_at 1 (some 108) (v := ?_) rfl rfl (by kernel_rfl) (by kernel_rfl) (by kernel_rfl) (fun _ _ _ h => h) ⟨by rfl, ?_⟩ hS ?_
    rotate_left
    · intro wq hSw; go_simp; try rfl
    simp only [Act.put, List.setIfInBounds_toArray, List.set_cons_zero, List.set_cons_succ]
    refine take_at 2 (some 109) (v := ?_) rfl rfl (by kernel_rfl) (by kernel_rfl) (by kernel_rfl) (fun _ _ _ h => h) ⟨by rfl, ?_⟩ hS ?_
    rotate_left
    · intro wq hSw; go_simp; try rfl
    simp only [Act.put, List.setIfInBounds_toArray, List.set_cons_zero, List.set_cons_succ]
    refine take_at 3 (some 110) (v := ?_) rfl rfl (by kernel_rfl) (by kernel_rfl) (by kernel_rfl) (fun _ _ _ h => h) ⟨by rfl, ?_⟩ hS ?_
    rotate_left
    · intro wq hSw; go_simp; try rfl
    simp only [Act.put, List.setIfInBounds_toArray, List.set_cons_zero, List.set_cons_succ]
    refine take_at 4 (some 111) (v := ?_) rfl rfl (by kernel_rfl) (by kernel_rfl) (by kernel_rfl) (fun _ _ _ h => h) ⟨by rfl, ?_⟩ hS ?_
    rotate_left
    · intro wq hSw; go_simp; try rfl
    simp only [Act.put, List.setIfInBounds_toArray, List.set_cons_zero, List.set_cons_succ]
    refine wpAnyH_ready (rs := [5]) (by kernel_rfl) (by simp) ?_
    refine AllReadyH.cons rfl (fun K hK => ?_) AllReadyH.nil
    refine wp_st36 rfl rfl rfl D5e.out.bx rfl rfl rfl rfl rfl ?_
    intro wf hbf hkf
    have hSf : wf.cell? ⟨p, 2, none⟩ = some (.int .i64 (ee : Int)) := (hkf.cell D5e.out.rd.1.1 (by intro q; have := D5e.out.ps; have e : p = w.heap.size := q; omega)).trans (D5e.out.rd.1.get 2 _ rfl).1
    refine hK.out _ _ hSf (fun hS => ?_)
    clear hK K hSf
    (try simp only [Act.put])
    refine take_at 6 (some 3) (v := ?_) rfl rfl (by kernel_rfl) (by kernel_rfl) (by kernel_rfl) (fun _ _ _ h => h) ⟨by rfl, ?_⟩ hS ?_
    rotate_left
    · intro wq hSw; go_simp; try rfl
    simp only [Act.put, List.setIfInBounds_toArray, List.set_cons_zero, List.set_cons_succ]
    refine wpAnyH_done (by kernel_rfl) ?_ _
    clear hS
    go_wp2_with fail
    exact bodyPost_ret (results_box2 rfl _ _ rfl hbf rfl) rfl ⟨_, rfl, RecOut.zero _ _, D5e.out.bel.trans (hkf.below D5e.out.bel.size (fun k hk q => by omega))⟩
set_option maxHeartbeats 0 in
theorem rDec_4 (a0 : Option Addr) (l : List Nat) (cap : Nat) (w : World) (hs : Bytes w a0 l) (ha : a0 = none → cap = 0) (hl : l.length ≤ 1000000) (hb : AllB l) (s1 : RS) (hu : uM 18446744073709551615 l ⟨0, 0⟩ = (4, s1)) (he : s1.e = 0) :
    Calls Try.prog 37 #[.slice a0 l.length cap] w fun e w' => ∃ v, e = .returned (.tuple #[v, .int .i64 (((restM l 4 s1).2 : Nat) : Int)]) ∧ RecOut w.heap.size w' v (restM l 4 s1).1 ∧ Below w.heap.size w w' := by
  obtain ⟨dm, hdm⟩ : ∃ q, q = restM l 4 s1 := ⟨_, rfl⟩
  rw [← hdm]
  unfold restM at hdm
  obtain ⟨kk, hkk⟩ : ∃ kk : Nat, kk = 4 := ⟨_, rfl⟩
  have e1 : hTx (kk : Int) = true := by rw [hkk]; rfl
  have e2 : hPrev (kk : Int) = true := by rw [hkk]; rfl
  have e3 : hCtr (kk : Int) = true := by rw [hkk]; rfl
  have e4 : hFirst (kk : Int) = false := by rw [hkk]; rfl
  have e5 : hDelta (kk : Int) = true := by rw [hkk]; rfl
  have e6 : hPts (kk : Int) = false := by rw [hkk]; rfl
  obtain ⟨RR, hRR⟩ : ∃ q, q = readM (kk : Int) l s1 := ⟨_, rfl⟩
  have hRR' : RR = readM ((4 : Nat) : Int) l s1 := by rw [hRR, hkk]
  rw [← hRR'] at hdm
  simp only [readM, condM, e1, e2, e3, e4, e5, e6, bindM, pureM, cond_true, cond_false, zeroR] at hRR
  rw [hkk] at hRR
  clear e1 e2 e3 e4 e5 e6 hkk hRR' kk
  have HRR := hide hRR
  have HDM := hide hdm
  clear hRR hdm
  have B0 := alloc_below w (.cells #[.int .i64 0, .int .i64 0, .int .i64 0, .int .i64 0, .int .i64 0, .int .i64 0, .int .i64 0, .int .i64 0, .int .i64 0, .int .i64 0, .int .i64 0, .int .i64 0, .int .i64 0, .int .i64 0, .slice none 0 0, .slice none 0 0, .int .i64 0] 36)
  have X0 := RBox.new w #[.int .i64 0, .int .i64 0, .int .i64 0, .int .i64 0, .int .i64 0, .int .i64 0, .int .i64 0, .int .i64 0, .int .i64 0, .int .i64 0, .int .i64 0, .int .i64 0, .int .i64 0, .int .i64 0, .slice none 0 0, .slice none 0 0, .int .i64 0] 36
  have hs0 := Seen.below hs B0
  generalize hw0 : w.alloc (.cells #[.int .i64 0, .int .i64 0, .int .i64 0, .int .i64 0, .int .i64 0, .int .i64 0, .int .i64 0, .int .i64 0, .int .i64 0, .int .i64 0, .int .i64 0, .int .i64 0, .int .i64 0, .int .i64 0, .slice none 0 0, .slice none 0 0, .int .i64 0] 36) = w0 at *
  have F1 := hide (rNew_any a0 l cap w0 hs0 ha hl hb)
  have F2 := hide (fun p a c w' h => rU_r 18446744073709551615 p a c l ⟨0, 0⟩ w' h)
  rw [hu] at F2
  simp only at F2
  have lt0 := X0.lt
  have HX0 := hide X0
  have HB0 := hide B0
  clear hs hs0 ha hl hb X0 B0
  go_enter Try.func37, Try.ntmps37
  go_wp2_with fail
  clear hw0
  refine F1.out.mono ?_
  rintro e w1 ⟨p, a, c, rfl, hp, hpa, hrd, b1⟩
  have D1 := hide (show DSt w p a c l w1 ⟨0, 0⟩ from ⟨bnext HB0.out b1 (Nat.le_refl _), hrd, HX0.out.below b1, by omega, by
    rintro k (rfl | ⟨hl, ad, q, rfl⟩)
    · omega
    · have := hpa ad q; omega⟩)
  clear hp hpa hrd b1 F1 HX0 HB0 lt0
  go_wp2_with fail
  refine (F2.out p a c _ D1.out.rd).mono ?_
  rintro e w2 ⟨rfl, r2⟩
  have D2 := hide (D1.out.next r2)
  clear r2 D1 F2
  have F3 := hide (rBad_any p a c l s1 w2 D2.out.rd)
  have hbt : decide (s1.e ≠ 0) = false := by simp [he]
  rw [hbt] at F3
  clear hbt he
  go_wp2_with fail
  refine F3.out.mono ?_
  rintro e' wq ⟨rfl, hq⟩
  obtain rfl : w2 = wq := hq.symm
  clear F3
  have lt2 := D2.out.bx.lt
  have rlt := fun k q => Rd.old D2.out.rd k q
  have D2' := D2.out.below (alloc_below w2 (.cells #[.int .i64 0, .int .i64 0, .int .i64 0, .int .i64 0, .int .i64 0, .int .i64 0, .int .i64 0, .int .i64 0, .int .i64 0, .int .i64 0, .int .i64 0, .int .i64 0, .int .i64 0, .int .i64 0, .slice none 0 0, .slice none 0 0, .int .i64 0] 36))
  go_upto_region 8 with (refine wpList_store36 (RBox.new _ _ _) rfl rfl rfl rfl rfl ?_; intro w3 R3 hk3)
  have nr3 : ¬ rS p a l w2.heap.size := fun r => by have := rlt _ r; omega
  have X := hide (XSt.mk (D2'.touch hk3 (fun k q => ⟨by have e : k = w2.heap.size := q; omega, fun r => by have e : k = w2.heap.size := q; rw [e] at r; exact nr3 r⟩)) R3 lt2 nr3)
  generalize w2.heap.size = b6 at *
  clear D2' R3 hk3 rlt D2
  have F := fun w' h => rNum_r p a c l s1 w' h
  generalize hq1 : takeM l s1 = q1 at F
  obtain ⟨n1, t1⟩ := q1
  simp only at F
  have F := hide F
  have HQ1 := hide hq1
  clear hq1
  have c1 := (X.out.cell 1 _ rfl).1
  go_wp2_with fail
  refine (F.out _ X.out.d.rd).mono ?_
  rintro e v1 ⟨rfl, r⟩
  replace X := hide (X.out.next r)
  clear r F c1
  obtain ⟨x2, y2⟩ := X.out.cell 2 _ rfl
  have c1 := (X.out.cell 1 _ rfl).1
  go_upto_region 22 with fail
  have X2 := (X.out.set 2 (.int .i64 (n1 : Int)))
  simp only [List.setIfInBounds_toArray, List.set_cons_zero, List.set_cons_succ] at X2
  replace X := hide X2
  generalize (v1.setCell ⟨b6, 2, none⟩ (.int .i64 (n1 : Int))) = z1 at *
  clear X2 c1 x2 y2
  have F := fun w' h => rNum_r p a c l t1 w' h
  generalize hq2 : takeM l t1 = q2 at F
  obtain ⟨n2, t2⟩ := q2
  simp only at F
  have F := hide F
  have HQ2 := hide hq2
  clear hq2
  have c1 := (X.out.cell 1 _ rfl).1
  go_wp2_with fail
  refine (F.out _ X.out.d.rd).mono ?_
  rintro e v2 ⟨rfl, r⟩
  replace X := hide (X.out.next r)
  clear r F c1
  obtain ⟨x3, y3⟩ := X.out.cell 3 _ rfl
  have c1 := (X.out.cell 1 _ rfl).1
  go_upto_region 23 with fail
  have X2 := (X.out.set 3 (.int .i64 (n2 : Int)))
  simp only [List.setIfInBounds_toArray, List.set_cons_zero, List.set_cons_succ] at X2
  replace X := hide X2
  generalize (v2.setCell ⟨b6, 3, none⟩ (.int .i64 (n2 : Int))) = z2 at *
  clear X2 c1 x3 y3
  have F := fun w' h => rSlot_r p a c l t2 w' h
  generalize hq3 : slotM l t2 = q3 at F
  obtain ⟨n3, t3⟩ := q3
  obtain ⟨n3a, n3b⟩ := n3
  simp only at F
  have F := hide F
  have HQ3 := hide hq3
  clear hq3
  have c1 := (X.out.cell 1 _ rfl).1
  go_wp2_with fail
  refine (F.out _ X.out.d.rd).mono ?_
  rintro e v3 ⟨rfl, r⟩
  replace X := hide (X.out.next r)
  clear r F c1
  obtain ⟨x4, y4⟩ := X.out.cell 4 _ rfl
  obtain ⟨x5, y5⟩ := X.out.cell 5 _ rfl
  have c1 := (X.out.cell 1 _ rfl).1
  go_upto_region 24 with fail
  have X2 := ((X.out.set 4 (.int .i64 (n3a : Int))).set 5 (.int .i64 (n3b : Int)))
  simp only [List.setIfInBounds_toArray, List.set_cons_zero, List.set_cons_succ] at X2
  replace X := hide X2
  generalize ((v3.setCell ⟨b6, 4, none⟩ (.int .i64 (n3a : Int))).setCell ⟨b6, 5, none⟩ (.int .i64 (n3b : Int))) = z3 at *
  clear X2 c1 x4 y4 x5 y5
  have F := fun w' h => rSlot_r p a c l t3 w' h
  generalize hq4 : slotM l t3 = q4 at F
  obtain ⟨n4, t4⟩ := q4
  obtain ⟨n4a, n4b⟩ := n4
  simp only at F
  have F := hide F
  have HQ4 := hide hq4
  clear hq4
  have c1 := (X.out.cell 1 _ rfl).1
  go_wp2_with fail
  refine (F.out _ X.out.d.rd).mono ?_
  rintro e v4 ⟨rfl, r⟩
  replace X := hide (X.out.next r)
  clear r F c1
  obtain ⟨x6, y6⟩ := X.out.cell 6 _ rfl
  obtain ⟨x7, y7⟩ := X.out.cell 7 _ rfl
  have c1 := (X.out.cell 1 _ rfl).1
  go_upto_region 25 with fail
  have X2 := ((X.out.set 6 (.int .i64 (n4a : Int))).set 7 (.int .i64 (n4b : Int)))
  simp only [List.setIfInBounds_toArray, List.set_cons_zero, List.set_cons_succ] at X2
  replace X := hide X2
  generalize ((v4.setCell ⟨b6, 6, none⟩ (.int .i64 (n4a : Int))).setCell ⟨b6, 7, none⟩ (.int .i64 (n4b : Int))) = z4 at *
  clear X2 c1 x6 y6 x7 y7
  have F := fun w' h => rNum_r p a c l t4 w' h
  generalize hq5 : takeM l t4 = q5 at F
  obtain ⟨n5, t5⟩ := q5
  simp only at F
  have F := hide F
  have HQ5 := hide hq5
  clear hq5
  have c1 := (X.out.cell 1 _ rfl).1
  go_wp2_with fail
  refine (F.out _ X.out.d.rd).mono ?_
  rintro e v5 ⟨rfl, r⟩
  replace X := hide (X.out.next r)
  clear r F c1
  obtain ⟨x9, y9⟩ := X.out.cell 9 _ rfl
  have c1 := (X.out.cell 1 _ rfl).1
  go_upto_region 26 with fail
  have X2 := (X.out.set 9 (.int .i64 (n5 : Int)))
  simp only [List.setIfInBounds_toArray, List.set_cons_zero, List.set_cons_succ] at X2
  replace X := hide X2
  generalize (v5.setCell ⟨b6, 9, none⟩ (.int .i64 (n5 : Int))) = z5 at *
  clear X2 c1 x9 y9
  have F := fun w' h => rS_r p a c l t5 w' h
  generalize hq6 : signM l t5 = q6 at F
  obtain ⟨n6, t6⟩ := q6
  simp only at F
  have F := hide F
  have HQ6 := hide hq6
  clear hq6
  have c1 := (X.out.cell 1 _ rfl).1
  go_wp2_with fail
  refine (F.out _ X.out.d.rd).mono ?_
  rintro e v6 ⟨rfl, r⟩
  replace X := hide (X.out.next r)
  clear r F c1
  obtain ⟨x8, y8⟩ := X.out.cell 8 _ rfl
  have c1 := (X.out.cell 1 _ rfl).1
  go_upto_region 34 with fail
  have X2 := (X.out.set 8 (.int .i64 n6))
  simp only [List.setIfInBounds_toArray, List.set_cons_zero, List.set_cons_succ] at X2
  replace X := hide X2
  generalize (v6.setCell ⟨b6, 8, none⟩ (.int .i64 n6)) = z6 at *
  clear X2 c1 x8 y8
  have hR := HRR.out
  simp only [HQ1.out, HQ2.out, HQ3.out, HQ4.out, HQ5.out, HQ6.out] at hR
  have hd := HDM.out
  rw [hR] at hd
  simp only at hd
  replace HDM := hide hd
  have C1 := fun w' a b => rCheck_any (RecM.mk 0 4 ((n1 : Int)) ((n2 : Int)) ((n3a : Int)) ((n3b : Int)) ((n4a : Int)) ((n4b : Int)) n6 ((n5 : Int)) 0 0 0 0 [] [] 0) none none 0 0 w' a b
  simp only [recC, List.length_nil] at C1
  clear hR hd HRR HQ1 HQ2 HQ3 HQ4 HQ5 HQ6
  have HL : Hid (∀ w', Lies w' none (liveCs [])) := hide (fun _ => .inl rfl)
  have HDL : Hid (∀ w', Lies w' none (dirtyCs [])) := hide (fun _ => .inl rfl)
  have c1 := (X.out.cell 1 _ rfl).1
  have hzz : Hid (t6.e ≠ 0 → endE l t6.pos t6.e ≠ 0) := hide (fun h => by unfold endE; simp [h])
  go_wp2_with fail
  refine (rEnd_r p a c l t6 _ X.out.d.rd).mono ?_
  rintro e w5 ⟨rfl, r5⟩
  replace X := hide (X.out.next r5)
  clear r5 c1
  have F6 := rBad_any p a c l ⟨t6.pos, endE l t6.pos t6.e⟩ w5 X.out.d.rd
  simp only at F6
  generalize endE l t6.pos t6.e = ee at *
  by_cases hee : ee = 0
  · subst hee
    have hbt : decide ((0 : Nat) ≠ 0) = false := rfl
    rw [hbt] at F6
    replace F6 := hide F6
    clear hbt
    have C1 := hide (C1 w5 (HL.out _) (HDL.out _))
    generalize chkE (RecM.mk 0 4 ((n1 : Int)) ((n2 : Int)) ((n3a : Int)) ((n3b : Int)) ((n4a : Int)) ((n4b : Int)) n6 ((n5 : Int)) 0 0 0 0 [] [] 0) = ce at *
    clear hzz
    go_wp2_with fail
    refine F6.out.mono ?_
    rintro e' wq ⟨rfl, hq⟩
    obtain rfl : w5 = wq := hq.symm
    clear F6
    go_wp2_with (refine wpList_load36 X.out.x rfl rfl ?_)
    refine C1.out.mono ?_
    rintro e w7 ⟨rfl, b7⟩
    replace X := hide (X.out.below b7)
    clear b7 C1
    by_cases hce : ce = 0
    · subst hce
      have hd := HDM.out
      simp only [ne_eq, not_true_eq_false, if_false] at hd
      subst hd
      go_wp2_with (first | refine wpList_load36 X.out.x rfl rfl ?_ | (refine wpList_store36 X.out.d.bx rfl rfl rfl rfl rfl ?_; intro wf hbf hkf))
      exact bodyPost_ret (results_box2 rfl _ _ rfl hbf rfl) rfl ⟨_, rfl, ⟨none, none, 0, 0, rfl, World.ownsRow_nil _ _ _ _, World.ownsRow_nil _ _ _ _, nofun⟩, X.out.d.bel.trans (hkf.below X.out.d.bel.size (fun k hk q => by omega))⟩
    · have hd := HDM.out
      simp only [ne_eq, not_true_eq_false, if_false, hce, not_false_eq_true, if_true] at hd
      subst hd
      have hce1 : ¬ ((ce : Int) = 0) := by omega
      go_wp2_with (refine wpList_store36 X.out.d.bx rfl rfl rfl rfl rfl ?_; intro wf hbf hkf)
      exact bodyPost_ret (results_box2 rfl _ _ rfl hbf rfl) rfl ⟨_, rfl, RecOut.zero _ _, X.out.d.bel.trans (hkf.below X.out.d.bel.size (fun k hk q => by omega))⟩
  · have hd := HDM.out
    simp only [ne_eq, hee, not_false_eq_true, if_true] at hd
    subst hd
    have hbt : decide (ee ≠ 0) = true := by simp [hee]
    rw [hbt] at F6
    replace F6 := hide F6
    clear hbt C1
    have D5 := hide X.out.d
    clear X
    go_wp2_with fail
    refine F6.out.mono ?_
    rintro e' wq ⟨rfl, hq⟩
    obtain rfl : w5 = wq := hq.symm
    clear F6
    go_upto_region 36 with fail
    have FX := hide (show w5.cell? ⟨p, 2, none⟩ = some (.int .i64 (ee : Int)) from (D5.out.rd.1.get 2 _ rfl).1)
    have D5e := hide (D5.out.below (Below.refl _ _).drew)
    refine wp_region_held_drew (S := fun wq => wq.cell? ⟨p, 2, none⟩ = some (.int .i64 (ee : Int))) (by kernel_rfl) FX.out (fun hS => ?_)
    generalize w5.drew = we at *
    clear FX
    refine take_at 0 (some 107) (v := ?_) rfl rfl (by kernel_rfl) (by kernel_rfl) (by kernel_rfl) (fun _ _ _ h => h) ⟨by rfl, ?_⟩ hS ?_
    rotate_left
    · intro wq hSw; go_simp; try rfl
    simp only [Act.put, List.setIfInBounds_toArray, List.set_cons_zero, List.set_cons_succ]
    refine take_at 1 (some 108) (v := ?_) rfl rfl (by kernel_rfl) (by kernel_rfl) (by kernel_rfl) (fun _ _ _ h => h) ⟨by rfl, ?_⟩ hS ?_
    rotate_left
    · intro wq hSw; go_simp; try rfl
    simp only [Act.put, List.setIfInBounds_toArray, List.set_cons_zero, List.set_cons_succ]
    refine take_at 2 (some 109) (v := ?_) rfl rfl (by kernel_rfl) (by kernel_rfl) (by kernel_rfl) (fun _ _ _ h => h) ⟨by rfl, ?_⟩ hS ?_
    rotate_left
    · intro wq hSw; go_simp; try rfl
    simp only [Act.put, List.setIfInBounds_toArray, List.set_cons_zero, List.set_cons_succ]
    refine take_at 3 (some 110) (v := ?_) rfl rfl (by kernel_rfl) (by kernel_rfl) (by kernel_rfl) (fun _ _ _ h => h) ⟨by rfl, ?_⟩ hS ?_
    rotate_left
    · intro wq hSw; go_simp; try rfl
    simp only [Act.put, List.setIfInBounds_toArray, List.set_cons_zero, List.set_cons_succ]
    refine take_at 4 (some 111) (v := ?_) rfl rfl (by kernel_rfl) (by kernel_rfl) (by kernel_rfl) (fun _ _ _ h => h) ⟨by rfl, ?_⟩ hS ?_
    rotate_left
    · intro wq hSw; go_simp; try rfl
    simp only [Act.put, List.setIfInBounds_toArray, List.set_cons_zero, List.set_cons_succ]
    refine wpAnyH_ready (rs := [5]) (by kernel_rfl) (by simp) ?_
    refine AllReadyH.cons rfl (fun K hK => ?_) AllReadyH.nil
    refine wp_st36 rfl rfl rfl D5e.out.bx rfl rfl rfl rfl rfl ?_
    intro wf hbf hkf
    have hSf : wf.cell? ⟨p, 2, none⟩ = some (.int .i64 (ee : Int)) := (hkf.cell D5e.out.rd.1.1 (by intro q; have := D5e.out.ps; have e : p = w.heap.size := q; omega)).trans (D5e.out.rd.1.get 2 _ rfl).1
    refine hK.out _ _ hSf (fun hS => ?_)
    clear hK K hSf
    (try simp only [Act.put])
    refine take_at 6 (some 3) (v := ?_) rfl rfl (by kernel_rfl) (by kernel_rfl) (by kernel_rfl) (fun _ _ _ h => h) ⟨by rfl, ?_⟩ hS ?_
    rotate_left
    · intro wq hSw; go_simp; try rfl
    simp only [Act.put, List.setIfInBounds_toArray, List.set_cons_zero, List.set_cons_succ]
    refine wpAnyH_done (by kernel_rfl) ?_ _
    clear hS
    go_wp2_with fail
    exact bodyPost_ret (results_box2 rfl _ _ rfl hbf rfl) rfl ⟨_, rfl, RecOut.zero _ _, D5e.out.bel.trans (hkf.below D5e.out.bel.size (fun k hk q => by omega))⟩
end Go.Proofs.Ytlibldioliicfaa
namespace Go.Proofs.Ytlibldioliicfaa
open Go.RowKit Go.QK
set_option maxRecDepth 100000
set_option maxHeartbeats 0 in
theorem rDec_5 (a0 : Option Addr) (l : List Nat) (cap : Nat) (w : World) (hs : Bytes w a0 l) (ha : a0 = none → cap = 0) (hl : l.length ≤ 1000000) (hb : AllB l) (s1 : RS) (hu : uM 18446744073709551615 l ⟨0, 0⟩ = (5, s1)) (he : s1.e = 0) :
    Calls Try.prog 37 #[.slice a0 l.length cap] w fun e w' => ∃ v, e = .returned (.tuple #[v, .int .i64 (((restM l 5 s1).2 : Nat) : Int)]) ∧ RecOut w.heap.size w' v (restM l 5 s1).1 ∧ Below w.heap.size w w' := by
  obtain ⟨dm, hdm⟩ : ∃ q, q = restM l 5 s1 := ⟨_, rfl⟩
  rw [← hdm]
  unfold restM at hdm
  obtain ⟨kk, hkk⟩ : ∃ kk : Nat, kk = 5 := ⟨_, rfl⟩
  have e1 : hTx (kk : Int) = true := by rw [hkk]; rfl
  have e2 : hPrev (kk : Int) = true := by rw [hkk]; rfl
  have e3 : hCtr (kk : Int) = false := by rw [hkk]; rfl
  have e4 : hFirst (kk : Int) = false := by rw [hkk]; rfl
  have e5 : hDelta (kk : Int) = false := by rw [hkk]; rfl
  have e6 : hPts (kk : Int) = false := by rw [hkk]; rfl
  obtain ⟨RR, hRR⟩ : ∃ q, q = readM (kk : Int) l s1 := ⟨_, rfl⟩
  have hRR' : RR = readM ((5 : Nat) : Int) l s1 := by rw [hRR, hkk]
  rw [← hRR'] at hdm
  simp only [readM, condM, e1, e2, e3, e4, e5, e6, bindM, pureM, cond_true, cond_false, zeroR] at hRR
  rw [hkk] at hRR
  clear e1 e2 e3 e4 e5 e6 hkk hRR' kk
  have HRR := hide hRR
  have HDM := hide hdm
  clear hRR hdm
  have B0 := alloc_below w (.cells #[.int .i64 0, .int .i64 0, .int .i64 0, .int .i64 0, .int .i64 0, .int .i64 0, .int .i64 0, .int .i64 0, .int .i64 0, .int .i64 0, .int .i64 0, .int .i64 0, .int .i64 0, .int .i64 0, .slice none 0 0, .slice none 0 0, .int .i64 0] 36)
  have X0 := RBox.new w #[.int .i64 0, .int .i64 0, .int .i64 0, .int .i64 0, .int .i64 0, .int .i64 0, .int .i64 0, .int .i64 0, .int .i64 0, .int .i64 0, .int .i64 0, .int .i64 0, .int .i64 0, .int .i64 0, .slice none 0 0, .slice none 0 0, .int .i64 0] 36
  have hs0 := Seen.below hs B0
  generalize hw0 : w.alloc (.cells #[.int .i64 0, .int .i64 0, .int .i64 0, .int .i64 0, .int .i64 0, .int .i64 0, .int .i64 0, .int .i64 0, .int .i64 0, .int .i64 0, .int .i64 0, .int .i64 0, .int .i64 0, .int .i64 0, .slice none 0 0, .slice none 0 0, .int .i64 0] 36) = w0 at *
  have F1 := hide (rNew_any a0 l cap w0 hs0 ha hl hb)
  have F2 := hide (fun p a c w' h => rU_r 18446744073709551615 p a c l ⟨0, 0⟩ w' h)
  rw [hu] at F2
  simp only at F2
  have lt0 := X0.lt
  have HX0 := hide X0
  have HB0 := hide B0
  clear hs hs0 ha hl hb X0 B0
  go_enter Try.func37, Try.ntmps37
  go_wp2_with fail
  clear hw0
  refine F1.out.mono ?_
  rintro e w1 ⟨p, a, c, rfl, hp, hpa, hrd, b1⟩
  have D1 := hide (show DSt w p a c l w1 ⟨0, 0⟩ from ⟨bnext HB0.out b1 (Nat.le_refl _), hrd, HX0.out.below b1, by omega, by
    rintro k (rfl | ⟨hl, ad, q, rfl⟩)
    · omega
    · have := hpa ad q; omega⟩)
  clear hp hpa hrd b1 F1 HX0 HB0 lt0
  go_wp2_with fail
  refine (F2.out p a c _ D1.out.rd).mono ?_
  rintro e w2 ⟨rfl, r2⟩
  have D2 := hide (D1.out.next r2)
  clear r2 D1 F2
  have F3 := hide (rBad_any p a c l s1 w2 D2.out.rd)
  have hbt : decide (s1.e ≠ 0) = false := by simp [he]
  rw [hbt] at F3
  clear hbt he
  go_wp2_with fail
  refine F3.out.mono ?_
  rintro e' wq ⟨rfl, hq⟩
  obtain rfl : w2 = wq := hq.symm
  clear F3
  have lt2 := D2.out.bx.lt
  have rlt := fun k q => Rd.old D2.out.rd k q
  have D2' := D2.out.below (alloc_below w2 (.cells #[.int .i64 0, .int .i64 0, .int .i64 0, .int .i64 0, .int .i64 0, .int .i64 0, .int .i64 0, .int .i64 0, .int .i64 0, .int .i64 0, .int .i64 0, .int .i64 0, .int .i64 0, .int .i64 0, .slice none 0 0, .slice none 0 0, .int .i64 0] 36))
  go_upto_region 8 with (refine wpList_store36 (RBox.new _ _ _) rfl rfl rfl rfl rfl ?_; intro w3 R3 hk3)
  have nr3 : ¬ rS p a l w2.heap.size := fun r => by have := rlt _ r; omega
  have X := hide (XSt.mk (D2'.touch hk3 (fun k q => ⟨by have e : k = w2.heap.size := q; omega, fun r => by have e : k = w2.heap.size := q; rw [e] at r; exact nr3 r⟩)) R3 lt2 nr3)
  generalize w2.heap.size = b6 at *
  clear D2' R3 hk3 rlt D2
  have F := fun w' h => rNum_r p a c l s1 w' h
  generalize hq1 : takeM l s1 = q1 at F
  obtain ⟨n1, t1⟩ := q1
  simp only at F
  have F := hide F
  have HQ1 := hide hq1
  clear hq1
  have c1 := (X.out.cell 1 _ rfl).1
  go_wp2_with fail
  refine (F.out _ X.out.d.rd).mono ?_
  rintro e v1 ⟨rfl, r⟩
  replace X := hide (X.out.next r)
  clear r F c1
  obtain ⟨x2, y2⟩ := X.out.cell 2 _ rfl
  have c1 := (X.out.cell 1 _ rfl).1
  go_upto_region 31 with fail
  have X2 := (X.out.set 2 (.int .i64 (n1 : Int)))
  simp only [List.setIfInBounds_toArray, List.set_cons_zero, List.set_cons_succ] at X2
  replace X := hide X2
  generalize (v1.setCell ⟨b6, 2, none⟩ (.int .i64 (n1 : Int))) = z1 at *
  clear X2 c1 x2 y2
  have F := fun w' h => rNum_r p a c l t1 w' h
  generalize hq2 : takeM l t1 = q2 at F
  obtain ⟨n2, t2⟩ := q2
  simp only at F
  have F := hide F
  have HQ2 := hide hq2
  clear hq2
  have c1 := (X.out.cell 1 _ rfl).1
  go_wp2_with fail
  refine (F.out _ X.out.d.rd).mono ?_
  rintro e v2 ⟨rfl, r⟩
  replace X := hide (X.out.next r)
  clear r F c1
  obtain ⟨x3, y3⟩ := X.out.cell 3 _ rfl
  have c1 := (X.out.cell 1 _ rfl).1
  go_upto_region 34 with fail
  have X2 := (X.out.set 3 (.int .i64 (n2 : Int)))
  simp only [List.setIfInBounds_toArray, List.set_cons_zero, List.set_cons_succ] at X2
  replace X := hide X2
  generalize (v2.setCell ⟨b6, 3, none⟩ (.int .i64 (n2 : Int))) = z2 at *
  clear X2 c1 x3 y3
  have hR := HRR.out
  simp only [HQ1.out, HQ2.out] at hR
  have hd := HDM.out
  rw [hR] at hd
  simp only at hd
  replace HDM := hide hd
  have C1 := fun w' a b => rCheck_any (RecM.mk 0 5 ((n1 : Int)) ((n2 : Int)) 0 0 0 0 0 0 0 0 0 0 [] [] 0) none none 0 0 w' a b
  simp only [recC, List.length_nil] at C1
  clear hR hd HRR HQ1 HQ2
  have HL : Hid (∀ w', Lies w' none (liveCs [])) := hide (fun _ => .inl rfl)
  have HDL : Hid (∀ w', Lies w' none (dirtyCs [])) := hide (fun _ => .inl rfl)
  have c1 := (X.out.cell 1 _ rfl).1
  have hzz : Hid (t2.e ≠ 0 → endE l t2.pos t2.e ≠ 0) := hide (fun h => by unfold endE; simp [h])
  go_wp2_with fail
  refine (rEnd_r p a c l t2 _ X.out.d.rd).mono ?_
  rintro e w5 ⟨rfl, r5⟩
  replace X := hide (X.out.next r5)
  clear r5 c1
  have F6 := rBad_any p a c l ⟨t2.pos, endE l t2.pos t2.e⟩ w5 X.out.d.rd
  simp only at F6
  generalize endE l t2.pos t2.e = ee at *
  by_cases hee : ee = 0
  · subst hee
    have hbt : decide ((0 : Nat) ≠ 0) = false := rfl
    rw [hbt] at F6
    replace F6 := hide F6
    clear hbt
    have C1 := hide (C1 w5 (HL.out _) (HDL.out _))
    generalize chkE (RecM.mk 0 5 ((n1 : Int)) ((n2 : Int)) 0 0 0 0 0 0 0 0 0 0 [] [] 0) = ce at *
    clear hzz
    go_wp2_with fail
    refine F6.out.mono ?_
    rintro e' wq ⟨rfl, hq⟩
    obtain rfl : w5 = wq := hq.symm
    clear F6
    go_wp2_with (refine wpList_load36 X.out.x rfl rfl ?_)
    refine C1.out.mono ?_
    rintro e w7 ⟨rfl, b7⟩
    replace X := hide (X.out.below b7)
    clear b7 C1
    by_cases hce : ce = 0
    · subst hce
      have hd := HDM.out
      simp only [ne_eq, not_true_eq_false, if_false] at hd
      subst hd
      go_wp2_with (first | refine wpList_load36 X.out.x rfl rfl ?_ | (refine wpList_store36 X.out.d.bx rfl rfl rfl rfl rfl ?_; intro wf hbf hkf))
      exact bodyPost_ret (results_box2 rfl _ _ rfl hbf rfl) rfl ⟨_, rfl, ⟨none, none, 0, 0, rfl, World.ownsRow_nil _ _ _ _, World.ownsRow_nil _ _ _ _, nofun⟩, X.out.d.bel.trans (hkf.below X.out.d.bel.size (fun k hk q => by omega))⟩
    · have hd := HDM.out
      simp only [ne_eq, not_true_eq_false, if_false, hce, not_false_eq_true, if_true] at hd
      subst hd
      have hce1 : ¬ ((ce : Int) = 0) := by omega
      go_wp2_with (refine wpList_store36 X.out.d.bx rfl rfl rfl rfl rfl ?_; intro wf hbf hkf)
      exact bodyPost_ret (results_box2 rfl _ _ rfl hbf rfl) rfl ⟨_, rfl, RecOut.zero _ _, X.out.d.bel.trans (hkf.below X.out.d.bel.size (fun k hk q => by omega))⟩
  · have hd := HDM.out
    simp only [ne_eq, hee, not_false_eq_true, if_true] at hd
    subst hd
    have hbt : decide (ee ≠ 0) = true := by simp [hee]
    rw [hbt] at F6
    replace F6 := hide F6
    clear hbt C1
    have D5 := hide X.out.d
    clear X
    go_wp2_with fail
    refine F6.out.mono ?_
    rintro e' wq ⟨rfl, hq⟩
    obtain rfl : w5 = wq := hq.symm
    clear F6
    go_upto_region 36 with fail
    have FX := hide (show w5.cell? ⟨p, 2, none⟩ = some (.int .i64 (ee : Int)) from (D5.out.rd.1.get 2 _ rfl).1)
    have D5e := hide (D5.out.below (Below.refl _ _).drew)
    refine wp_region_held_drew (S := fun wq => wq.cell? ⟨p, 2, none⟩ = some (.int .i64 (ee : Int))) (by kernel_rfl) FX.out (fun hS => ?_)
    generalize w5.drew = we at *
    clear FX
    refine take_at 0 (some 107) (v := ?_) rfl rfl (by kernel_rfl) (by kernel_rfl) (by kernel_rfl) (fun _ _ _ h => h) ⟨by rfl, ?_⟩ hS ?_
    rotate_left
    · intro wq hSw; go_simp; try rfl
    simp only [Act.put, List.setIfInBounds_toArray, List.set_cons_zero, List.set_cons_succ]
    refine take_at 1 (some 108) (v := ?_) rfl rfl (by kernel_rfl) (by kernel_rfl) (by kernel_rfl) (fun _ _ _ h => h) ⟨by rfl, ?_⟩ hS ?_
    rotate_left
    · intro wq hSw; go_simp; try rfl
    simp only [Act.put, List.setIfInBounds_toArray, List.set_cons_zero, List.set_cons_succ]
    refine take_at 2 (some 109) (v := ?_) rfl rfl (by kernel_rfl) (by kernel_rfl) (by kernel_rfl) (fun _ _ _ h => h) ⟨by rfl, ?_⟩ hS ?_
    rotate_left
    · intro wq hSw; go_simp; try rfl
    simp only [Act.put, List.setIfInBounds_toArray, List.set_cons_zero, List.set_cons_succ]
    refine take_at 3 (some 110) (v := ?_) rfl rfl (by kernel_rfl) (by kernel_rfl) (by kernel_rfl) (fun _ _ _ h => h) ⟨by rfl, ?_⟩ hS ?_
    rotate_left
    · intro wq hSw; go_simp; try rfl
    simp only [Act.put, List.setIfInBounds_toArray, List.set_cons_zero, List.set_cons_succ]
    refine take_at 4 (some 111) (v := ?_) rfl rfl (by kernel_rfl) (by kernel_rfl) (by kernel_rfl) (fun _ _ _ h => h) ⟨by rfl, ?_⟩ hS ?_
    rotate_left
    · intro wq hSw; go_simp; try rfl
    simp only [Act.put, List.setIfInBounds_toArray, List.set_cons_zero, List.set_cons_succ]
    refine wpAnyH_ready (rs := [5]) (by kernel_rfl) (by simp) ?_
    refine AllReadyH.cons rfl (fun K hK => ?_) AllReadyH.nil
    refine wp_st36 rfl rfl rfl D5e.out.bx rfl rfl rfl rfl rfl ?_
    intro wf hbf hkf
    have hSf : wf.cell? ⟨p, 2, none⟩ = some (.int .i64 (ee : Int)) := (hkf.cell D5e.out.rd.1.1 (by intro q; have := D5e.out.ps; have e : p = w.heap.size := q; omega)).trans (D5e.out.rd.1.get 2 _ rfl).1
    refine hK.out _ _ hSf (fun hS => ?_)
    clear hK K hSf
    (try simp only [Act.put])
    refine take_at 6 (some 3) (v := ?_) rfl rfl (by kernel_rfl) (by kernel_rfl) (by kernel_rfl) (fun _ _ _ h => h) ⟨by rfl, ?_⟩ hS ?_
    rotate_left
    · intro wq hSw; go_simp; try rfl
    simp only [Act.put, List.setIfInBounds_toArray, List.set_cons_zero, List.set_cons_succ]
    refine wpAnyH_done (by kernel_rfl) ?_ _
    clear hS
    go_wp2_with fail
    exact bodyPost_ret (results_box2 rfl _ _ rfl hbf rfl) rfl ⟨_, rfl, RecOut.zero _ _, D5e.out.bel.trans (hkf.below D5e.out.bel.size (fun k hk q => by omega))⟩
set_option maxHeartbeats 0 in
theorem rDec_6 (a0 : Option Addr) (l : List Nat) (cap : Nat) (w : World) (hs : Bytes w a0 l) (ha : a0 = none → cap = 0) (hl : l.length ≤ 1000000) (hb : AllB l) (s1 : RS) (hu : uM 18446744073709551615 l ⟨0, 0⟩ = (6, s1)) (he : s1.e = 0) :
    Calls Try.prog 37 #[.slice a0 l.length cap] w fun e w' => ∃ v, e = .returned (.tuple #[v, .int .i64 (((restM l 6 s1).2 : Nat) : Int)]) ∧ RecOut w.heap.size w' v (restM l 6 s1).1 ∧ Below w.heap.size w w' := by
  obtain ⟨dm, hdm⟩ : ∃ q, q = restM l 6 s1 := ⟨_, rfl⟩
  rw [← hdm]
  unfold restM at hdm
  obtain ⟨kk, hkk⟩ : ∃ kk : Nat, kk = 6 := ⟨_, rfl⟩
  have e1 : hTx (kk : Int) = true := by rw [hkk]; rfl
  have e2 : hPrev (kk : Int) = true := by rw [hkk]; rfl
  have e3 : hCtr (kk : Int) = false := by rw [hkk]; rfl
  have e4 : hFirst (kk : Int) = false := by rw [hkk]; rfl
  have e5 : hDelta (kk : Int) = false := by rw [hkk]; rfl
  have e6 : hPts (kk : Int) = false := by rw [hkk]; rfl
  obtain ⟨RR, hRR⟩ : ∃ q, q = readM (kk : Int) l s1 := ⟨_, rfl⟩
  have hRR' : RR = readM ((6 : Nat) : Int) l s1 := by rw [hRR, hkk]
  rw [← hRR'] at hdm
  simp only [readM, condM, e1, e2, e3, e4, e5, e6, bindM, pureM, cond_true, cond_false, zeroR] at hRR
  rw [hkk] at hRR
  clear e1 e2 e3 e4 e5 e6 hkk hRR' kk
  have HRR := hide hRR
  have HDM := hide hdm
  clear hRR hdm
  have B0 := alloc_below w (.cells #[.int .i64 0, .int .i64 0, .int .i64 0, .int .i64 0, .int .i64 0, .int .i64 0, .int .i64 0, .int .i64 0, .int .i64 0, .int .i64 0, .int .i64 0, .int .i64 0, .int .i64 0, .int .i64 0, .slice none 0 0, .slice none 0 0, .int .i64 0] 36)
  have X0 := RBox.new w #[.int .i64 0, .int .i64 0, .int .i64 0, .int .i64 0, .int .i64 0, .int .i64 0, .int .i64 0, .int .i64 0, .int .i64 0, .int .i64 0, .int .i64 0, .int .i64 0, .int .i64 0, .int .i64 0, .slice none 0 0, .slice none 0 0, .int .i64 0] 36
  have hs0 := Seen.below hs B0
  generalize hw0 : w.alloc (.cells #[.int .i64 0, .int .i64 0, .int .i64 0, .int .i64 0, .int .i64 0, .int .i64 0, .int .i64 0, .int .i64 0, .int .i64 0, .int .i64 0, .int .i64 0, .int .i64 0, .int .i64 0, .int .i64 0, .slice none 0 0, .slice none 0 0, .int .i64 0] 36) = w0 at *
  have F1 := hide (rNew_any a0 l cap w0 hs0 ha hl hb)
  have F2 := hide (fun p a c w' h => rU_r 18446744073709551615 p a c l ⟨0, 0⟩ w' h)
  rw [hu] at F2
  simp only at F2
  have lt0 := X0.lt
  have HX0 := hide X0
  have HB0 := hide B0
  clear hs hs0 ha hl hb X0 B0
  go_enter Try.func37, Try.ntmps37
  go_wp2_with fail
  clear hw0
  refine F1.out.mono ?_
  rintro e w1 ⟨p, a, c, rfl, hp, hpa, hrd, b1⟩
  have D1 := hide (show DSt w p a c l w1 ⟨0, 0⟩ from ⟨bnext HB0.out b1 (Nat.le_refl _), hrd, HX0.out.below b1, by omega, by
    rintro k (rfl | ⟨hl, ad, q, rfl⟩)
    · omega
    · have := hpa ad q; omega⟩)
  clear hp hpa hrd b1 F1 HX0 HB0 lt0
  go_wp2_with fail
  refine (F2.out p a c _ D1.out.rd).mono ?_
  rintro e w2 ⟨rfl, r2⟩
  have D2 := hide (D1.out.next r2)
  clear r2 D1 F2
  have F3 := hide (rBad_any p a c l s1 w2 D2.out.rd)
  have hbt : decide (s1.e ≠ 0) = false := by simp [he]
  rw [hbt] at F3
  clear hbt he
  go_wp2_with fail
  refine F3.out.mono ?_
  rintro e' wq ⟨rfl, hq⟩
  obtain rfl : w2 = wq := hq.symm
  clear F3
  have lt2 := D2.out.bx.lt
  have rlt := fun k q => Rd.old D2.out.rd k q
  have D2' := D2.out.below (alloc_below w2 (.cells #[.int .i64 0, .int .i64 0, .int .i64 0, .int .i64 0, .int .i64 0, .int .i64 0, .int .i64 0, .int .i64 0, .int .i64 0, .int .i64 0, .int .i64 0, .int .i64 0, .int .i64 0, .int .i64 0, .slice none 0 0, .slice none 0 0, .int .i64 0] 36))
  go_upto_region 8 with (refine wpList_store36 (RBox.new _ _ _) rfl rfl rfl rfl rfl ?_; intro w3 R3 hk3)
  have nr3 : ¬ rS p a l w2.heap.size := fun r => by have := rlt _ r; omega
  have X := hide (XSt.mk (D2'.touch hk3 (fun k q => ⟨by have e : k = w2.heap.size := q; omega, fun r => by have e : k = w2.heap.size := q; rw [e] at r; exact nr3 r⟩)) R3 lt2 nr3)
  generalize w2.heap.size = b6 at *
  clear D2' R3 hk3 rlt D2
  have F := fun w' h => rNum_r p a c l s1 w' h
  generalize hq1 : takeM l s1 = q1 at F
  obtain ⟨n1, t1⟩ := q1
  simp only at F
  have F := hide F
  have HQ1 := hide hq1
  clear hq1
  have c1 := (X.out.cell 1 _ rfl).1
  go_wp2_with fail
  refine (F.out _ X.out.d.rd).mono ?_
  rintro e v1 ⟨rfl, r⟩
  replace X := hide (X.out.next r)
  clear r F c1
  obtain ⟨x2, y2⟩ := X.out.cell 2 _ rfl
  have c1 := (X.out.cell 1 _ rfl).1
  go_upto_region 31 with fail
  have X2 := (X.out.set 2 (.int .i64 (n1 : Int)))
  simp only [List.setIfInBounds_toArray, List.set_cons_zero, List.set_cons_succ] at X2
  replace X := hide X2
  generalize (v1.setCell ⟨b6, 2, none⟩ (.int .i64 (n1 : Int))) = z1 at *
  clear X2 c1 x2 y2
  have F := fun w' h => rNum_r p a c l t1 w' h
  generalize hq2 : takeM l t1 = q2 at F
  obtain ⟨n2, t2⟩ := q2
  simp only at F
  have F := hide F
  have HQ2 := hide hq2
  clear hq2
  have c1 := (X.out.cell 1 _ rfl).1
  go_wp2_with fail
  refine (F.out _ X.out.d.rd).mono ?_
  rintro e v2 ⟨rfl, r⟩
  replace X := hide (X.out.next r)
  clear r F c1
  obtain ⟨x3, y3⟩ := X.out.cell 3 _ rfl
  have c1 := (X.out.cell 1 _ rfl).1
  go_upto_region 34 with fail
  have X2 := (X.out.set 3 (.int .i64 (n2 : Int)))
  simp only [List.setIfInBounds_toArray, List.set_cons_zero, List.set_cons_succ] at X2
  replace X := hide X2
  generalize (v2.setCell ⟨b6, 3, none⟩ (.int .i64 (n2 : Int))) = z2 at *
  clear X2 c1 x3 y3
  have hR := HRR.out
  simp only [HQ1.out, HQ2.out] at hR
  have hd := HDM.out
  rw [hR] at hd
  simp only at hd
  replace HDM := hide hd
  have C1 := fun w' a b => rCheck_any (RecM.mk 0 6 ((n1 : Int)) ((n2 : Int)) 0 0 0 0 0 0 0 0 0 0 [] [] 0) none none 0 0 w' a b
  simp only [recC, List.length_nil] at C1
  clear hR hd HRR HQ1 HQ2
  have HL : Hid (∀ w', Lies w' none (liveCs [])) := hide (fun _ => .inl rfl)
  have HDL : Hid (∀ w', Lies w' none (dirtyCs [])) := hide (fun _ => .inl rfl)
  have c1 := (X.out.cell 1 _ rfl).1
  have hzz : Hid (t2.e ≠ 0 → endE l t2.pos t2.e ≠ 0) := hide (fun h => by unfold endE; simp [h])
  go_wp2_with fail
  refine (rEnd_r p a c l t2 _ X.out.d.rd).mono ?_
  rintro e w5 ⟨rfl, r5⟩
  replace X := hide (X.out.next r5)
  clear r5 c1
  have F6 := rBad_any p a c l ⟨t2.pos, endE l t2.pos t2.e⟩ w5 X.out.d.rd
  simp only at F6
  generalize endE l t2.pos t2.e = ee at *
  by_cases hee : ee = 0
  · subst hee
    have hbt : decide ((0 : Nat) ≠ 0) = false := rfl
    rw [hbt] at F6
    replace F6 := hide F6
    clear hbt
    have C1 := hide (C1 w5 (HL.out _) (HDL.out _))
    generalize chkE (RecM.mk 0 6 ((n1 : Int)) ((n2 : Int)) 0 0 0 0 0 0 0 0 0 0 [] [] 0) = ce at *
    clear hzz
    go_wp2_with fail
    refine F6.out.mono ?_
    rintro e' wq ⟨rfl, hq⟩
    obtain rfl : w5 = wq := hq.symm
    clear F6
    go_wp2_with (refine wpList_load36 X.out.x rfl rfl ?_)
    refine C1.out.mono ?_
    rintro e w7 ⟨rfl, b7⟩
    replace X := hide (X.out.below b7)
    clear b7 C1
    by_cases hce : ce = 0
    · subst hce
      have hd := HDM.out
      simp only [ne_eq, not_true_eq_false, if_false] at hd
      subst hd
      go_wp2_with (first | refine wpList_load36 X.out.x rfl rfl ?_ | (refine wpList_store36 X.out.d.bx rfl rfl rfl rfl rfl ?_; intro wf hbf hkf))
      exact bodyPost_ret (results_box2 rfl _ _ rfl hbf rfl) rfl ⟨_, rfl, ⟨none, none, 0, 0, rfl, World.ownsRow_nil _ _ _ _, World.ownsRow_nil _ _ _ _, nofun⟩, X.out.d.bel.trans (hkf.below X.out.d.bel.size (fun k hk q => by omega))⟩
    · have hd := HDM.out
      simp only [ne_eq, not_true_eq_false, if_false, hce, not_false_eq_true, if_true] at hd
      subst hd
      have hce1 : ¬ ((ce : Int) = 0) := by omega
      go_wp2_with (refine wpList_store36 X.out.d.bx rfl rfl rfl rfl rfl ?_; intro wf hbf hkf)
      exact bodyPost_ret (results_box2 rfl _ _ rfl hbf rfl) rfl ⟨_, rfl, RecOut.zero _ _, X.out.d.bel.trans (hkf.below X.out.d.bel.size (fun k hk q => by omega))⟩
  · have hd := HDM.out
    simp only [ne_eq, hee, not_false_eq_true, if_true] at hd
    subst hd
    have hbt : decide (ee ≠ 0) = true := by simp [hee]
    rw [hbt] at F6
    replace F6 := hide F6
    clear hbt C1
    have D5 := hide X.out.d
    clear X
    go_wp2_with fail
    refine F6.out.mono ?_
    rintro e' wq ⟨rfl, hq⟩
    obtain rfl : w5 = wq := hq.symm
    clear F6
    go_upto_region 36 with fail
    have FX := hide (show w5.cell? ⟨p, 2, none⟩ = some (.int .i64 (ee : Int)) from (D5.out.rd.1.get 2 _ rfl).1)
    have D5e := hide (D5.out.below (Below.refl _ _).drew)
    refine wp_region_held_drew (S := fun wq => wq.cell? ⟨p, 2, none⟩ = some (.int .i64 (ee : Int))) (by kernel_rfl) FX.out (fun hS => ?_)
    generalize w5.drew = we at *
    clear FX
    refine take_at 0 (some 107) (v := ?_) rfl rfl (by kernel_rfl) (by kernel_rfl) (by kernel_rfl) (fun _ _ _ h => h) ⟨by rfl, ?_⟩ hS ?_
    rotate_left
    · intro wq hSw; go_simp; try rfl
    simp only [Act.put, List.setIfInBounds_toArray, List.set_cons_zero, List.set_cons_succ]
    refine take_at 1 (some 108) (v := ?_) rfl rfl (by kernel_rfl) (by kernel_rfl) (by kernel_rfl) (fun _ _ _ h => h) ⟨by rfl, ?_⟩ hS ?_
    rotate_left
    · intro wq hSw; go_simp; try rfl
    simp only [Act.put, List.setIfInBounds_toArray, List.set_cons_zero, List.set_cons_succ]
    refine take_at 2 (some 109) (v := ?_) rfl rfl (by kernel_rfl) (by kernel_rfl) (by kernel_rfl) (fun _ _ _ h => h) ⟨by rfl, ?_⟩ hS ?_
    rotate_left
    · intro wq hSw; go_simp; try rfl
    simp only [Act.put, List.setIfInBounds_toArray, List.set_cons_zero, List.set_cons_succ]
    refine take_at 3 (some 110) (v := ?_) rfl rfl (by kernel_rfl) (by kernel_rfl) (by kernel_rfl) (fun _ _ _ h => h) ⟨by rfl, ?_⟩ hS ?_
    rotate_left
    · intro wq hSw; go_simp; try rfl
    simp only [Act.put, List.setIfInBounds_toArray, List.set_cons_zero, List.set_cons_succ]
    refine take_at 4 (some 111) (v := ?_) rfl rfl (by kernel_rfl) (by kernel_rfl) (by kernel_rfl) (fun _ _ _ h => h) ⟨by rfl, ?_⟩ hS ?_
    rotate_left
    · intro wq hSw; go_simp; try rfl
    simp only [Act.put, List.setIfInBounds_toArray, List.set_cons_zero, List.set_cons_succ]
    refine wpAnyH_ready (rs := [5]) (by kernel_rfl) (by simp) ?_
    refine AllReadyH.cons rfl (fun K hK => ?_) AllReadyH.nil
    refine wp_st36 rfl rfl rfl D5e.out.bx rfl rfl rfl rfl rfl ?_
    intro wf hbf hkf
    have hSf : wf.cell? ⟨p, 2, none⟩ = some (.int .i64 (ee : Int)) := (hkf.cell D5e.out.rd.1.1 (by intro q; have := D5e.out.ps; have e : p = w.heap.size := q; omega)).trans (D5e.out.rd.1.get 2 _ rfl).1
    refine hK.out _ _ hSf (fun hS => ?_)
    clear hK K hSf
    (try simp only [Act.put])
    refine take_at 6 (some 3) (v := ?_) rfl rfl (by kernel_rfl) (by kernel_rfl) (by kernel_rfl) (fun _ _ _ h => h) ⟨by rfl, ?_⟩ hS ?_
    rotate_left
    · intro wq hSw; go_simp; try rfl
    simp only [Act.put, List.setIfInBounds_toArray, List.set_cons_zero, List.set_cons_succ]
    refine wpAnyH_done (by kernel_rfl) ?_ _
    clear hS
    go_wp2_with fail
    exact bodyPost_ret (results_box2 rfl _ _ rfl hbf rfl) rfl ⟨_, rfl, RecOut.zero _ _, D5e.out.bel.trans (hkf.below D5e.out.bel.size (fun k hk q => by omega))⟩
set_option maxHeartbeats 0 in
theorem rDec_7 (a0 : Option Addr) (l : List Nat) (cap : Nat) (w : World) (hs : Bytes w a0 l) (ha : a0 = none → cap = 0) (hl : l.length ≤ 1000000) (hb : AllB l) (s1 : RS) (hu : uM 18446744073709551615 l ⟨0, 0⟩ = (7, s1)) (he : s1.e = 0) :
    Calls Try.prog 37 #[.slice a0 l.length cap] w fun e w' => ∃ v, e = .returned (.tuple #[v, .int .i64 (((restM l 7 s1).2 : Nat) : Int)]) ∧ RecOut w.heap.size w' v (restM l 7 s1).1 ∧ Below w.heap.size w w' := by
  obtain ⟨dm, hdm⟩ : ∃ q, q = restM l 7 s1 := ⟨_, rfl⟩
  rw [← hdm]
  unfold restM at hdm
  obtain ⟨kk, hkk⟩ : ∃ kk : Nat, kk = 7 := ⟨_, rfl⟩
  have e1 : hTx (kk : Int) = true := by rw [hkk]; rfl
  have e2 : hPrev (kk : Int) = true := by rw [hkk]; rfl
  have e3 : hCtr (kk : Int) = false := by rw [hkk]; rfl
  have e4 : hFirst (kk : Int) = false := by rw [hkk]; rfl
  have e5 : hDelta (kk : Int) = false := by rw [hkk]; rfl
  have e6 : hPts (kk : Int) = false := by rw [hkk]; rfl
  obtain ⟨RR, hRR⟩ : ∃ q, q = readM (kk : Int) l s1 := ⟨_, rfl⟩
  have hRR' : RR = readM ((7 : Nat) : Int) l s1 := by rw [hRR, hkk]
  rw [← hRR'] at hdm
  simp only [readM, condM, e1, e2, e3, e4, e5, e6, bindM, pureM, cond_true, cond_false, zeroR] at hRR
  rw [hkk] at hRR
  clear e1 e2 e3 e4 e5 e6 hkk hRR' kk
  have HRR := hide hRR
  have HDM := hide hdm
  clear hRR hdm
  have B0 := alloc_below w (.cells #[.int .i64 0, .int .i64 0, .int .i64 0, .int .i64 0, .int .i64 0, .int .i64 0, .int .i64 0, .int .i64 0, .int .i64 0, .int .i64 0, .int .i64 0, .int .i64 0, .int .i64 0, .int .i64 0, .slice none 0 0, .slice none 0 0, .int .i64 0] 36)
  have X0 := RBox.new w #[.int .i64 0, .int .i64 0, .int .i64 0, .int .i64 0, .int .i64 0, .int .i64 0, .int .i64 0, .int .i64 0, .int .i64 0, .int .i64 0, .int .i64 0, .int .i64 0, .int .i64 0, .int .i64 0, .slice none 0 0, .slice none 0 0, .int .i64 0] 36
  have hs0 := Seen.below hs B0
  generalize hw0 : w.alloc (.cells #[.int .i64 0, .int .i64 0, .int .i64 0, .int .i64 0, .int .i64 0, .int .i64 0, .int .i64 0, .int .i64 0, .int .i64 0, .int .i64 0, .int .i64 0, .int .i64 0, .int .i64 0, .int .i64 0, .slice none 0 0, .slice none 0 0, .int .i64 0] 36) = w0 at *
  have F1 := hide (rNew_any a0 l cap w0 hs0 ha hl hb)
  have F2 := hide (fun p a c w' h => rU_r 18446744073709551615 p a c l ⟨0, 0⟩ w' h)
  rw [hu] at F2
  simp only at F2
  have lt0 := X0.lt
  have HX0 := hide X0
  have HB0 := hide B0
  clear hs hs0 ha hl hb X0 B0
  go_enter Try.func37, Try.ntmps37
  go_wp2_with fail
  clear hw0
  refine F1.out.mono ?_
  rintro e w1 ⟨p, a, c, rfl, hp, hpa, hrd, b1⟩
  have D1 := hide (show DSt w p a c l w1 ⟨0, 0⟩ from ⟨bnext HB0.out b1 (Nat.le_refl _), hrd, HX0.out.below b1, by omega, by
    rintro k (rfl | ⟨hl, ad, q, rfl⟩)
    · omega
    · have := hpa ad q; omega⟩)
  clear hp hpa hrd b1 F1 HX0 HB0 lt0
  go_wp2_with fail
  refine (F2.out p a c _ D1.out.rd).mono ?_
  rintro e w2 ⟨rfl, r2⟩
  have D2 := hide (D1.out.next r2)
  clear r2 D1 F2
  have F3 := hide (rBad_any p a c l s1 w2 D2.out.rd)
  have hbt : decide (s1.e ≠ 0) = false := by simp [he]
  rw [hbt] at F3
  clear hbt he
  go_wp2_with fail
  refine F3.out.mono ?_
  rintro e' wq ⟨rfl, hq⟩
  obtain rfl : w2 = wq := hq.symm
  clear F3
  have lt2 := D2.out.bx.lt
  have rlt := fun k q => Rd.old D2.out.rd k q
  have D2' := D2.out.below (alloc_below w2 (.cells #[.int .i64 0, .int .i64 0, .int .i64 0, .int .i64 0, .int .i64 0, .int .i64 0, .int .i64 0, .int .i64 0, .int .i64 0, .int .i64 0, .int .i64 0, .int .i64 0, .int .i64 0, .int .i64 0, .slice none 0 0, .slice none 0 0, .int .i64 0] 36))
  go_upto_region 8 with (refine wpList_store36 (RBox.new _ _ _) rfl rfl rfl rfl rfl ?_; intro w3 R3 hk3)
  have nr3 : ¬ rS p a l w2.heap.size := fun r => by have := rlt _ r; omega
  have X := hide (XSt.mk (D2'.touch hk3 (fun k q => ⟨by have e : k = w2.heap.size := q; omega, fun r => by have e : k = w2.heap.size := q; rw [e] at r; exact nr3 r⟩)) R3 lt2 nr3)
  generalize w2.heap.size = b6 at *
  clear D2' R3 hk3 rlt D2
  have F := fun w' h => rNum_r p a c l s1 w' h
  generalize hq1 : takeM l s1 = q1 at F
  obtain ⟨n1, t1⟩ := q1
  simp only at F
  have F := hide F
  have HQ1 := hide hq1
  clear hq1
  have c1 := (X.out.cell 1 _ rfl).1
  go_wp2_with fail
  refine (F.out _ X.out.d.rd).mono ?_
  rintro e v1 ⟨rfl, r⟩
  replace X := hide (X.out.next r)
  clear r F c1
  obtain ⟨x2, y2⟩ := X.out.cell 2 _ rfl
  have c1 := (X.out.cell 1 _ rfl).1
  go_upto_region 31 with fail
  have X2 := (X.out.set 2 (.int .i64 (n1 : Int)))
  simp only [List.setIfInBounds_toArray, List.set_cons_zero, List.set_cons_succ] at X2
  replace X := hide X2
  generalize (v1.setCell ⟨b6, 2, none⟩ (.int .i64 (n1 : Int))) = z1 at *
  clear X2 c1 x2 y2
  have F := fun w' h => rNum_r p a c l t1 w' h
  generalize hq2 : takeM l t1 = q2 at F
  obtain ⟨n2, t2⟩ := q2
  simp only at F
  have F := hide F
  have HQ2 := hide hq2
  clear hq2
  have c1 := (X.out.cell 1 _ rfl).1
  go_wp2_with fail
  refine (F.out _ X.out.d.rd).mono ?_
  rintro e v2 ⟨rfl, r⟩
  replace X := hide (X.out.next r)
  clear r F c1
  obtain ⟨x3, y3⟩ := X.out.cell 3 _ rfl
  have c1 := (X.out.cell 1 _ rfl).1
  go_upto_region 34 with fail
  have X2 := (X.out.set 3 (.int .i64 (n2 : Int)))
  simp only [List.setIfInBounds_toArray, List.set_cons_zero, List.set_cons_succ] at X2
  replace X := hide X2
  generalize (v2.setCell ⟨b6, 3, none⟩ (.int .i64 (n2 : Int))) = z2 at *
  clear X2 c1 x3 y3
  have hR := HRR.out
  simp only [HQ1.out, HQ2.out] at hR
  have hd := HDM.out
  rw [hR] at hd
  simp only at hd
  replace HDM := hide hd
  have C1 := fun w' a b => rCheck_any (RecM.mk 0 7 ((n1 : Int)) ((n2 : Int)) 0 0 0 0 0 0 0 0 0 0 [] [] 0) none none 0 0 w' a b
  simp only [recC, List.length_nil] at C1
  clear hR hd HRR HQ1 HQ2
  have HL : Hid (∀ w', Lies w' none (liveCs [])) := hide (fun _ => .inl rfl)
  have HDL : Hid (∀ w', Lies w' none (dirtyCs [])) := hide (fun _ => .inl rfl)
  have c1 := (X.out.cell 1 _ rfl).1
  have hzz : Hid (t2.e ≠ 0 → endE l t2.pos t2.e ≠ 0) := hide (fun h => by unfold endE; simp [h])
  go_wp2_with fail
  refine (rEnd_r p a c l t2 _ X.out.d.rd).mono ?_
  rintro e w5 ⟨rfl, r5⟩
  replace X := hide (X.out.next r5)
  clear r5 c1
  have F6 := rBad_any p a c l ⟨t2.pos, endE l t2.pos t2.e⟩ w5 X.out.d.rd
  simp only at F6
  generalize endE l t2.pos t2.e = ee at *
  by_cases hee : ee = 0
  · subst hee
    have hbt : decide ((0 : Nat) ≠ 0) = false := rfl
    rw [hbt] at F6
    replace F6 := hide F6
    clear hbt
    have C1 := hide (C1 w5 (HL.out _) (HDL.out _))
    generalize chkE (RecM.mk 0 7 ((n1 : Int)) ((n2 : Int)) 0 0 0 0 0 0 0 0 0 0 [] [] 0) = ce at *
    clear hzz
    go_wp2_with fail
    refine F6.out.mono ?_
    rintro e' wq ⟨rfl, hq⟩
    obtain rfl : w5 = wq := hq.symm
    clear F6
    go_wp2_with (refine wpList_load36 X.out.x rfl rfl ?_)
    refine C1.out.mono ?_
    rintro e w7 ⟨rfl, b7⟩
    replace X := hide (X.out.below b7)
    clear b7 C1
    by_cases hce : ce = 0
    · subst hce
      have hd := HDM.out
      simp only [ne_eq, not_true_eq_false, if_false] at hd
      subst hd
      go_wp2_with (first | refine wpList_load36 X.out.x rfl rfl ?_ | (refine wpList_store36 X.out.d.bx rfl rfl rfl rfl rfl ?_; intro wf hbf hkf))
      exact bodyPost_ret (results_box2 rfl _ _ rfl hbf rfl) rfl ⟨_, rfl, ⟨none, none, 0, 0, rfl, World.ownsRow_nil _ _ _ _, World.ownsRow_nil _ _ _ _, nofun⟩, X.out.d.bel.trans (hkf.below X.out.d.bel.size (fun k hk q => by omega))⟩
    · have hd := HDM.out
      simp only [ne_eq, not_true_eq_false, if_false, hce, not_false_eq_true, if_true] at hd
      subst hd
      have hce1 : ¬ ((ce : Int) = 0) := by omega
      go_wp2_with (refine wpList_store36 X.out.d.bx rfl rfl rfl rfl rfl ?_; intro wf hbf hkf)
      exact bodyPost_ret (results_box2 rfl _ _ rfl hbf rfl) rfl ⟨_, rfl, RecOut.zero _ _, X.out.d.bel.trans (hkf.below X.out.d.bel.size (fun k hk q => by omega))⟩
  · have hd := HDM.out
    simp only [ne_eq, hee, not_false_eq_true, if_true] at hd
    subst hd
    have hbt : decide (ee ≠ 0) = true := by simp [hee]
    rw [hbt] at F6
    replace F6 := hide F6
    clear hbt C1
    have D5 := hide X.out.d
    clear X
    go_wp2_with fail
    refine F6.out.mono ?_
    rintro e' wq ⟨rfl, hq⟩
    obtain rfl : w5 = wq := hq.symm
    clear F6
    go_upto_region 36 with fail
    have FX := hide (show w5.cell? ⟨p, 2, none⟩ = some (.int .i64 (ee : Int)) from (D5.out.rd.1.get 2 _ rfl).1)
    have D5e := hide (D5.out.below (Below.refl _ _).drew)
    refine wp_region_held_drew (S := fun wq => wq.cell? ⟨p, 2, none⟩ = some (.int .i64 (ee : Int))) (by kernel_rfl) FX.out (fun hS => ?_)
    generalize w5.drew = we at *
    clear FX
    refine take_at 0 (some 107) (v := ?_) rfl rfl (by kernel_rfl) (by kernel_rfl) (by kernel_rfl) (fun _ _ _ h => h) ⟨by rfl, ?_⟩ hS ?_
    rotate_left
    · intro wq hSw; go_simp; try rfl
    simp only [Act.put, List.setIfInBounds_toArray, List.set_cons_zero, List.set_cons_succ]
    refine take_at 1 (some 108) (v := ?_) rfl rfl (by kernel_rfl) (by kernel_rfl) (by kernel_rfl) (fun _ _ _ h => h) ⟨by rfl, ?_⟩ hS ?_
    rotate_left
    · intro wq hSw; go_simp; try rfl
    simp only [Act.put, List.setIfInBounds_toArray, List.set_cons_zero, List.set_cons_succ]
    refine take_at 2 (some 109) (v := ?_) rfl rfl (by kernel_rfl) (by kernel_rfl) (by kernel_rfl) (fun _ _ _ h => h) ⟨by rfl, ?_⟩ hS ?_
    rotate_left
    · intro wq hSw; go_simp; try rfl
    simp only [Act.put, List.setIfInBounds_toArray, List.set_cons_zero, List.set_cons_succ]
    refine take_at 3 (some 110) (v := ?_) rfl rfl (by kernel_rfl) (by kernel_rfl) (by kernel_rfl) (fun _ _ _ h => h) ⟨by rfl, ?_⟩ hS ?_
    rotate_left
    · intro wq hSw; go_simp; try rfl
    simp only [Act.put, List.setIfInBounds_toArray, List.set_cons_zero, List.set_cons_succ]
    refine take_at 4 (some 111) (v := ?_) rfl rfl (by kernel_rfl) (by kernel_rfl) (by kernel_rfl) (fun _ _ _ h => h) ⟨by rfl, ?_⟩ hS ?_
    rotate_left
    · intro wq hSw; go_simp; try rfl
    simp only [Act.put, List.setIfInBounds_toArray, List.set_cons_zero, List.set_cons_succ]
    refine wpAnyH_ready (rs := [5]) (by kernel_rfl) (by simp) ?_
    refine AllReadyH.cons rfl (fun K hK => ?_) AllReadyH.nil
    refine wp_st36 rfl rfl rfl D5e.out.bx rfl rfl rfl rfl rfl ?_
    intro wf hbf hkf
    have hSf : wf.cell? ⟨p, 2, none⟩ = some (.int .i64 (ee : Int)) := (hkf.cell D5e.out.rd.1.1 (by intro q; have := D5e.out.ps; have e : p = w.heap.size := q; omega)).trans (D5e.out.rd.1.get 2 _ rfl).1
    refine hK.out _ _ hSf (fun hS => ?_)
    clear hK K hSf
    (try simp only [Act.put])
    refine take_at 6 (some 3) (v := ?_) rfl rfl (by kernel_rfl) (by kernel_rfl) (by kernel_rfl) (fun _ _ _ h => h) ⟨by rfl, ?_⟩ hS ?_
    rotate_left
    · intro wq hSw; go_simp; try rfl
    simp only [Act.put, List.setIfInBounds_toArray, List.set_cons_zero, List.set_cons_succ]
    refine wpAnyH_done (by kernel_rfl) ?_ _
    clear hS
    go_wp2_with fail
    exact bodyPost_ret (results_box2 rfl _ _ rfl hbf rfl) rfl ⟨_, rfl, RecOut.zero _ _, D5e.out.bel.trans (hkf.below D5e.out.bel.size (fun k hk q => by omega))⟩
end Go.Proofs.Ytlibldioliicfaa
namespace Go.Proofs.Ytlibldioliicfaa
open Go.RowKit Go.QK
set_option maxRecDepth 100000
set_option maxHeartbeats 0 in
theorem rDec_8 (a0 : Option Addr) (l : List Nat) (cap : Nat) (w : World) (hs : Bytes w a0 l) (ha : a0 = none → cap = 0) (hl : l.length ≤ 1000000) (hb : AllB l) (s1 : RS) (hu : uM 18446744073709551615 l ⟨0, 0⟩ = (8, s1)) (he : s1.e = 0) :
    Calls Try.prog 37 #[.slice a0 l.length cap] w fun e w' => ∃ v, e = .returned (.tuple #[v, .int .i64 (((restM l 8 s1).2 : Nat) : Int)]) ∧ RecOut w.heap.size w' v (restM l 8 s1).1 ∧ Below w.heap.size w w' := by
  obtain ⟨dm, hdm⟩ : ∃ q, q = restM l 8 s1 := ⟨_, rfl⟩
  rw [← hdm]
  unfold restM at hdm
  obtain ⟨kk, hkk⟩ : ∃ kk : Nat, kk = 8 := ⟨_, rfl⟩
  have e1 : hTx (kk : Int) = false := by rw [hkk]; rfl
  have e2 : hPrev (kk : Int) = false := by rw [hkk]; rfl
  have e3 : hCtr (kk : Int) = false := by rw [hkk]; rfl
  have e4 : hFirst (kk : Int) = false := by rw [hkk]; rfl
  have e5 : hDelta (kk : Int) = false := by rw [hkk]; rfl
  have e6 : hPts (kk : Int) = true := by rw [hkk]; rfl
  obtain ⟨RR, hRR⟩ : ∃ q, q = readM (kk : Int) l s1 := ⟨_, rfl⟩
  have hRR' : RR = readM ((8 : Nat) : Int) l s1 := by rw [hRR, hkk]
  rw [← hRR'] at hdm
  simp only [readM, condM, e1, e2, e3, e4, e5, e6, bindM, pureM, cond_true, cond_false, zeroR] at hRR
  rw [hkk] at hRR
  clear e1 e2 e3 e4 e5 e6 hkk hRR' kk
  have HRR := hide hRR
  have HDM := hide hdm
  clear hRR hdm
  have B0 := alloc_below w (.cells #[.int .i64 0, .int .i64 0, .int .i64 0, .int .i64 0, .int .i64 0, .int .i64 0, .int .i64 0, .int .i64 0, .int .i64 0, .int .i64 0, .int .i64 0, .int .i64 0, .int .i64 0, .int .i64 0, .slice none 0 0, .slice none 0 0, .int .i64 0] 36)
  have X0 := RBox.new w #[.int .i64 0, .int .i64 0, .int .i64 0, .int .i64 0, .int .i64 0, .int .i64 0, .int .i64 0, .int .i64 0, .int .i64 0, .int .i64 0, .int .i64 0, .int .i64 0, .int .i64 0, .int .i64 0, .slice none 0 0, .slice none 0 0, .int .i64 0] 36
  have hs0 := Seen.below hs B0
  generalize hw0 : w.alloc (.cells #[.int .i64 0, .int .i64 0, .int .i64 0, .int .i64 0, .int .i64 0, .int .i64 0, .int .i64 0, .int .i64 0, .int .i64 0, .int .i64 0, .int .i64 0, .int .i64 0, .int .i64 0, .int .i64 0, .slice none 0 0, .slice none 0 0, .int .i64 0] 36) = w0 at *
  have F1 := hide (rNew_any a0 l cap w0 hs0 ha hl hb)
  have F2 := hide (fun p a c w' h => rU_r 18446744073709551615 p a c l ⟨0, 0⟩ w' h)
  rw [hu] at F2
  simp only at F2
  have lt0 := X0.lt
  have HX0 := hide X0
  have HB0 := hide B0
  clear hs hs0 ha hl hb X0 B0
  go_enter Try.func37, Try.ntmps37
  go_wp2_with fail
  clear hw0
  refine F1.out.mono ?_
  rintro e w1 ⟨p, a, c, rfl, hp, hpa, hrd, b1⟩
  have D1 := hide (show DSt w p a c l w1 ⟨0, 0⟩ from ⟨bnext HB0.out b1 (Nat.le_refl _), hrd, HX0.out.below b1, by omega, by
    rintro k (rfl | ⟨hl, ad, q, rfl⟩)
    · omega
    · have := hpa ad q; omega⟩)
  clear hp hpa hrd b1 F1 HX0 HB0 lt0
  go_wp2_with fail
  refine (F2.out p a c _ D1.out.rd).mono ?_
  rintro e w2 ⟨rfl, r2⟩
  have D2 := hide (D1.out.next r2)
  clear r2 D1 F2
  have F3 := hide (rBad_any p a c l s1 w2 D2.out.rd)
  have hbt : decide (s1.e ≠ 0) = false := by simp [he]
  rw [hbt] at F3
  clear hbt he
  go_wp2_with fail
  refine F3.out.mono ?_
  rintro e' wq ⟨rfl, hq⟩
  obtain rfl : w2 = wq := hq.symm
  clear F3
  have lt2 := D2.out.bx.lt
  have rlt := fun k q => Rd.old D2.out.rd k q
  have D2' := D2.out.below (alloc_below w2 (.cells #[.int .i64 0, .int .i64 0, .int .i64 0, .int .i64 0, .int .i64 0, .int .i64 0, .int .i64 0, .int .i64 0, .int .i64 0, .int .i64 0, .int .i64 0, .int .i64 0, .int .i64 0, .int .i64 0, .slice none 0 0, .slice none 0 0, .int .i64 0] 36))
  go_upto_region 8 with (refine wpList_store36 (RBox.new _ _ _) rfl rfl rfl rfl rfl ?_; intro w3 R3 hk3)
  have nr3 : ¬ rS p a l w2.heap.size := fun r => by have := rlt _ r; omega
  have X := hide (XSt.mk (D2'.touch hk3 (fun k q => ⟨by have e : k = w2.heap.size := q; omega, fun r => by have e : k = w2.heap.size := q; rw [e] at r; exact nr3 r⟩)) R3 lt2 nr3)
  generalize w2.heap.size = b6 at *
  clear D2' R3 hk3 rlt D2
  have F := fun w' h => rCheckpoint_r p a c l s1 w' h
  generalize hq1 : pointsM l s1 = q1 at F
  obtain ⟨⟨nx', ls', ds'⟩, t1⟩ := q1
  simp only at F
  have F := hide F
  have HQ1 := hide hq1
  clear hq1
  have c1 := (X.out.cell 1 _ rfl).1
  have lt3 := X.out.x.lt
  have sz3 := X.out.d.bel.size
  have plt := X.out.d.ps
  go_wp2_with fail
  refine (F.out _ X.out.d.rd).mono ?_
  rintro e v1 ⟨vL, vD, nx, ls, ds, rfl, r, rl, rd, ld, heq, hll, hdl⟩
  have NL := hide (show ∀ g, vL.ownBlock = some g → w3.heap.size ≤ g from fun g q => (World.ownsRow.lt rl g q).1)
  have ND := hide (show ∀ g, vD.ownBlock = some g → w3.heap.size ≤ g from fun g q => (World.ownsRow.lt rd g q).1)
  obtain ⟨la, lc, eL, _⟩ := GRow.lies rl
  obtain ⟨da, dc, eD, _⟩ := GRow.lies rd
  subst eL eD
  have plt3 := Rd.old X.out.d.rd p (.inl rfl)
  replace X := hide (X.out.next r)
  clear r F c1
  obtain ⟨x14, y14⟩ := X.out.cell 14 _ rfl
  obtain ⟨x15, y15⟩ := X.out.cell 15 _ rfl
  obtain ⟨x16, y16⟩ := X.out.cell 16 _ rfl
  have c1 := (X.out.cell 1 _ rfl).1
  have RL := hide rl
  have RD := hide rd
  have LD := hide ld
  have HEQ := hide heq
  clear rl rd ld heq
  go_upto_region 34 with fail
  have X2 := ((X.out.set 14 (.slice la ls.length lc)).set 15 (.slice da ds.length dc)).set 16 (.int .i64 (nx : Int))
  simp only [List.setIfInBounds_toArray, List.set_cons_zero, List.set_cons_succ] at X2
  have kk : Keep (fun k => k = b6) v1 (((v1.setCell ⟨b6, 14, none⟩ (.slice la ls.length lc)).setCell ⟨b6, 15, none⟩ (.slice da ds.length dc)).setCell ⟨b6, 16, none⟩ (.int .i64 (nx : Int))) := (((Keep.refl (fun k => k = b6) v1).setCell (fun _ => rfl) _).setCell (fun _ => rfl) _).setCell (fun _ => rfl) _
  replace RL := hide (GRow.keep RL.out kk (fun g q e => by have := NL.out g q; omega))
  replace RD := hide (GRow.keep RD.out kk (fun g q e => by have := ND.out g q; omega))
  replace X := hide X2
  generalize (((v1.setCell ⟨b6, 14, none⟩ (.slice la ls.length lc)).setCell ⟨b6, 15, none⟩ (.slice da ds.length dc)).setCell ⟨b6, 16, none⟩ (.int .i64 (nx : Int))) = z1 at *
  clear X2 c1 x14 y14 x15 y15 x16 y16 kk
  have hR := HRR.out
  simp only [HQ1.out] at hR
  have hd := HDM.out
  rw [hR] at hd
  simp only at hd
  replace HDM := hide hd
  have C1 := fun w' a b => rCheck_any (RecM.mk 0 8 0 0 0 0 0 0 0 0 0 0 0 0 ls ds nx) la da lc dc w' a b
  simp only [recC] at C1
  clear hR hd HRR HQ1
  have c1 := (X.out.cell 1 _ rfl).1
  have hzz : Hid (t1.e ≠ 0 → endE l t1.pos t1.e ≠ 0) := hide (fun h => by unfold endE; simp [h])
  go_wp2_with fail
  refine (rEnd_r p a c l t1 _ X.out.d.rd).mono ?_
  rintro e w5 ⟨rfl, r5⟩
  replace RL := hide (GRow.keep RL.out r5.keep (fun g q e => by have := NL.out g q; have e' : g = p := e; omega))
  replace RD := hide (GRow.keep RD.out r5.keep (fun g q e => by have := ND.out g q; have e' : g = p := e; omega))
  replace X := hide (X.out.next r5)
  clear r5 c1
  have F6 := rBad_any p a c l ⟨t1.pos, endE l t1.pos t1.e⟩ w5 X.out.d.rd
  simp only at F6
  generalize endE l t1.pos t1.e = ee at *
  by_cases hee : ee = 0
  · subst hee
    have hbt : decide ((0 : Nat) ≠ 0) = false := rfl
    rw [hbt] at F6
    replace F6 := hide F6
    clear hbt
    have hz1 : t1.e = 0 := Classical.byContradiction (fun h => hzz.out h rfl)
    have hq := HEQ.out hz1
    have hq1 := congrArg Prod.fst hq
    have hq2 := congrArg (fun x => x.2.1) hq
    have hq3 := congrArg (fun x => x.2.2) hq
    simp only at hq1 hq2 hq3
    have hd := HDM.out
    rw [← hq1, ← hq2, ← hq3] at hd
    replace HDM := hide hd
    clear hd hq hq1 hq2 hq3 hz1
    obtain ⟨a1, c1', e1, lies1, _⟩ := GRow.lies RL.out
    obtain ⟨a2, c2', e2, lies2, _⟩ := GRow.lies RD.out
    cases e1
    cases e2
    have C1 := hide (C1 w5 lies1 lies2)
    clear lies1 lies2
    generalize chkE (RecM.mk 0 8 0 0 0 0 0 0 0 0 0 0 0 0 ls ds nx) = ce at *
    clear hzz
    go_wp2_with fail
    refine F6.out.mono ?_
    rintro e' wq ⟨rfl, hq⟩
    obtain rfl : w5 = wq := hq.symm
    clear F6
    go_wp2_with (refine wpList_load36 X.out.x rfl rfl ?_)
    refine C1.out.mono ?_
    rintro e w7 ⟨rfl, b7⟩
    replace X := hide (X.out.below b7)
    replace RL := hide (GRow.below RL.out b7)
    replace RD := hide (GRow.below RD.out b7)
    clear b7 C1
    by_cases hce : ce = 0
    · subst hce
      have hd := HDM.out
      simp only [ne_eq, not_true_eq_false, if_false] at hd
      subst hd
      go_wp2_with (first | refine wpList_load36 X.out.x rfl rfl ?_ | (refine wpList_store36 X.out.d.bx rfl rfl rfl rfl rfl ?_; intro wf hbf hkf))
      exact bodyPost_ret (results_box2 rfl _ _ rfl hbf rfl) rfl ⟨_, rfl, ⟨la, da, lc, dc, rfl, GRow.keep (GRow.mono RL.out sz3) hkf (fun g q e => by have := NL.out g q; have e1 : g = w.heap.size := e; omega), GRow.keep (GRow.mono RD.out sz3) hkf (fun g q e => by have := ND.out g q; have e1 : g = w.heap.size := e; omega), LD.out⟩, X.out.d.bel.trans (hkf.below X.out.d.bel.size (fun k hk q => by omega))⟩
    · have hd := HDM.out
      simp only [ne_eq, not_true_eq_false, if_false, hce, not_false_eq_true, if_true] at hd
      subst hd
      have hce1 : ¬ ((ce : Int) = 0) := by omega
      go_wp2_with (refine wpList_store36 X.out.d.bx rfl rfl rfl rfl rfl ?_; intro wf hbf hkf)
      exact bodyPost_ret (results_box2 rfl _ _ rfl hbf rfl) rfl ⟨_, rfl, RecOut.zero _ _, X.out.d.bel.trans (hkf.below X.out.d.bel.size (fun k hk q => by omega))⟩
  · have hd := HDM.out
    simp only [ne_eq, hee, not_false_eq_true, if_true] at hd
    subst hd
    have hbt : decide (ee ≠ 0) = true := by simp [hee]
    rw [hbt] at F6
    replace F6 := hide F6
    clear hbt C1
    have D5 := hide X.out.d
    clear X
    go_wp2_with fail
    refine F6.out.mono ?_
    rintro e' wq ⟨rfl, hq⟩
    obtain rfl : w5 = wq := hq.symm
    clear F6
    go_upto_region 36 with fail
    have FX := hide (show w5.cell? ⟨p, 2, none⟩ = some (.int .i64 (ee : Int)) from (D5.out.rd.1.get 2 _ rfl).1)
    have D5e := hide (D5.out.below (Below.refl _ _).drew)
    refine wp_region_held_drew (S := fun wq => wq.cell? ⟨p, 2, none⟩ = some (.int .i64 (ee : Int))) (by kernel_rfl) FX.out (fun hS => ?_)
    generalize w5.drew = we at *
    clear FX
    refine take_at 0 (some 107) (v := ?_) rfl rfl (by kernel_rfl) (by kernel_rfl) (by kernel_rfl) (fun _ _ _ h => h) ⟨by rfl, ?_⟩ hS ?_
    rotate_left
    · intro wq hSw; go_simp; try rfl
    simp only [Act.put, List.setIfInBounds_toArray, List.set_cons_zero, List.set_cons_succ]
    refine take_at 1 (some 108) (v := ?_) rfl rfl (by kernel_rfl) (by kernel_rfl) (by kernel_rfl) (fun _ _ _ h => h) ⟨by rfl, ?_⟩ hS ?_
    rotate_left
    · intro wq hSw; go_simp; try rfl
    simp only [Act.put, List.setIfInBounds_toArray, List.set_cons_zero, List.set_cons_succ]
    refine take_at 2 (some 109) (v := ?_) rfl rfl (by kernel_rfl) (by kernel_rfl) (by kernel_rfl) (fun _ _ _ h => h) ⟨by rfl, ?_⟩ hS ?_
    rotate_left
    · intro wq hSw; go_simp; try rfl
    simp only [Act.put, List.setIfInBounds_toArray, List.set_cons_zero, List.set_cons_succ]
    refine take_at 3 (some 110) (v := ?_) rfl rfl (by kernel_rfl) (by kernel_rfl) (by kernel_rfl) (fun _ _ _ h => h) ⟨by rfl, ?_⟩ hS ?_
    rotate_left
    · intro wq hSw; go_simp; try rfl
    simp only [Act.put, List.setIfInBounds_toArray, List.set_cons_zero, List.set_cons_succ]
    refine take_at 4 (some 111) (v := ?_) rfl rfl (by kernel_rfl) (by kernel_rfl) (by kernel_rfl) (fun _ _ _ h => h) ⟨by rfl, ?_⟩ hS ?_
    rotate_left
    · intro wq hSw; go_simp; try rfl
    simp only [Act.put, List.setIfInBounds_toArray, List.set_cons_zero, List.set_cons_succ]
    refine wpAnyH_ready (rs := [5]) (by kernel_rfl) (by simp) ?_
    refine AllReadyH.cons rfl (fun K hK => ?_) AllReadyH.nil
    refine wp_st36 rfl rfl rfl D5e.out.bx rfl rfl rfl rfl rfl ?_
    intro wf hbf hkf
    have hSf : wf.cell? ⟨p, 2, none⟩ = some (.int .i64 (ee : Int)) := (hkf.cell D5e.out.rd.1.1 (by intro q; have := D5e.out.ps; have e : p = w.heap.size := q; omega)).trans (D5e.out.rd.1.get 2 _ rfl).1
    refine hK.out _ _ hSf (fun hS => ?_)
    clear hK K hSf
    (try simp only [Act.put])
    refine take_at 6 (some 3) (v := ?_) rfl rfl (by kernel_rfl) (by kernel_rfl) (by kernel_rfl) (fun _ _ _ h => h) ⟨by rfl, ?_⟩ hS ?_
    rotate_left
    · intro wq hSw; go_simp; try rfl
    simp only [Act.put, List.setIfInBounds_toArray, List.set_cons_zero, List.set_cons_succ]
    refine wpAnyH_done (by kernel_rfl) ?_ _
    clear hS
    go_wp2_with fail
    exact bodyPost_ret (results_box2 rfl _ _ rfl hbf rfl) rfl ⟨_, rfl, RecOut.zero _ _, D5e.out.bel.trans (hkf.below D5e.out.bel.size (fun k hk q => by omega))⟩
end Go.Proofs.Ytlibldioliicfaa
namespace Go.Proofs.Ytlibldioliicfaa
open Go.RowKit Go.QK
set_option maxRecDepth 100000
theorem rDecode_any (a0 : Option Addr) (l : List Nat) (cap : Nat) (w : World) (hs : Bytes w a0 l) (ha : a0 = none → cap = 0) (hl : l.length ≤ 1000000) (hb : AllB l) :
    Calls Try.prog 37 #[.slice a0 l.length cap] w fun e w' => ∃ v, e = .returned (.tuple #[v, .int .i64 (((decM l).2 : Nat) : Int)]) ∧ RecOut w.heap.size w' v (decM l).1 ∧ Below w.heap.size w w' := by
  obtain ⟨q, hq⟩ : ∃ q, uM 18446744073709551615 l ⟨0, 0⟩ = q := ⟨_, rfl⟩
  obtain ⟨n, s1⟩ := q
  have hk : kindM l = (if s1.e ≠ 0 then (0, s1.e) else if 1 ≤ n ∧ n ≤ 8 then (n, 0) else (0, 70), s1) := by unfold kindM; simp only [hq]
  unfold decM
  rw [hk]
  clear hk
  by_cases he : s1.e = 0
  · rw [if_neg (show ¬ s1.e ≠ 0 from fun h => h he)]
    by_cases hn : 1 ≤ n ∧ n ≤ 8
    · rw [if_pos hn]
      simp only [ne_eq, not_true_eq_false, if_false]
      have h8 : n = 1 ∨ n = 2 ∨ n = 3 ∨ n = 4 ∨ n = 5 ∨ n = 6 ∨ n = 7 ∨ n = 8 := by omega
      rcases h8 with rfl | rfl | rfl | rfl | rfl | rfl | rfl | rfl
      · exact rDec_1 a0 l cap w hs ha hl hb s1 hq he
      · exact rDec_2 a0 l cap w hs ha hl hb s1 hq he
      · exact rDec_3 a0 l cap w hs ha hl hb s1 hq he
      · exact rDec_4 a0 l cap w hs ha hl hb s1 hq he
      · exact rDec_5 a0 l cap w hs ha hl hb s1 hq he
      · exact rDec_6 a0 l cap w hs ha hl hb s1 hq he
      · exact rDec_7 a0 l cap w hs ha hl hb s1 hq he
      · exact rDec_8 a0 l cap w hs ha hl hb s1 hq he
    · rw [if_neg hn]
      exact rDec_kind a0 l cap w hs ha hl hb n s1 hq he hn
  · rw [if_pos he]
    simp only [ne_eq, he, not_false_eq_true, if_true]
    exact rDec_fault a0 l cap w hs ha hl hb n s1 hq he
end Go.Proofs.Ytlibldioliicfaa
