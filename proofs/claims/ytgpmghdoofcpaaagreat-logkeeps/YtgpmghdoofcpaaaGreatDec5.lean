import Derived.Test.YtgpmghdoofcpaaaGreatG22
namespace Go.Proofs.YtgpmghdoofcpaaaGreat
open Go.RowKit Go.QK

set_option maxRecDepth 100000
set_option maxHeartbeats 4000000 in
theorem read_pat3 (kn : Nat) (p : Nat) (a : Option Addr) (c : Nat) (l : List Nat) (s : RS) (w : World) (h : Rds w p a c l s) (hk1 : 1 ≤ kn) (hk8 : kn ≤ 8)
    (e1 : hTx kn = true) (e2 : hPrev kn = true) (e3 : hCtr kn = true) (e4 : hFirst kn = false) (e5 : hDelta kn = true) (e6 : hPts kn = false) :
    Calls Tryz.prog 72 #[.pointer (some ⟨p, 0, none⟩), .int .i64 kn] w fun x w' => ∃ v, x = .returned v ∧ RSt w p a c l w' (readM kn l s).2 ∧ RecOut w.heap.size w' v (readM kn l s).1 := by
  have g0 := fun w => fieldsOf_any kn (by omega) (by omega) w
  simp only [hasC, e1, e2, e3, e4, e5, e6] at g0
  obtain ⟨RR, hRR⟩ : ∃ q, q = readM kn l s := ⟨_, rfl⟩
  rw [← hRR]
  simp only [readM, condM, e1, e2, e3, e4, e5, e6, bindM, pureM, cond_true, cond_false, zeroR] at hRR
  have HRR := hide hRR
  have st0 := (RSt.start h).below (alloc_below w (.cells #[.int .i64 0, .int .i64 0, .int .i64 0, .int .i64 0, .int .i64 0, .int .i64 0, .int .i64 0, .int .i64 0, .int .i64 0, .int .i64 0, .int .i64 0, .int .i64 0, .int .i64 0, .int .i64 0, .slice none 0 0, .slice none 0 0, .int .i64 0] 44))
  have C0 := RBox.new w #[.int .i64 0, .int .i64 0, .int .i64 0, .int .i64 0, .int .i64 0, .int .i64 0, .int .i64 0, .int .i64 0, .int .i64 0, .int .i64 0, .int .i64 0, .int .i64 0, .int .i64 0, .int .i64 0, .slice none 0 0, .slice none 0 0, .int .i64 0] 44
  generalize hw0 : w.alloc (.cells #[.int .i64 0, .int .i64 0, .int .i64 0, .int .i64 0, .int .i64 0, .int .i64 0, .int .i64 0, .int .i64 0, .int .i64 0, .int .i64 0, .int .i64 0, .int .i64 0, .int .i64 0, .int .i64 0, .slice none 0 0, .slice none 0 0, .int .i64 0] 44) = w0 at *
  have ST0 := hide st0
  clear st0 h e1 e2 e3 e4 e5 e6 hRR
  go_enter Tryz.func72, Tryz.ntmps72
  go_wp2_with fail
  refine (g0 _).mono ?_
  rintro e w1 ⟨rfl, b1⟩
  have ST1 := ST0.out.below b1
  have C1 := C0.below b1
  have X1 := Cells.new w1 #[.bool true, .bool true, .bool true, .bool false, .bool true, .bool false] 158
  have ST2 := ST1.below (alloc_below w1 (.cells #[.bool true, .bool true, .bool true, .bool false, .bool true, .bool false] 158))
  have C2 := C1.below (alloc_below w1 (.cells #[.bool true, .bool true, .bool true, .bool false, .bool true, .bool false] 158))
  have lt1 := C1.lt
  have le1 := ST1.size
  generalize hw2 : w1.alloc (.cells #[.bool true, .bool true, .bool true, .bool false, .bool true, .bool false] 158) = w2 at *
  have HW2 := hide hw2
  have ST2 := hide ST2
  clear hw2 hw0 ST1 C1 C0 b1 ST0 g0
  go_upto_region 2 with fail
  rw [HW2.out]
  generalize w1.heap.size = bx at *
  clear HW2
  have lt2 := X1.1
  have C3 := C2.below (alloc_below w2 (.cells #[.int .i64 0, .int .i64 0, .int .i64 0, .int .i64 0, .int .i64 0, .int .i64 0, .int .i64 0, .int .i64 0, .int .i64 0, .int .i64 0, .int .i64 0, .int .i64 0, .int .i64 0, .int .i64 0, .slice none 0 0, .slice none 0 0, .int .i64 0] 44))
  have X3 := X1.below (alloc_below w2 (.cells #[.int .i64 0, .int .i64 0, .int .i64 0, .int .i64 0, .int .i64 0, .int .i64 0, .int .i64 0, .int .i64 0, .int .i64 0, .int .i64 0, .int .i64 0, .int .i64 0, .int .i64 0, .int .i64 0, .slice none 0 0, .slice none 0 0, .int .i64 0] 44))
  have ST3 := ST2.out.below (alloc_below w2 (.cells #[.int .i64 0, .int .i64 0, .int .i64 0, .int .i64 0, .int .i64 0, .int .i64 0, .int .i64 0, .int .i64 0, .int .i64 0, .int .i64 0, .int .i64 0, .int .i64 0, .int .i64 0, .int .i64 0, .slice none 0 0, .slice none 0 0, .int .i64 0] 44))
  go_upto_region 3 with (refine wpList_store36 (RBox.new _ _ _) rfl rfl rfl rfl rfl ?_; intro W0 R3 hk3)
  have RR0 := hide R3
  have CC0 := hide (C3.keep hk3 (by omega))
  have XX0 := hide (X3.keep hk3 (by omega))
  have SS0 := hide (ST3.touch hk3 (fun k q => by omega))
  generalize w2.heap.size = br at *
  clear C2 C3 X1 X3 ST2 ST3 R3 hk3
  have F := fun w' h => take_r p a c l s w' h
  generalize hq1 : takeM l s = q1 at F
  obtain ⟨n1, s1⟩ := q1
  simp only at F
  have F := hide F
  have HQ1 := hide hq1
  clear hq1
  have m0 := (XX0.out.get 0 _ rfl).1
  have m1 := (XX0.out.get 1 _ rfl).1
  have m2 := (XX0.out.get 2 _ rfl).1
  have m3 := (XX0.out.get 3 _ rfl).1
  have m4 := (XX0.out.get 4 _ rfl).1
  have m5 := (XX0.out.get 5 _ rfl).1
  go_wp2_with fail
  refine (F.out _ SS0.out.rd).mono ?_
  rintro e w11 ⟨rfl, r⟩
  have ss := SS0.out.next r
  have cc := CC0.out.keep r.keep (SS0.out.ne (Nat.le_refl _))
  have xx := XX0.out.keep r.keep (SS0.out.ne (by omega))
  have rr := RR0.out.keep r.keep (SS0.out.ne (by omega))
  have k2 := rr.cells.get 2 _ rfl
  obtain ⟨k2, z2⟩ := k2
  have SS1 := hide (ss.store (b := br) (j := 2) (by omega) (.int .i64 n1))
  have CC1 := hide (cc.keep ((Keep.refl (fun k => k = br) w11).setCell (fun _ => rfl) (.int .i64 n1) (j := 2)) (by omega))
  have XX1 := hide (xx.other (g := br) (j := 2) (y := .int .i64 n1) (by omega))
  have RR1 := (rr.setCell 2 (.int .i64 n1))
  simp only [List.setIfInBounds_toArray, List.set_cons_zero, List.set_cons_succ] at RR1
  have RR1 := hide RR1
  clear ss cc xx rr r F SS0 CC0 XX0 RR0 m0 m1 m2 m3 m4 m5
  go_upto_region 5 with fail
  generalize hWn : (w11.setCell ⟨br, 2, none⟩ (.int .i64 n1)) = W1 at *
  clear hWn k2 z2
  have F := fun w' h => take_r p a c l s1 w' h
  generalize hq2 : takeM l s1 = q2 at F
  obtain ⟨n2, s2⟩ := q2
  simp only at F
  have F := hide F
  have HQ2 := hide hq2
  clear hq2
  have m0 := (XX1.out.get 0 _ rfl).1
  have m1 := (XX1.out.get 1 _ rfl).1
  have m2 := (XX1.out.get 2 _ rfl).1
  have m3 := (XX1.out.get 3 _ rfl).1
  have m4 := (XX1.out.get 4 _ rfl).1
  have m5 := (XX1.out.get 5 _ rfl).1
  go_wp2_with fail
  refine (F.out _ SS1.out.rd).mono ?_
  rintro e w12 ⟨rfl, r⟩
  have ss := SS1.out.next r
  have cc := CC1.out.keep r.keep (SS1.out.ne (Nat.le_refl _))
  have xx := XX1.out.keep r.keep (SS1.out.ne (by omega))
  have rr := RR1.out.keep r.keep (SS1.out.ne (by omega))
  have k3 := rr.cells.get 3 _ rfl
  obtain ⟨k3, z3⟩ := k3
  have SS2 := hide (ss.store (b := br) (j := 3) (by omega) (.int .i64 n2))
  have CC2 := hide (cc.keep ((Keep.refl (fun k => k = br) w12).setCell (fun _ => rfl) (.int .i64 n2) (j := 3)) (by omega))
  have XX2 := hide (xx.other (g := br) (j := 3) (y := .int .i64 n2) (by omega))
  have RR2 := (rr.setCell 3 (.int .i64 n2))
  simp only [List.setIfInBounds_toArray, List.set_cons_zero, List.set_cons_succ] at RR2
  have RR2 := hide RR2
  clear ss cc xx rr r F SS1 CC1 XX1 RR1 m0 m1 m2 m3 m4 m5
  go_upto_region 7 with fail
  generalize hWn : (w12.setCell ⟨br, 3, none⟩ (.int .i64 n2)) = W2 at *
  clear hWn k3 z3
  have F := fun w' h => readSlot_s p a c l s2 w' h
  generalize hq3 : slotM l s2 = q3 at F
  obtain ⟨⟨n3a, n3b⟩, s3⟩ := q3
  simp only at F
  have F := hide F
  have HQ3 := hide hq3
  clear hq3
  have m0 := (XX2.out.get 0 _ rfl).1
  have m1 := (XX2.out.get 1 _ rfl).1
  have m2 := (XX2.out.get 2 _ rfl).1
  have m3 := (XX2.out.get 3 _ rfl).1
  have m4 := (XX2.out.get 4 _ rfl).1
  have m5 := (XX2.out.get 5 _ rfl).1
  go_wp2_with fail
  refine (F.out _ SS2.out.rd).mono ?_
  rintro e w13 ⟨rfl, r⟩
  have ss := SS2.out.next r
  have cc := CC2.out.keep r.keep (SS2.out.ne (Nat.le_refl _))
  have xx := XX2.out.keep r.keep (SS2.out.ne (by omega))
  have rr := RR2.out.keep r.keep (SS2.out.ne (by omega))
  have SS3 := hide ss
  have CC3 := hide cc
  have XX3 := hide xx
  have RR3 := hide rr
  clear ss cc xx rr r F SS2 CC2 XX2 RR2 m0 m1 m2 m3 m4 m5
  have F := fun w' h => readSlot_s p a c l s3 w' h
  generalize hq4 : slotM l s3 = q4 at F
  obtain ⟨⟨n4a, n4b⟩, s4⟩ := q4
  simp only at F
  have F := hide F
  have HQ4 := hide hq4
  clear hq4
  have m0 := (XX3.out.get 0 _ rfl).1
  have m1 := (XX3.out.get 1 _ rfl).1
  have m2 := (XX3.out.get 2 _ rfl).1
  have m3 := (XX3.out.get 3 _ rfl).1
  have m4 := (XX3.out.get 4 _ rfl).1
  have m5 := (XX3.out.get 5 _ rfl).1
  go_wp2_with fail
  refine (F.out _ SS3.out.rd).mono ?_
  rintro e w14 ⟨rfl, r⟩
  have ss := SS3.out.next r
  have cc := CC3.out.keep r.keep (SS3.out.ne (Nat.le_refl _))
  have xx := XX3.out.keep r.keep (SS3.out.ne (by omega))
  have rr := RR3.out.keep r.keep (SS3.out.ne (by omega))
  have k4 := rr.cells.get 4 _ rfl
  obtain ⟨k4, z4⟩ := k4
  have k5 := rr.cells.get 5 _ rfl
  obtain ⟨k5, z5⟩ := k5
  have k6 := rr.cells.get 6 _ rfl
  obtain ⟨k6, z6⟩ := k6
  have k7 := rr.cells.get 7 _ rfl
  obtain ⟨k7, z7⟩ := k7
  have SS4 := hide ((((ss.store (b := br) (j := 4) (by omega) (.int .i64 n3a)).store (b := br) (j := 5) (by omega) (.int .i64 n3b)).store (b := br) (j := 6) (by omega) (.int .i64 n4a)).store (b := br) (j := 7) (by omega) (.int .i64 n4b))
  have CC4 := hide (cc.keep (((((Keep.refl (fun k => k = br) w14).setCell (fun _ => rfl) (.int .i64 n3a) (j := 4)).setCell (fun _ => rfl) (.int .i64 n3b) (j := 5)).setCell (fun _ => rfl) (.int .i64 n4a) (j := 6)).setCell (fun _ => rfl) (.int .i64 n4b) (j := 7)) (by omega))
  have XX4 := hide ((((xx.other (g := br) (j := 4) (y := .int .i64 n3a) (by omega)).other (g := br) (j := 5) (y := .int .i64 n3b) (by omega)).other (g := br) (j := 6) (y := .int .i64 n4a) (by omega)).other (g := br) (j := 7) (y := .int .i64 n4b) (by omega))
  have RR4 := ((((rr.setCell 4 (.int .i64 n3a)).setCell 5 (.int .i64 n3b)).setCell 6 (.int .i64 n4a)).setCell 7 (.int .i64 n4b))
  simp only [List.setIfInBounds_toArray, List.set_cons_zero, List.set_cons_succ] at RR4
  have RR4 := hide RR4
  clear ss cc xx rr r F SS3 CC3 XX3 RR3 m0 m1 m2 m3 m4 m5
  go_upto_region 9 with fail
  generalize hWn : ((((w14.setCell ⟨br, 4, none⟩ (.int .i64 n3a)).setCell ⟨br, 5, none⟩ (.int .i64 n3b)).setCell ⟨br, 6, none⟩ (.int .i64 n4a)).setCell ⟨br, 7, none⟩ (.int .i64 n4b)) = W4 at *
  clear hWn k4 z4 k5 z5 k6 z6 k7 z7
  have F := fun w' h => take_r p a c l s4 w' h
  generalize hq5 : takeM l s4 = q5 at F
  obtain ⟨n5, s5⟩ := q5
  simp only at F
  have F := hide F
  have HQ5 := hide hq5
  clear hq5
  have m0 := (XX4.out.get 0 _ rfl).1
  have m1 := (XX4.out.get 1 _ rfl).1
  have m2 := (XX4.out.get 2 _ rfl).1
  have m3 := (XX4.out.get 3 _ rfl).1
  have m4 := (XX4.out.get 4 _ rfl).1
  have m5 := (XX4.out.get 5 _ rfl).1
  go_wp2_with fail
  refine (F.out _ SS4.out.rd).mono ?_
  rintro e w15 ⟨rfl, r⟩
  have ss := SS4.out.next r
  have cc := CC4.out.keep r.keep (SS4.out.ne (Nat.le_refl _))
  have xx := XX4.out.keep r.keep (SS4.out.ne (by omega))
  have rr := RR4.out.keep r.keep (SS4.out.ne (by omega))
  have k9 := rr.cells.get 9 _ rfl
  obtain ⟨k9, z9⟩ := k9
  have SS5 := hide (ss.store (b := br) (j := 9) (by omega) (.int .i64 n5))
  have CC5 := hide (cc.keep ((Keep.refl (fun k => k = br) w15).setCell (fun _ => rfl) (.int .i64 n5) (j := 9)) (by omega))
  have XX5 := hide (xx.other (g := br) (j := 9) (y := .int .i64 n5) (by omega))
  have RR5 := (rr.setCell 9 (.int .i64 n5))
  simp only [List.setIfInBounds_toArray, List.set_cons_zero, List.set_cons_succ] at RR5
  have RR5 := hide RR5
  clear ss cc xx rr r F SS4 CC4 XX4 RR4 m0 m1 m2 m3 m4 m5
  go_upto_region 10 with fail
  generalize hWn : (w15.setCell ⟨br, 9, none⟩ (.int .i64 n5)) = W5 at *
  clear hWn k9 z9
  have F := fun w' h => readS_r p a c l s5 w' h
  generalize hq6 : signM l s5 = q6 at F
  obtain ⟨n6, s6⟩ := q6
  simp only at F
  have F := hide F
  have HQ6 := hide hq6
  clear hq6
  have m0 := (XX5.out.get 0 _ rfl).1
  have m1 := (XX5.out.get 1 _ rfl).1
  have m2 := (XX5.out.get 2 _ rfl).1
  have m3 := (XX5.out.get 3 _ rfl).1
  have m4 := (XX5.out.get 4 _ rfl).1
  have m5 := (XX5.out.get 5 _ rfl).1
  go_wp2_with fail
  refine (F.out _ SS5.out.rd).mono ?_
  rintro e w16 ⟨rfl, r⟩
  have ss := SS5.out.next r
  have cc := CC5.out.keep r.keep (SS5.out.ne (Nat.le_refl _))
  have xx := XX5.out.keep r.keep (SS5.out.ne (by omega))
  have rr := RR5.out.keep r.keep (SS5.out.ne (by omega))
  have k8 := rr.cells.get 8 _ rfl
  obtain ⟨k8, z8⟩ := k8
  have SS6 := hide (ss.store (b := br) (j := 8) (by omega) (.int .i64 n6))
  have CC6 := hide (cc.keep ((Keep.refl (fun k => k = br) w16).setCell (fun _ => rfl) (.int .i64 n6) (j := 8)) (by omega))
  have XX6 := hide (xx.other (g := br) (j := 8) (y := .int .i64 n6) (by omega))
  have RR6 := (rr.setCell 8 (.int .i64 n6))
  simp only [List.setIfInBounds_toArray, List.set_cons_zero, List.set_cons_succ] at RR6
  have RR6 := hide RR6
  clear ss cc xx rr r F SS5 CC5 XX5 RR5 m0 m1 m2 m3 m4 m5
  go_upto_region 16 with fail
  generalize hWn : (w16.setCell ⟨br, 8, none⟩ (.int .i64 n6)) = W6 at *
  clear hWn k8 z8
  have m0 := (XX6.out.get 0 _ rfl).1
  have m1 := (XX6.out.get 1 _ rfl).1
  have m2 := (XX6.out.get 2 _ rfl).1
  have m3 := (XX6.out.get 3 _ rfl).1
  have m4 := (XX6.out.get 4 _ rfl).1
  have m5 := (XX6.out.get 5 _ rfl).1
  go_upto_region 18 with fail
  go_wp2_with (first | refine wpList_load36 RR6.out rfl rfl ?_ | (refine wpList_store36 CC6.out rfl rfl rfl rfl rfl ?_; intro wf hbf hkf))
  have ee := HRR.out
  simp only [HQ1.out, HQ2.out, HQ3.out, HQ4.out, HQ5.out, HQ6.out] at ee
  subst ee
  exact bodyPost_ret (results_box rfl _ _ rfl hbf rfl) rfl ⟨_, rfl, SS6.out.touch hkf (fun k q => by omega), none, none, 0, 0, rfl, World.ownsRow_nil _ _ _ _, World.ownsRow_nil _ _ _ _, nofun⟩

end Go.Proofs.YtgpmghdoofcpaaaGreat
