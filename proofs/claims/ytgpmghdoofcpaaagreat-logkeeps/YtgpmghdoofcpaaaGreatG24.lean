import Derived.Test.YtgpmghdoofcpaaaGreatG22
namespace Go.Proofs.YtgpmghdoofcpaaaGreat
open Go.RowKit Go.QK

set_option maxRecDepth 100000
set_option maxHeartbeats 4000000 in
theorem read_pat5 (kn : Nat) (p : Nat) (a : Option Addr) (c : Nat) (l : List Nat) (s : RS) (w : World) (h : Rds w p a c l s) (hk1 : 1 ≤ kn) (hk8 : kn ≤ 8)
    (e1 : hTx kn = true) (e2 : hPrev kn = true) (e3 : hCtr kn = false) (e4 : hFirst kn = false) (e5 : hDelta kn = false) (e6 : hPts kn = false) :
    Calls Tryz.prog 72 #[.pointer (some ⟨p, 0, none⟩), .int .i64 kn] w fun x w' => ∃ v, x = .returned v ∧ RSt w p a c l w' (readM kn l s).2 ∧ RecOut w.heap.size w' v (readM kn l s).1 := by
  have g0 := fun w => fieldsOf_any kn (by omega) (by omega) w
  simp only [hasC, e1, e2, e3, e4, e5, e6] at g0
  obtain ⟨RR, hRR⟩ : ∃ q, q = readM kn l s := ⟨_, rfl⟩
  rw [← hRR]
  simp only [readM, condM, e1, e2, e3, e4, e5, e6, bindM, pureM, cond_true, cond_false, zeroR] at hRR
  have HRR := hide hRR
  have st0 := (RSt.start h).below (alloc_below w (.cells #[.int .i64 0, .int .i64 0, .int .i64 0, .int .i64 0, .int .i64 0, .int .i64 0, .int .i64 0, .int .i64 0, .int .i64 0, .int .i64 0, .int .i64 0, .int .i64 0, .int .i64 0, .int .i64 0, .slice none 0 0, .slice none 0 0, .int .i64 0] 44))
  have C0 := RBox.new w #[.int .i64 0, .int .i64 0, .int .i64 0, .int .i64 0, .int .i64 0, .int .i64 0, .int .i64 0, .int .i64 0, .int .i64 0, .int .i64 0, .int .i64 0, .int .i64 0, .int .i64 0, .int .i64 0, .slice none 0 0, .slice none 0 0, .int .i64 0] 44
  generalize hw0 : w.alloc (.cells #[.int .i64 0, .int .i64 0, .int .i64 0, .int .i64 0, .int .i64 0, .int .i64 0, .int .i64 0, .int .i64 0, .int .i64 0, .int .i64 0, .int .i64 0, .int .i64 0, .int .i64 0, .int .i64 0, .slice none 0 0, .slice none 0 0, .int .i64 0] 44) = w0 at *
  have ST0 := hide st0
  clear st0 h e1 e2 e3 e4 e5 e6 hRR
  go_enter Tryz.func72, Tryz.ntmps72
  go_wp2_with fail
  refine (g0 _).mono ?_
  rintro e w1 ⟨rfl, b1⟩
  have ST1 := ST0.out.below b1
  have C1 := C0.below b1
  have X1 := Cells.new w1 #[.bool true, .bool true, .bool false, .bool false, .bool false, .bool false] 158
  have ST2 := ST1.below (alloc_below w1 (.cells #[.bool true, .bool true, .bool false, .bool false, .bool false, .bool false] 158))
  have C2 := C1.below (alloc_below w1 (.cells #[.bool true, .bool true, .bool false, .bool false, .bool false, .bool false] 158))
  have lt1 := C1.lt
  have le1 := ST1.size
  generalize hw2 : w1.alloc (.cells #[.bool true, .bool true, .bool false, .bool false, .bool false, .bool false] 158) = w2 at *
  have HW2 := hide hw2
  have ST2 := hide ST2
  clear hw2 hw0 ST1 C1 C0 b1 ST0 g0
  go_upto_region 2 with fail
  rw [HW2.out]
  generalize w1.heap.size = bx at *
  clear HW2
  have lt2 := X1.1
  have C3 := C2.below (alloc_below w2 (.cells #[.int .i64 0, .int .i64 0, .int .i64 0, .int .i64 0, .int .i64 0, .int .i64 0, .int .i64 0, .int .i64 0, .int .i64 0, .int .i64 0, .int .i64 0, .int .i64 0, .int .i64 0, .int .i64 0, .slice none 0 0, .slice none 0 0, .int .i64 0] 44))
  have X3 := X1.below (alloc_below w2 (.cells #[.int .i64 0, .int .i64 0, .int .i64 0, .int .i64 0, .int .i64 0, .int .i64 0, .int .i64 0, .int .i64 0, .int .i64 0, .int .i64 0, .int .i64 0, .int .i64 0, .int .i64 0, .int .i64 0, .slice none 0 0, .slice none 0 0, .int .i64 0] 44))
  have ST3 := ST2.out.below (alloc_below w2 (.cells #[.int .i64 0, .int .i64 0, .int .i64 0, .int .i64 0, .int .i64 0, .int .i64 0, .int .i64 0, .int .i64 0, .int .i64 0, .int .i64 0, .int .i64 0, .int .i64 0, .int .i64 0, .int .i64 0, .slice none 0 0, .slice none 0 0, .int .i64 0] 44))
  go_upto_region 3 with (refine wpList_store36 (RBox.new _ _ _) rfl rfl rfl rfl rfl ?_; intro W0 R3 hk3)
  have RR0 := hide R3
  have CC0 := hide (C3.keep hk3 (by omega))
  have XX0 := hide (X3.keep hk3 (by omega))
  have SS0 := hide (ST3.touch hk3 (fun k q => by omega))
  generalize w2.heap.size = br at *
  clear C2 C3 X1 X3 ST2 ST3 R3 hk3
  have F := fun w' h => take_r p a c l s w' h
  generalize hq1 : takeM l s = q1 at F
  obtain ⟨n1, s1⟩ := q1
  simp only at F
  have F := hide F
  have HQ1 := hide hq1
  clear hq1
  have m0 := (XX0.out.get 0 _ rfl).1
  have m1 := (XX0.out.get 1 _ rfl).1
  have m2 := (XX0.out.get 2 _ rfl).1
  have m3 := (XX0.out.get 3 _ rfl).1
  have m4 := (XX0.out.get 4 _ rfl).1
  have m5 := (XX0.out.get 5 _ rfl).1
  go_wp2_with fail
  refine (F.out _ SS0.out.rd).mono ?_
  rintro e w11 ⟨rfl, r⟩
  have ss := SS0.out.next r
  have cc := CC0.out.keep r.keep (SS0.out.ne (Nat.le_refl _))
  have xx := XX0.out.keep r.keep (SS0.out.ne (by omega))
  have rr := RR0.out.keep r.keep (SS0.out.ne (by omega))
  have k2 := rr.cells.get 2 _ rfl
  obtain ⟨k2, z2⟩ := k2
  have SS1 := hide (ss.store (b := br) (j := 2) (by omega) (.int .i64 n1))
  have CC1 := hide (cc.keep ((Keep.refl (fun k => k = br) w11).setCell (fun _ => rfl) (.int .i64 n1) (j := 2)) (by omega))
  have XX1 := hide (xx.other (g := br) (j := 2) (y := .int .i64 n1) (by omega))
  have RR1 := (rr.setCell 2 (.int .i64 n1))
  simp only [List.setIfInBounds_toArray, List.set_cons_zero, List.set_cons_succ] at RR1
  have RR1 := hide RR1
  clear ss cc xx rr r F SS0 CC0 XX0 RR0 m0 m1 m2 m3 m4 m5
  go_upto_region 5 with fail
  generalize hWn : (w11.setCell ⟨br, 2, none⟩ (.int .i64 n1)) = W1 at *
  clear hWn k2 z2
  have F := fun w' h => take_r p a c l s1 w' h
  generalize hq2 : takeM l s1 = q2 at F
  obtain ⟨n2, s2⟩ := q2
  simp only at F
  have F := hide F
  have HQ2 := hide hq2
  clear hq2
  have m0 := (XX1.out.get 0 _ rfl).1
  have m1 := (XX1.out.get 1 _ rfl).1
  have m2 := (XX1.out.get 2 _ rfl).1
  have m3 := (XX1.out.get 3 _ rfl).1
  have m4 := (XX1.out.get 4 _ rfl).1
  have m5 := (XX1.out.get 5 _ rfl).1
  go_wp2_with fail
  refine (F.out _ SS1.out.rd).mono ?_
  rintro e w12 ⟨rfl, r⟩
  have ss := SS1.out.next r
  have cc := CC1.out.keep r.keep (SS1.out.ne (Nat.le_refl _))
  have xx := XX1.out.keep r.keep (SS1.out.ne (by omega))
  have rr := RR1.out.keep r.keep (SS1.out.ne (by omega))
  have k3 := rr.cells.get 3 _ rfl
  obtain ⟨k3, z3⟩ := k3
  have SS2 := hide (ss.store (b := br) (j := 3) (by omega) (.int .i64 n2))
  have CC2 := hide (cc.keep ((Keep.refl (fun k => k = br) w12).setCell (fun _ => rfl) (.int .i64 n2) (j := 3)) (by omega))
  have XX2 := hide (xx.other (g := br) (j := 3) (y := .int .i64 n2) (by omega))
  have RR2 := (rr.setCell 3 (.int .i64 n2))
  simp only [List.setIfInBounds_toArray, List.set_cons_zero, List.set_cons_succ] at RR2
  have RR2 := hide RR2
  clear ss cc xx rr r F SS1 CC1 XX1 RR1 m0 m1 m2 m3 m4 m5
  go_upto_region 7 with fail
  generalize hWn : (w12.setCell ⟨br, 3, none⟩ (.int .i64 n2)) = W2 at *
  clear hWn k3 z3
  have m0 := (XX2.out.get 0 _ rfl).1
  have m1 := (XX2.out.get 1 _ rfl).1
  have m2 := (XX2.out.get 2 _ rfl).1
  have m3 := (XX2.out.get 3 _ rfl).1
  have m4 := (XX2.out.get 4 _ rfl).1
  have m5 := (XX2.out.get 5 _ rfl).1
  go_upto_region 18 with fail
  go_wp2_with (first | refine wpList_load36 RR2.out rfl rfl ?_ | (refine wpList_store36 CC2.out rfl rfl rfl rfl rfl ?_; intro wf hbf hkf))
  have ee := HRR.out
  simp only [HQ1.out, HQ2.out] at ee
  subst ee
  exact bodyPost_ret (results_box rfl _ _ rfl hbf rfl) rfl ⟨_, rfl, SS2.out.touch hkf (fun k q => by omega), none, none, 0, 0, rfl, World.ownsRow_nil _ _ _ _, World.ownsRow_nil _ _ _ _, nofun⟩

end Go.Proofs.YtgpmghdoofcpaaaGreat

namespace Go.Proofs.YtgpmghdoofcpaaaGreat
open Go.RowKit Go.QK

set_option maxRecDepth 100000
set_option maxHeartbeats 4000000 in
theorem read_pat8 (kn : Nat) (p : Nat) (a : Option Addr) (c : Nat) (l : List Nat) (s : RS) (w : World) (h : Rds w p a c l s) (hk1 : 1 ≤ kn) (hk8 : kn ≤ 8)
    (e1 : hTx kn = false) (e2 : hPrev kn = false) (e3 : hCtr kn = false) (e4 : hFirst kn = false) (e5 : hDelta kn = false) (e6 : hPts kn = true) :
    Calls Tryz.prog 72 #[.pointer (some ⟨p, 0, none⟩), .int .i64 kn] w fun x w' => ∃ v, x = .returned v ∧ RSt w p a c l w' (readM kn l s).2 ∧ RecOut w.heap.size w' v (readM kn l s).1 := by
  have g0 := fun w => fieldsOf_any kn (by omega) (by omega) w
  simp only [hasC, e1, e2, e3, e4, e5, e6] at g0
  obtain ⟨RR, hRR⟩ : ∃ q, q = readM kn l s := ⟨_, rfl⟩
  rw [← hRR]
  simp only [readM, condM, e1, e2, e3, e4, e5, e6, bindM, pureM, cond_true, cond_false, zeroR] at hRR
  have HRR := hide hRR
  have st0 := (RSt.start h).below (alloc_below w (.cells #[.int .i64 0, .int .i64 0, .int .i64 0, .int .i64 0, .int .i64 0, .int .i64 0, .int .i64 0, .int .i64 0, .int .i64 0, .int .i64 0, .int .i64 0, .int .i64 0, .int .i64 0, .int .i64 0, .slice none 0 0, .slice none 0 0, .int .i64 0] 44))
  have C0 := RBox.new w #[.int .i64 0, .int .i64 0, .int .i64 0, .int .i64 0, .int .i64 0, .int .i64 0, .int .i64 0, .int .i64 0, .int .i64 0, .int .i64 0, .int .i64 0, .int .i64 0, .int .i64 0, .int .i64 0, .slice none 0 0, .slice none 0 0, .int .i64 0] 44
  generalize hw0 : w.alloc (.cells #[.int .i64 0, .int .i64 0, .int .i64 0, .int .i64 0, .int .i64 0, .int .i64 0, .int .i64 0, .int .i64 0, .int .i64 0, .int .i64 0, .int .i64 0, .int .i64 0, .int .i64 0, .int .i64 0, .slice none 0 0, .slice none 0 0, .int .i64 0] 44) = w0 at *
  have ST0 := hide st0
  clear st0 h e1 e2 e3 e4 e5 e6 hRR
  go_enter Tryz.func72, Tryz.ntmps72
  go_wp2_with fail
  refine (g0 _).mono ?_
  rintro e w1 ⟨rfl, b1⟩
  have ST1 := ST0.out.below b1
  have C1 := C0.below b1
  have X1 := Cells.new w1 #[.bool false, .bool false, .bool false, .bool false, .bool false, .bool true] 158
  have ST2 := ST1.below (alloc_below w1 (.cells #[.bool false, .bool false, .bool false, .bool false, .bool false, .bool true] 158))
  have C2 := C1.below (alloc_below w1 (.cells #[.bool false, .bool false, .bool false, .bool false, .bool false, .bool true] 158))
  have lt1 := C1.lt
  have le1 := ST1.size
  generalize hw2 : w1.alloc (.cells #[.bool false, .bool false, .bool false, .bool false, .bool false, .bool true] 158) = w2 at *
  have HW2 := hide hw2
  have ST2 := hide ST2
  clear hw2 hw0 ST1 C1 C0 b1 ST0 g0
  go_upto_region 2 with fail
  rw [HW2.out]
  generalize w1.heap.size = bx at *
  clear HW2
  have lt2 := X1.1
  have C3 := C2.below (alloc_below w2 (.cells #[.int .i64 0, .int .i64 0, .int .i64 0, .int .i64 0, .int .i64 0, .int .i64 0, .int .i64 0, .int .i64 0, .int .i64 0, .int .i64 0, .int .i64 0, .int .i64 0, .int .i64 0, .int .i64 0, .slice none 0 0, .slice none 0 0, .int .i64 0] 44))
  have X3 := X1.below (alloc_below w2 (.cells #[.int .i64 0, .int .i64 0, .int .i64 0, .int .i64 0, .int .i64 0, .int .i64 0, .int .i64 0, .int .i64 0, .int .i64 0, .int .i64 0, .int .i64 0, .int .i64 0, .int .i64 0, .int .i64 0, .slice none 0 0, .slice none 0 0, .int .i64 0] 44))
  have ST3 := ST2.out.below (alloc_below w2 (.cells #[.int .i64 0, .int .i64 0, .int .i64 0, .int .i64 0, .int .i64 0, .int .i64 0, .int .i64 0, .int .i64 0, .int .i64 0, .int .i64 0, .int .i64 0, .int .i64 0, .int .i64 0, .int .i64 0, .slice none 0 0, .slice none 0 0, .int .i64 0] 44))
  go_upto_region 3 with (refine wpList_store36 (RBox.new _ _ _) rfl rfl rfl rfl rfl ?_; intro W0 R3 hk3)
  have RR0 := hide R3
  have CC0 := hide (C3.keep hk3 (by omega))
  have XX0 := hide (X3.keep hk3 (by omega))
  have SS0 := hide (ST3.touch hk3 (fun k q => by omega))
  generalize w2.heap.size = br at *
  clear C2 C3 X1 X3 ST2 ST3 R3 hk3
  have F := fun w' h => readPoints_s p a c l s w' h
  generalize hq1 : pointsM l s = q1 at F
  obtain ⟨⟨nx, ls, ds⟩, s1⟩ := q1
  simp only at F
  have F := hide F
  have HQ1 := hide hq1
  clear hq1
  have m0 := (XX0.out.get 0 _ rfl).1
  have m1 := (XX0.out.get 1 _ rfl).1
  have m2 := (XX0.out.get 2 _ rfl).1
  have m3 := (XX0.out.get 3 _ rfl).1
  have m4 := (XX0.out.get 4 _ rfl).1
  have m5 := (XX0.out.get 5 _ rfl).1
  go_wp2_with fail
  refine (F.out _ SS0.out.rd).mono ?_
  rintro e w11 ⟨vL, vD, rfl, r, rl, rd, ld⟩
  have ss := SS0.out.next r
  have cc := CC0.out.keep r.keep (SS0.out.ne (Nat.le_refl _))
  have xx := XX0.out.keep r.keep (SS0.out.ne (by omega))
  have rr := RR0.out.keep r.keep (SS0.out.ne (by omega))
  have sz := SS0.out.size
  obtain ⟨aL, cL, eL, _⟩ := GRow.lies rl
  obtain ⟨aD, cD, eD, _⟩ := GRow.lies rd
  subst eL eD
  have bL : ∀ g, (Value.slice aL ls.length cL).ownBlock = some g → W0.heap.size ≤ g := fun g q => (World.ownsRow.lt rl g q).1
  have bD : ∀ g, (Value.slice aD ds.length cD).ownBlock = some g → W0.heap.size ≤ g := fun g q => (World.ownsRow.lt rd g q).1
  have brl := RR0.out.lt
  have bcl := CC0.out.lt
  have rl := GRow.mono rl sz
  have rd := GRow.mono rd sz
  have kk := (((Keep.refl (fun k => k = br) w11).setCell (fun _ => rfl) (.slice aL ls.length cL) (j := 14)).setCell (fun _ => rfl) (.slice aD ds.length cD) (j := 15)).setCell (fun _ => rfl) (.int .i64 nx) (j := 16)
  have rl := GRow.keep rl kk (fun g q e => by have := bL g q; have e1 : g = br := e; omega)
  have rd := GRow.keep rd kk (fun g q e => by have := bD g q; have e1 : g = br := e; omega)
  have BL := hide (show ∀ g, (Value.slice aL ls.length cL).ownBlock = some g → w.heap.size < g from fun g q => by have := bL g q; omega)
  have BD := hide (show ∀ g, (Value.slice aD ds.length cD).ownBlock = some g → w.heap.size < g from fun g q => by have := bD g q; omega)
  have k14 := rr.cells.get 14 _ rfl
  obtain ⟨k14, z14⟩ := k14
  have k15 := rr.cells.get 15 _ rfl
  obtain ⟨k15, z15⟩ := k15
  have k16 := rr.cells.get 16 _ rfl
  obtain ⟨k16, z16⟩ := k16
  have SS1 := hide (((ss.store (b := br) (j := 14) (by omega) (.slice aL ls.length cL)).store (b := br) (j := 15) (by omega) (.slice aD ds.length cD)).store (b := br) (j := 16) (by omega) (.int .i64 nx))
  have CC1 := hide (cc.keep ((((Keep.refl (fun k => k = br) w11).setCell (fun _ => rfl) (.slice aL ls.length cL) (j := 14)).setCell (fun _ => rfl) (.slice aD ds.length cD) (j := 15)).setCell (fun _ => rfl) (.int .i64 nx) (j := 16)) (by omega))
  have XX1 := hide (((xx.other (g := br) (j := 14) (y := .slice aL ls.length cL) (by omega)).other (g := br) (j := 15) (y := .slice aD ds.length cD) (by omega)).other (g := br) (j := 16) (y := .int .i64 nx) (by omega))
  have RR1 := (((rr.setCell 14 (.slice aL ls.length cL)).setCell 15 (.slice aD ds.length cD)).setCell 16 (.int .i64 nx))
  simp only [List.setIfInBounds_toArray, List.set_cons_zero, List.set_cons_succ] at RR1
  have RR1 := hide RR1
  have RL := hide rl
  have RD := hide rd
  have LD := hide ld
  clear rl rd ld kk bL bD brl bcl
  clear ss cc xx rr r F SS0 CC0 XX0 RR0 m0 m1 m2 m3 m4 m5
  go_upto_region 18 with fail
  generalize hWn : (((w11.setCell ⟨br, 14, none⟩ (.slice aL ls.length cL)).setCell ⟨br, 15, none⟩ (.slice aD ds.length cD)).setCell ⟨br, 16, none⟩ (.int .i64 nx)) = W1 at *
  clear hWn k14 z14 k15 z15 k16 z16
  have m0 := (XX1.out.get 0 _ rfl).1
  have m1 := (XX1.out.get 1 _ rfl).1
  have m2 := (XX1.out.get 2 _ rfl).1
  have m3 := (XX1.out.get 3 _ rfl).1
  have m4 := (XX1.out.get 4 _ rfl).1
  have m5 := (XX1.out.get 5 _ rfl).1
  go_wp2_with (first | refine wpList_load36 RR1.out rfl rfl ?_ | (refine wpList_store36 CC1.out rfl rfl rfl rfl rfl ?_; intro wf hbf hkf))
  have ee := HRR.out
  simp only [HQ1.out] at ee
  subst ee
  exact bodyPost_ret (results_box rfl _ _ rfl hbf rfl) rfl ⟨_, rfl, SS1.out.touch hkf (fun k q => by omega), aL, aD, cL, cD, rfl, GRow.keep RL.out hkf (fun g q e => by have := BL.out g q; have e1 : g = w.heap.size := e; omega), GRow.keep RD.out hkf (fun g q e => by have := BD.out g q; have e1 : g = w.heap.size := e; omega), LD.out⟩

end Go.Proofs.YtgpmghdoofcpaaaGreat
