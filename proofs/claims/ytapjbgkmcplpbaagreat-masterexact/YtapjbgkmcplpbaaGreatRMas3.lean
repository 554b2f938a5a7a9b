import Derived.Test.YtapjbgkmcplpbaaGreatRMas2
namespace Go.Proofs.YtapjbgkmcplpbaaGreat
open Go.RowKit Go.QK

set_option maxHeartbeats 4000000 in
set_option maxRecDepth 100000 in
theorem rFormat_any {w : World} {S : Nat → Prop} {d : Nat} {g : Dev} (h : RDev w S d g) (p l f : Int) (hpl : g.pend.length ≤ 999990) (hcl : g.calls ≤ 999990) :
    Calls Tryz.prog 52 #[.pointer (some ⟨d, 0, none⟩), .agg (shC p l f)] w fun e w' => ∃ S', e = .returned (.int .i64 ((g.formatE p l f : Nat) : Int)) ∧ RDev w' S' d (g.formatD p l f) ∧ Step w S w' S' := by
  obtain ⟨w1, hw1⟩ : ∃ w1, w1 = w.alloc (.cells #[.int .i64 p, .int .i64 l, .int .i64 f] 23) := ⟨_, rfl⟩
  have C1 : cell3 w1 w.heap.size p l f := by rw [hw1]; exact cell3.new w p l f
  have b1 : Below w.heap.size w w1 := by rw [hw1]; exact alloc_below _ _
  have P1 := h.below b1
  have KN := rNeed_any p l f w1
  have ln1 := @Dev.put_len g 0 zerosB
  have LN1 := hide ln1
  have HLT := hide h.lt
  obtain ⟨ee, hee⟩ : ∃ ee, ee = g.formatE p l f := ⟨_, rfl⟩
  obtain ⟨gg, hgg⟩ : ∃ gg, gg = g.formatD p l f := ⟨_, rfl⟩
  rw [← hee, ← hgg]
  unfold Dev.formatE at hee
  unfold Dev.formatD at hgg
  have KS : ∀ w', RDev w' S d g → Calls Tryz.prog 74 #[.pointer (some ⟨d, 0, none⟩)] w' fun e w'' => e = .returned (.int .i64 ((g.n : Nat) : Int)) ∧ w'' = w' := fun w' hh => rSectors_any hh
  obtain ⟨nd, hnd⟩ : ∃ nd, nd = needN p l f := ⟨_, rfl⟩
  obtain ⟨me, hme⟩ : ∃ me : Int, me = ((mayE p l f : Nat) : Int) := ⟨_, rfl⟩
  rw [← hnd, ← hme] at KN
  obtain ⟨gn, hgn⟩ : ∃ gn : Nat, gn = g.n := ⟨_, rfl⟩
  rw [← hgn] at KS hee hgg
  have HE := hide hee
  have HG := hide hgg
  have HP := hide P1
  have B1 := hide b1
  have HC := hide C1
  have HW := hide hw1
  have KS := hide KS
  unfold shC at KN
  have KN := hide KN
  have HND := hide hnd
  have HME := hide hme
  have c0 := C1.c0
  have c1 := C1.c1
  have c2 := C1.c2
  clear hw1 P1 b1 C1 hee hgg ln1 h hnd hme
  unfold shC
  go_enter Tryz.func52, Tryz.ntmps52
  go_upto_region 3 with fail
  rw [← HW.out]
  clear HW
  go_wp2_with fail
  refine KN.out.mono ?_
  rintro e w2 ⟨rfl, b2⟩
  have P2 := hide (HP.out.below b2)
  have C2 := hide (HC.out.below b2)
  have B2 := hide (bnext B1.out b2 (Nat.le_refl _))
  have hi2 : w.heap.size < w2.heap.size := C2.out.1
  clear b2 KN HP HC B1 c0 c1 c2
  by_cases hm : mayN p l f
  · have e2 : (me != 0) = false := by rw [HME.out, show mayE p l f = 0 from if_pos hm]; rfl
    have e1 : nd = 5 + 2 * p + l := HND.out.trans (if_pos hm)
    have KQ := hide (KS.out w2 P2.out)
    by_cases hf : nd = (gn : Int)
    · have fits : fitsN p l f (gn : Int) := ⟨hm, by rw [← e1]; exact hf⟩
      rw [if_neg (not_not_intro fits)] at HE HG
      have e3 : (nd != (gn : Int)) = false := by simpa using hf
      have KD := rDown_any P2.out
      unfold mayN at hm
      obtain ⟨Q, rfl⟩ : ∃ Q : Nat, p = (Q : Int) := ⟨p.toNat, by omega⟩
      obtain ⟨L, rfl⟩ : ∃ L : Nat, l = (L : Int) := ⟨l.toNat, by omega⟩
      obtain ⟨F, rfl⟩ : ∃ F : Nat, f = (F : Int) := ⟨f.toNat, by omega⟩
      have fS : firstS (Q : Int) (L : Int) (F : Int) = ⟨1, Q, L, F, 0⟩ := by simp [firstS]
      rw [fS] at HE HG
      have fit : Slot.Fit ⟨1, Q, L, F, 0⟩ := ⟨by simp, by simp; omega, by simp; omega, by simp; omega, by simp⟩
      have FIT := hide fit
      clear fS hm fit e1 hf fits
      cases hd : g.down with
      | true =>
        rw [hd] at KD
        have w0 : g.writeE 0 zerosB.length = 40 := by unfold Dev.writeE Dev.reach; rw [hd]; rfl
        have p0 : g.putE 0 zerosB = 40 := by unfold Dev.putE; rw [w0]; rfl
        have pd : g.putD 0 zerosB = g := by unfold Dev.putD; rw [w0, if_pos (by decide)]; unfold Dev.write Dev.reach; rw [hd]; rfl
        rw [p0, if_pos (by decide)] at HE
        rw [p0, if_pos (by decide), pd] at HG
        have KD := hide KD
        clear w0 p0 pd hd
        go_wp2_with fail
        refine KQ.out.mono ?_
        rintro e w' ⟨rfl, hw⟩
        obtain rfl : w2 = w' := hw.symm
        clear KQ
        go_wp2_with fail
        refine KD.out.mono ?_
        rintro e w' ⟨rfl, hw⟩
        obtain rfl : w2 = w' := hw.symm
        go_wp2_with fail
        go_ret
        refine ⟨S, ?_, ?_, Step.of_below B2.out⟩
        · rw [HE.out]; rfl
        · rw [HG.out]; exact P2.out
      | false =>
        rw [hd] at KD
        have KD := hide KD
        clear hd
        obtain ⟨w3, m3, o3, b3, h3⟩ := makeB w2 512 (by omega)
        simp only [show ((512 : Nat) : Int) = 512 from rfl] at m3
        have KP := written_any (P2.out.below b3) 0 (some ⟨w2.heap.size, 0, none⟩) zerosB 512 (Owns.seen_at o3) (by kernel_rfl) (by omega) nofun (fun x hx => by rw [List.eq_of_mem_replicate hx]; decide) (by omega) (by omega)
        have KP := hide KP
        have C3 := hide (C2.out.below b3)
        have B3 := hide (bnext B2.out b3 (Nat.le_refl _))
        clear o3 b3 h3
        go_wp2_with fail
        refine KQ.out.mono ?_
        rintro e w' ⟨rfl, hw⟩
        obtain rfl : w2 = w' := hw.symm
        clear KQ
        go_wp2_with fail
        refine KD.out.mono ?_
        rintro e w' ⟨rfl, hw⟩
        obtain rfl : w2 = w' := hw.symm
        clear KD
        go_wp2_with fail
        refine KP.out.mono ?_
        rintro e w4 ⟨S4, rfl, P4, st4⟩
        have C4 := C3.out.keep st4.1 (fun q => by have := HLT.out _ q; omega)
        have HI4 := C4.1
        have c0 := C4.c0
        have c1 := C4.c1
        have c2 := C4.c2
        have ST4 := hide ((Step.of_below B3.out).trans st4)
        have HP4 := hide P4
        clear KP C3 B3 st4 C4 P2 P4 m3
        by_cases he : g.putE 0 zerosB = 0
        · rw [if_neg (not_not_intro he)] at HE HG
          have KL := rSlot_any ⟨1, Q, L, F, 0⟩ FIT.out w4
          unfold shC at KL
          simp only [Int.natCast_one, Int.natCast_zero] at KL
          have KL := hide KL
          rw [he]
          have KW : ∀ w' gs, Below w4.heap.size w4 w' → OwnB w' w4.heap.size (.slice (some ⟨gs, 0, none⟩) 512 512) (slotB ⟨1, Q, L, F, 0⟩) → Calls Tryz.prog 75 #[.pointer (some ⟨d, 0, none⟩), .int .i64 1, .slice (some ⟨gs, 0, none⟩) 512 512] w' _ := fun w' gs hb ho => written_any (HP4.out.below hb) 1 (some ⟨gs, 0, none⟩) (slotB ⟨1, Q, L, F, 0⟩) 512 (Owns.seen_at ho) (slotB_length _) (by omega) nofun (slotB_allB _) (by have := LN1.out; omega) (by have := LN1.out; omega)
          have KW := hide KW
          go_wp2_with fail
          refine KL.out.mono ?_
          rintro e w5 ⟨gs, rfl, o5, b5⟩
          have KX := hide (KW.out w5 gs b5 o5)
          have B5 := hide b5
          clear o5 b5 KW KL
          go_wp2_with fail
          refine KX.out.mono ?_
          rintro e w6 ⟨S6, rfl, P6, st6⟩
          go_wp2_with fail
          go_ret
          refine ⟨S6, ?_, ?_, ST4.out.trans ((Step.of_below B5.out).trans st6)⟩
          · rw [HE.out]; rfl
          · rw [HG.out]; exact P6
        · rw [if_pos he] at HE HG
          have q2 : (((g.putE 0 zerosB : Nat) : Int) != 0) = true := by simpa using he
          generalize g.putE 0 zerosB = pe at *
          clear he
          go_wp2_with fail
          go_ret
          refine ⟨S4, ?_, ?_, ST4.out⟩
          · rw [HE.out]; rfl
          · rw [HG.out]; exact HP4.out
    · have nf : ¬ fitsN p l f (gn : Int) := fun q => hf (by rw [e1]; exact q.2)
      rw [if_pos nf] at HE HG
      have e3 : (nd != (gn : Int)) = true := by rw [bne_iff_ne]; exact hf
      clear nf hf hm e1
      go_wp2_with fail
      refine KQ.out.mono ?_
      rintro e w' ⟨rfl, hw⟩
      obtain rfl : w2 = w' := hw.symm
      go_wp2_with fail
      go_ret
      refine ⟨S, ?_, ?_, Step.of_below B2.out⟩
      · rw [HE.out]; rfl
      · rw [HG.out]; exact P2.out
  · have nf : ¬ fitsN p l f (gn : Int) := fun q => hm q.1
    rw [if_pos nf] at HE HG
    have e2 : (me != 0) = true := by rw [HME.out, show mayE p l f = 2 from if_neg hm]; rfl
    clear nf hm
    go_wp2_with fail
    go_ret
    refine ⟨S, ?_, ?_, Step.of_below B2.out⟩
    · rw [HE.out]; rfl
    · rw [HG.out]; exact P2.out

set_option maxHeartbeats 2000000 in
set_option maxRecDepth 100000 in
theorem rOpen_any {w : World} {S : Nat → Prop} {d : Nat} {g : Dev} (h : RDev w S d g) (hn : 2 ≤ g.n) (hpl : g.pend.length ≤ 1000000) :
    Calls Tryz.prog 53 #[.pointer (some ⟨d, 0, none⟩)] w fun r w' => r = .returned (.tuple #[.agg (shC g.openS.pages g.openS.log g.openS.frames), .int .i64 (g.openS.point : Int), .int .i64 ((g.openE : Nat) : Int)]) ∧ Below w.heap.size w w' := by
  obtain ⟨w1, hw1⟩ : ∃ w1, w1 = w.alloc (.cells #[.int .i64 0, .int .i64 0, .int .i64 0] 23) := ⟨_, rfl⟩
  have b1 : Below w.heap.size w w1 := by rw [hw1]; exact alloc_below _ _
  have C1 : cell3 w1 w.heap.size 0 0 0 := by rw [hw1]; exact cell3.new w 0 0 0
  have z1 : w1.heap.size = w.heap.size + 1 := by rw [hw1]; simp
  have K := rStands_any (h.below b1) hn hpl
  generalize g.openS = m at *
  generalize g.openE = e at *
  unfold slotC at K
  unfold shC
  have K := hide K
  have HW := hide hw1
  have B1 := hide b1
  have C1 := hide C1
  have Z1 := hide z1
  clear hw1 b1 z1 h hn
  go_enter Tryz.func53, Tryz.ntmps53
  go_wp2_with fail
  rw [← HW.out]
  clear HW
  refine K.out.mono ?_
  rintro r w2 ⟨rfl, b2⟩
  obtain ⟨w3, hw3⟩ : ∃ w3, w3 = w2.alloc (.cells (slotC m) 113) := ⟨_, rfl⟩
  have S3 : SlotAt w3 w2.heap.size m := by rw [hw3]; exact Cells.new w2 (slotC m) 113
  have b3 : Below w2.heap.size w2 w3 := by rw [hw3]; exact alloc_below _ _
  have bb := bnext b2 b3 (Nat.le_refl _)
  have C3 := hide (C1.out.below bb)
  have B3 := hide (bnext B1.out bb (Nat.le_refl _))
  have F3 := S3.five
  have S3 := hide S3
  have z2 : w.heap.size < w2.heap.size := by have := Z1.out; have := b2.size; omega
  have z3 := b3.size
  have HW3 := hide hw3
  unfold slotC at HW3
  have D3 : Below w3.heap.size w3 w3.drew := (Below.refl _ _).drew
  have C4 := hide (C3.out.below D3)
  have B4 := hide (B3.out.drew)
  have q0 := C3.out.c0
  have q1 := C3.out.c1
  have q2 := C3.out.c2
  have f0 := C3.out.fr 0 (by omega)
  have f1 := C3.out.fr 1 (by omega)
  have f2 := C3.out.fr 2 (by omega)
  obtain ⟨w5, hw5⟩ : ∃ w5, w5 = (((w3.setCell ⟨w.heap.size, 0, none⟩ (.int .i64 (m.pages : Int))).setCell ⟨w.heap.size, 1, none⟩ (.int .i64 (m.log : Int))).setCell ⟨w.heap.size, 2, none⟩ (.int .i64 (m.frames : Int))).drew := ⟨_, rfl⟩
  have k5 : Keep (fun b => b = w.heap.size) w3 w5 := by rw [hw5]; exact ((((Keep.refl (fun k => k = w.heap.size) w3).setCell (fun _ => rfl) _).setCell (fun _ => rfl) _).setCell (fun _ => rfl) _).drew
  have C5 := hide (show cell3 w5 w.heap.size m.pages m.log m.frames by rw [hw5]; exact Cells.below (((Cells.stored C3.out (j := 0) (by simp) _).stored (j := 1) (by simp) _).stored (j := 2) (by simp) _) (Below.refl _ _).drew)
  have S5 := hide (S3.out.keep k5 (by omega))
  have B5 := hide (B3.out.trans (k5.below B3.out.size (fun k hk => by omega)))
  have HW5 := hide hw5
  clear hw3 b2 b3 bb K B1 C1 hw5 k5 D3 B3 B4 C3 C4
  go_upto_region 2 with fail
  rw [← HW3.out]
  clear HW3
  refine wp_region_held_drew (S := Five w2.heap.size m) (by kernel_rfl) F3 (fun hS => ?_)
  refine take_at 0 (some 12) (v := ?_) rfl rfl (by kernel_rfl) (by kernel_rfl) (by kernel_rfl) (fun _ _ _ h => h) ⟨by rfl, ?_⟩ hS ?_
  rotate_left
  · intro wq hSw; go_simp; try rfl
  simp only [Act.put, List.setIfInBounds_toArray, List.set_cons_zero, List.set_cons_succ]
  refine take_at 1 (some 13) (v := ?_) rfl rfl (by kernel_rfl) (by kernel_rfl) (by kernel_rfl) (fun _ _ _ h => h) ⟨by rfl, ?_⟩ hS ?_
  rotate_left
  · intro wq hSw; obtain ⟨x0, x1, x2, x3, x4⟩ := hSw; go_simp; try rfl
  simp only [Act.put, List.setIfInBounds_toArray, List.set_cons_zero, List.set_cons_succ]
  refine take_at 2 (some 14) (v := ?_) rfl rfl (by kernel_rfl) (by kernel_rfl) (by kernel_rfl) (fun _ _ _ h => h) ⟨by rfl, ?_⟩ hS ?_
  rotate_left
  · intro wq hSw; go_simp; try rfl
  simp only [Act.put, List.setIfInBounds_toArray, List.set_cons_zero, List.set_cons_succ]
  refine take_at 3 (some 15) (v := ?_) rfl rfl (by kernel_rfl) (by kernel_rfl) (by kernel_rfl) (fun _ _ _ h => h) ⟨by rfl, ?_⟩ hS ?_
  rotate_left
  · intro wq hSw; obtain ⟨x0, x1, x2, x3, x4⟩ := hSw; go_simp; try rfl
  simp only [Act.put, List.setIfInBounds_toArray, List.set_cons_zero, List.set_cons_succ]
  refine take_at 4 (some 16) (v := ?_) rfl rfl (by kernel_rfl) (by kernel_rfl) (by kernel_rfl) (fun _ _ _ h => h) ⟨by rfl, ?_⟩ hS ?_
  rotate_left
  · intro wq hSw; go_simp; try rfl
  simp only [Act.put, List.setIfInBounds_toArray, List.set_cons_zero, List.set_cons_succ]
  refine wpAnyH_ready (rs := [5]) (by kernel_rfl) (by simp) ?_
  refine AllReadyH.cons rfl (fun K hK => ?_) AllReadyH.nil
  go_simp
  go_wp2_with fail
  rw [← HW5.out]
  refine hK.out _ _ S5.out.five (fun hS => ?_)
  clear hK K
  (try simp only [Act.put, List.setIfInBounds_toArray, List.set_cons_zero, List.set_cons_succ])
  refine take_at 6 (some 3) (v := ?_) rfl rfl (by kernel_rfl) (by kernel_rfl) (by kernel_rfl) (fun _ _ _ h => h) ⟨by rfl, ?_⟩ hS ?_
  rotate_left
  · intro wq hSw; go_simp; try rfl
  simp only [Act.put, List.setIfInBounds_toArray, List.set_cons_zero, List.set_cons_succ]
  refine take_at 7 (some 4) (v := ?_) rfl rfl (by kernel_rfl) (by kernel_rfl) (by kernel_rfl) (fun _ _ _ h => h) ⟨by rfl, ?_⟩ hS ?_
  rotate_left
  · intro wq hSw; go_simp; try rfl
  simp only [Act.put, List.setIfInBounds_toArray, List.set_cons_zero, List.set_cons_succ]
  refine wpAnyH_done (by kernel_rfl) ?_ _
  go_wp2_with fail
  have y0 := C5.out.c0
  have y1 := C5.out.c1
  have y2 := C5.out.c2
  exact bodyPost_ret (v := .tuple #[.agg #[.int .i64 (m.pages : Int), .int .i64 (m.log : Int), .int .i64 (m.frames : Int)], .int .i64 (m.point : Int), .int .i64 ((e : Nat) : Int)]) (by simp [results, Tryz.results53, go_sem, y0, y1, y2]) rfl ⟨rfl, B5.out⟩
end Go.Proofs.YtapjbgkmcplpbaaGreat
