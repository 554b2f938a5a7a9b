import Derived.Test.YtapjbgkmcplpbaaGreatRMas3
namespace Go.Proofs.YtapjbgkmcplpbaaGreat
open Go.RowKit Go.QK

set_option maxHeartbeats 4000000 in
set_option maxRecDepth 100000 in
theorem rPoint_any {w : World} {S : Nat → Prop} {d : Nat} {g : Dev} (h : RDev w S d g) (lsn : Int) (hn : 2 ≤ g.n) (hpl : g.pend.length ≤ 999990) (hcl : g.calls ≤ 999990) :
    Calls Tryz.prog 54 #[.pointer (some ⟨d, 0, none⟩), .int .i64 lsn] w fun e w' => ∃ S', e = .returned (.int .i64 ((g.pointE lsn : Nat) : Int)) ∧ RDev w' S' d (g.pointD lsn) ∧ Step w S w' S' := by
  obtain ⟨ee, hee⟩ : ∃ ee, ee = g.pointE lsn := ⟨_, rfl⟩
  obtain ⟨gg, hgg⟩ : ∃ gg, gg = g.pointD lsn := ⟨_, rfl⟩
  rw [← hee, ← hgg]
  unfold Dev.pointE at hee
  unfold Dev.pointD at hgg
  have HLT := hide h.lt
  by_cases h1 : lsnN lsn
  · rw [if_neg (not_not_intro h1)] at hee hgg
    have KY := rStands_any h hn (by omega)
    have l1 : ¬ lsn < 0 := by unfold lsnN at h1; omega
    have l2 : ¬ 2147483647 < lsn := by unfold lsnN at h1; omega
    by_cases h2 : g.openE = 0
    · rw [if_neg (not_not_intro h2)] at hee hgg
      rw [h2] at KY
      have hd : g.down = false := by
        unfold Dev.openE at h2
        split at h2
        · omega
        · rename_i q; simpa using q
      have hop : g.openS = g.master := by unfold Dev.openS; rw [hd]; rfl
      rw [hop] at KY
      by_cases h3 : g.master.stamp = 4611686018427387904
      · rw [if_pos h3] at hee hgg
        have HE := hide hee
        have HG := hide hgg
        have HP := hide h
        have h3' : ((g.master.stamp : Int)) = 4611686018427387904 := by omega
        generalize g.master = m at *
        unfold slotC at KY
        rw [h3'] at KY
        have KY := hide KY
        clear hee hgg h1 h2 h hop h3 h3' hd
        go_enter Tryz.func54, Tryz.ntmps54
        go_wp2_with fail
        refine KY.out.mono ?_
        rintro e w2 ⟨rfl, b2⟩
        have B2 := hide b2
        clear b2
        go_wp2_with fail
        go_ret
        exact ⟨S, by rw [HE.out]; rfl, by rw [HG.out]; exact HP.out.below (bnext B2.out (alloc_below _ _) (Nat.le_refl _)), Step.of_below (bnext B2.out (alloc_below _ _) (Nat.le_refl _))⟩
      · rw [if_neg h3] at hee hgg
        have fit := next_fit h1 h3
        have hst : g.master.stamp < 4611686018427387904 := by
          rcases g.master_or with q | ⟨i, _, q1, q2⟩
          · rw [q]; simp [Slot.none]
          · rw [← q1] at q2; have := q2.2.1; omega
        have h3' : (((g.master.stamp : Int)) == 4611686018427387904) = false := by rw [beq_eq_false_iff_ne]; omega
        have e1 : IntKind.u64.wrap ((g.master.stamp : Int) + 1) = (g.master.stamp : Int) + 1 := by rw [IntKind.wrap_u64]; omega
        obtain ⟨q, rfl⟩ : ∃ q : Nat, lsn = (q : Int) := ⟨lsn.toNat, by unfold lsnN at h1; omega⟩
        have es : (g.master.next (q : Int)).stamp = g.master.stamp + 1 := rfl
        have e2 : ((g.master.stamp : Int) + 1).tmod 2 = (((g.master.next (q : Int)).stamp % 2 : Nat) : Int) := by rw [es, ← rem2]; rfl
        have e3 : IntKind.i64.wrap ((((g.master.next (q : Int)).stamp % 2 : Nat) : Int)) = (((g.master.next (q : Int)).stamp % 2 : Nat) : Int) := wrapI_fit _ (by omega)
        have KL : ∀ w', Calls Tryz.prog 64 #[.int .u64 ((g.master.stamp : Int) + 1), .agg #[.int .i64 (g.master.pages : Int), .int .i64 (g.master.log : Int), .int .i64 (g.master.frames : Int)], .int .i64 (q : Int)] w' fun e w'' => ∃ gs, e = .returned (.slice (some ⟨gs, 0, none⟩) 512 512) ∧ OwnB w'' w'.heap.size (.slice (some ⟨gs, 0, none⟩) 512 512) (slotB (g.master.next (q : Int))) ∧ Below w'.heap.size w' w'' := fun w' => by
          have K := rSlot_any (g.master.next (q : Int)) fit w'
          unfold Slot.next shC at K
          simp only [Int.natCast_add, Int.natCast_one, Int.toNat_natCast] at K
          exact K
        have KW := fun {w' : World} {gs : Nat} {B : Nat} (hh : RDev w' S d g) (ho : OwnB w' B (.slice (some ⟨gs, 0, none⟩) 512 512) (slotB (g.master.next (q : Int)))) => written_any hh (((g.master.next (q : Int)).stamp % 2 : Nat) : Int) (some ⟨gs, 0, none⟩) (slotB (g.master.next (q : Int))) 512 (Owns.seen_at ho) (slotB_length _) (by omega) nofun (slotB_allB _) (by omega) (by omega)
        obtain ⟨pE, hpE⟩ : ∃ x, x = g.putE (((g.master.next (q : Int)).stamp % 2 : Nat) : Int) (slotB (g.master.next (q : Int))) := ⟨_, rfl⟩
        obtain ⟨pD, hpD⟩ : ∃ x, x = g.putD (((g.master.next (q : Int)).stamp % 2 : Nat) : Int) (slotB (g.master.next (q : Int))) := ⟨_, rfl⟩
        rw [← hpE] at hee
        rw [← hpD] at hgg
        simp only [← hpE, ← hpD] at KW
        obtain ⟨hm, hhm⟩ : ∃ x, x = (g.master.next (q : Int)).stamp % 2 := ⟨_, rfl⟩
        rw [← hhm] at e2 e3
        simp only [← hhm] at KW
        obtain ⟨sb, hsb⟩ : ∃ x, x = slotB (g.master.next (q : Int)) := ⟨_, rfl⟩
        simp only [← hsb] at KW KL
        have HE := hide hee
        have HG := hide hgg
        have HP := hide h
        generalize g.master = m at *
        unfold slotC at KY
        have KY := hide KY
        clear hee hgg h1 h2 h hop h3 hpE hpD fit hst es hhm hsb
        go_enter Tryz.func54, Tryz.ntmps54
        go_wp2_with fail
        refine KY.out.mono ?_
        rintro e w2 ⟨rfl, b2⟩
        obtain ⟨w3, hw3⟩ : ∃ w3, w3 = w2.alloc (.cells (slotC m) 113) := ⟨_, rfl⟩
        have M3 := hide (show SlotAt w3 w2.heap.size m by rw [hw3]; exact Cells.new w2 (slotC m) 113)
        have bb : Below w.heap.size w w3 := by rw [hw3]; exact bnext b2 (alloc_below _ _) (Nat.le_refl _)
        have z2 := b2.size
        have HW3 := hide hw3
        unfold slotC at HW3
        have BB := hide bb
        have KL := hide (KL w3.drew)
        have D3 : Below w3.heap.size w3 w3.drew := (Below.refl _ _).drew
        have KW := hide (fun w' gs (hb : Below w3.drew.heap.size w3.drew w') ho => KW (w' := w') (gs := gs) (B := w3.drew.heap.size) (((HP.out.below BB.out).below D3).below hb) ho)
        clear b2 bb hw3 KY
        go_upto_region 10 with fail
        rw [← HW3.out]
        clear HW3
        refine wp_region_held_drew (S := Five w2.heap.size m) (by kernel_rfl) M3.out.five (fun hS => ?_)
        refine take_at 0 (some 26) (v := ?_) rfl rfl (by kernel_rfl) (by kernel_rfl) (by kernel_rfl) (fun _ _ _ h => h) ⟨by rfl, ?_⟩ hS ?_
        rotate_left
        · intro wq hSw; go_simp; try rfl
        simp only [Act.put, List.setIfInBounds_toArray, List.set_cons_zero, List.set_cons_succ]
        refine take_at 1 (some 27) (v := ?_) rfl rfl (by kernel_rfl) (by kernel_rfl) (by kernel_rfl) (fun _ _ _ h => h) ⟨by rfl, ?_⟩ hS ?_
        rotate_left
        · intro wq hSw; go_simp; try rfl
        simp only [Act.put, List.setIfInBounds_toArray, List.set_cons_zero, List.set_cons_succ]
        refine take_at 2 (some 28) (v := ?_) rfl rfl (by kernel_rfl) (by kernel_rfl) (by kernel_rfl) (fun _ _ _ h => h) ⟨by rfl, ?_⟩ hS ?_
        rotate_left
        · intro wq hSw; obtain ⟨x0, x1, x2, x3, x4⟩ := hSw; go_simp; try rfl
        simp only [Act.put, List.setIfInBounds_toArray, List.set_cons_zero, List.set_cons_succ]
        refine take_at 3 (some 29) (v := ?_) rfl rfl (by kernel_rfl) (by kernel_rfl) (by kernel_rfl) (fun _ _ _ h => h) ⟨by rfl, ?_⟩ hS ?_
        rotate_left
        · intro wq hSw; go_simp; try rfl
        simp only [Act.put, List.setIfInBounds_toArray, List.set_cons_zero, List.set_cons_succ]
        refine take_at 4 (some 30) (v := ?_) rfl rfl (by kernel_rfl) (by kernel_rfl) (by kernel_rfl) (fun _ _ _ h => h) ⟨by rfl, ?_⟩ hS ?_
        rotate_left
        · intro wq hSw; go_simp; try rfl
        simp only [Act.put, List.setIfInBounds_toArray, List.set_cons_zero, List.set_cons_succ]
        refine take_at 5 (some 31) (v := ?_) rfl rfl (by kernel_rfl) (by kernel_rfl) (by kernel_rfl) (fun _ _ _ h => h) ⟨by rfl, ?_⟩ hS ?_
        rotate_left
        · intro wq hSw; go_simp; try rfl
        simp only [Act.put, List.setIfInBounds_toArray, List.set_cons_zero, List.set_cons_succ]
        refine take_at 6 (some 32) (v := ?_) rfl rfl (by kernel_rfl) (by kernel_rfl) (by kernel_rfl) (fun _ _ _ h => h) ⟨by rfl, ?_⟩ hS ?_
        rotate_left
        · intro wq hSw; go_simp; try rfl
        simp only [Act.put, List.setIfInBounds_toArray, List.set_cons_zero, List.set_cons_succ]
        refine take_at 7 (some 33) (v := ?_) rfl rfl (by kernel_rfl) (by kernel_rfl) (by kernel_rfl) (fun _ _ _ h => h) ⟨by rfl, ?_⟩ hS ?_
        rotate_left
        · intro wq hSw; obtain ⟨x0, x1, x2, x3, x4⟩ := hSw; go_simp; try rfl
        simp only [Act.put, List.setIfInBounds_toArray, List.set_cons_zero, List.set_cons_succ]
        refine take_at 8 (some 34) (v := ?_) rfl rfl (by kernel_rfl) (by kernel_rfl) (by kernel_rfl) (fun _ _ _ h => h) ⟨by rfl, ?_⟩ hS ?_
        rotate_left
        · intro wq hSw; go_simp; try rfl
        simp only [Act.put, List.setIfInBounds_toArray, List.set_cons_zero, List.set_cons_succ]
        refine take_at 9 (some 35) (v := ?_) rfl rfl (by kernel_rfl) (by kernel_rfl) (by kernel_rfl) (fun _ _ _ h => h) ⟨by rfl, ?_⟩ hS ?_
        rotate_left
        · intro wq hSw; go_simp; try rfl
        simp only [Act.put, List.setIfInBounds_toArray, List.set_cons_zero, List.set_cons_succ]
        refine take_at 10 (some 36) (v := ?_) rfl rfl (by kernel_rfl) (by kernel_rfl) (by kernel_rfl) (fun _ _ _ h => h) ⟨by rfl, ?_⟩ hS ?_
        rotate_left
        · intro wq hSw; obtain ⟨x0, x1, x2, x3, x4⟩ := hSw; go_simp; try rfl
        simp only [Act.put, List.setIfInBounds_toArray, List.set_cons_zero, List.set_cons_succ]
        refine take_at 11 (some 37) (v := ?_) rfl rfl (by kernel_rfl) (by kernel_rfl) (by kernel_rfl) (fun _ _ _ h => h) ⟨by rfl, ?_⟩ hS ?_
        rotate_left
        · intro wq hSw; go_simp; try rfl
        simp only [Act.put, List.setIfInBounds_toArray, List.set_cons_zero, List.set_cons_succ]
        refine wpAnyH_ready (rs := [12]) (by kernel_rfl) (by simp) ?_
        refine AllReadyH.cons rfl (fun K hK => ?_) AllReadyH.nil
        go_simp
        go_wp2_with fail
        refine KL.out.mono ?_
        rintro e w4 ⟨gs, rfl, o4, b4⟩
        have M4 := hide (M3.out.below (below_undrew b4))
        have KX := hide (KW.out w4 gs b4 o4)
        have B4 := hide (bnext BB.out (below_undrew b4) (Nat.le_refl _))
        clear o4 b4 KL KW
        go_wp2_with fail
        refine hK.out _ _ M4.out.five (fun hS => ?_)
        clear hK K
        (try simp only [Act.put, List.setIfInBounds_toArray, List.set_cons_zero, List.set_cons_succ])
        refine wpAnyH_ready (rs := [13]) (by kernel_rfl) (by simp) ?_
        refine AllReadyH.cons rfl (fun K hK => ?_) AllReadyH.nil
        go_simp
        go_wp2_with fail
        refine KX.out.mono ?_
        rintro e w5 ⟨S5, rfl, P5, st5⟩
        have M5 := hide (M4.out.keep st5.1 (fun q => by have := HLT.out _ q; have := M3.out.lt; omega))
        have ST5 := hide ((Step.of_below B4.out).trans st5)
        have HP5 := hide P5
        clear P5 st5 KX M4 B4
        go_wp2_with fail
        refine hK.out _ _ M5.out.five (fun hS => ?_)
        clear hK K
        (try simp only [Act.put, List.setIfInBounds_toArray, List.set_cons_zero, List.set_cons_succ])
        refine take_at 14 (some 4) (v := ?_) rfl rfl (by kernel_rfl) (by kernel_rfl) (by kernel_rfl) (fun _ _ _ h => h) ⟨by rfl, ?_⟩ hS ?_
        rotate_left
        · intro wq hSw; go_simp; try rfl
        simp only [Act.put, List.setIfInBounds_toArray, List.set_cons_zero, List.set_cons_succ]
        refine wpAnyH_done (by kernel_rfl) ?_ _
        go_wp2_with fail
        go_ret
        exact ⟨S5, by rw [HE.out]; rfl, by rw [HG.out]; exact HP5.out, ST5.out⟩
    · rw [if_pos h2] at hee hgg
      have q2 : (((g.openE : Nat) : Int) != 0) = true := by simpa using h2
      have HE := hide hee
      have HG := hide hgg
      have HP := hide h
      generalize g.openE = oe at *
      generalize g.openS = os at *
      unfold slotC at KY
      have KY := hide KY
      clear hee hgg h1 h2 h
      go_enter Tryz.func54, Tryz.ntmps54
      go_wp2_with fail
      refine KY.out.mono ?_
      rintro e w2 ⟨rfl, b2⟩
      have B2 := hide b2
      clear b2
      go_wp2_with fail
      go_ret
      exact ⟨S, by rw [HE.out]; rfl, by rw [HG.out]; exact HP.out.below (bnext B2.out (alloc_below _ _) (Nat.le_refl _)), Step.of_below (bnext B2.out (alloc_below _ _) (Nat.le_refl _))⟩
  · rw [if_pos h1] at hee hgg
    have HE := hide hee
    have HG := hide hgg
    have HP := hide h
    have L1 := hide h1
    clear hee hgg h h1
    by_cases l1 : lsn < 0
    · go_enter Tryz.func54, Tryz.ntmps54
      go_wp2_with fail
      go_ret
      first | exact ⟨S, by rw [HE.out]; rfl, by rw [HG.out]; exact HP.out, Step.refl _ _⟩ | exact ⟨by rw [HE.out]; rfl, S, by rw [HG.out]; exact HP.out, Step.refl _ _⟩
    · have l2 : 2147483647 < lsn := by have := L1.out; unfold lsnN at this; omega
      go_enter Tryz.func54, Tryz.ntmps54
      go_wp2_with fail
      go_ret
      first | exact ⟨S, by rw [HE.out]; rfl, by rw [HG.out]; exact HP.out, Step.refl _ _⟩ | exact ⟨by rw [HE.out]; rfl, S, by rw [HG.out]; exact HP.out, Step.refl _ _⟩
end Go.Proofs.YtapjbgkmcplpbaaGreat
