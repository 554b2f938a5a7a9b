import Derived.Test.YtpddmimacjknfaaTw11
namespace Go.Proofs.Ytpddmimacjknfaa
open Go.RowKit Go.QK
set_option maxRecDepth 100000

theorem zeros2_eq : zeros2 = List.replicate 1024 0 := by
  unfold zeros2 zerosB
  rw [List.replicate_append_replicate]
/-- All of the law's pages but that at H. -/
structure Rows4 (H : Nat) (g : Dev) : Prop where
  run : Run g 13
  homes : ∀ i, i < 4 → 5 + 2 * i ≠ H → sector g.img (5 + 2 * i) ++ sector g.img (5 + 2 * i + 1) = pageB (5 + 2 * i)
  lo : sector g.img 0 ++ sector g.img 1 = zeros2
set_option maxHeartbeats 8000000 in
theorem others_any {w : World} {S : Nat → Prop} {d : Nat} {g : Dev} (h : PDev w S d g) (H : Nat) (hg : Rows4 H g) : Calls Try.prog 20 #[.pointer (some ⟨d, 0, none⟩), .int .i64 (H : Int)] w fun e w' => e = .returned (.bool true) ∧ Below w.heap.size w w' := by
  have HKP := hide (fun f w => page_any f w)
  have HRD := hide (fun (w : World) (S : Nat → Prop) (h : PDev w S d g) (hm : Int) => read_twin h hm (by rw [hg.run.pend]; decide))
  have HG := hide hg
  have HP0 := hide h
  have R0 := hg.run.read (f := 0) (by decide)
  have HR0 := hide (show g.rdE 0 = 0 ∧ g.rdB 0 = zeros2 from ⟨R0.1, R0.2.trans hg.lo⟩)
  clear hg h R0
  go_enter Try.func20, Try.ntmps20
  go_wp2_with fail
  go_loopw [5] (fun i wr => ∃ (j : Nat), i = .int .i64 ((5 + 2 * j : Nat) : Int) ∧ j ≤ 4 ∧ Below w.heap.size w wr) (fun i _ => (20 - (intOf i).toNat))
  case atStart => exact ⟨0, rfl, by decide, Below.refl _ _⟩
  case round =>
    obtain ⟨j, rfl, hj, hB⟩ := hrel
    have HB := hide hB
    have HPr := hide (HP0.out.below hB)
    clear hB
    obtain ⟨K, hK⟩ : ∃ K, K = 5 + 2 * j := ⟨_, rfl⟩
    by_cases hlt : j < 4
    · have RJ := HG.out.run.read (f := K) (by omega)
      have hpg := fun q => HG.out.homes j hlt q
      rw [← hK] at hpg ⊢
      have hdd : decide ((K : Int) ≤ 11) = true := by simp; omega
      have hK2 : K ≤ 11 := by omega
      have HH := hide hK
      have KR := HRD.out wr S HPr.out (K : Int)
      rw [RJ.1, RJ.2] at KR
      have HPG := hide hpg
      clear hK RJ hpg
      obtain ⟨PG, hPG⟩ : ∃ p, p = sector g.img K ++ sector g.img (K + 1) := ⟨_, rfl⟩
      rw [← hPG] at KR HPG
      clear hPG
      go_wp2_with fail
      refine KR.mono ?_
      rintro e w2 ⟨v2, x2, rfl, t2, o2, b2⟩
      rcases t2 with ⟨_, rfl⟩ | ⟨q, _⟩
      rotate_left
      · exact absurd rfl q
      rcases o2 with ⟨q, _⟩ | ⟨_, hPL, gb2, rfl, hg2, o2⟩
      · exact absurd rfl q
      have DR : Below w2.heap.size w2 w2.drew := (Below.refl _ _).drew
      have A2 := hide ((Apart.new HPr.out o2 hg2).below DR)
      have P2 := hide ((HPr.out.below b2).below DR)
      have B2 := hide (bnext (bnext HB.out b2 (Nat.le_refl _)) DR (Nat.le_refl _))
      clear KR o2 hg2 b2 HB HPr
      by_cases hq : K = H
      · have hqb : ((K : Int) == (H : Int)) = true := by simp; omega
        have hqn : ((K : Int) != (H : Int)) = false := by simp; omega
        have HQ := hide hq
        clear hq
        go_upto_region 5 with fail
        refine wp_region_held_drew (S := fun _ => True) (by kernel_rfl) trivial (fun hS => ?_)
        clear DR
        generalize w2.drew = w3 at *
        refine take_at 0 (some 20) (v := ?_) rfl rfl (by kernel_rfl) (by kernel_rfl) (by kernel_rfl) (fun _ _ _ h => h) ⟨by rfl, ?_⟩ hS ?_
        rotate_left
        · intro wq hSw; go_simp; try rfl
        simp only [Act.put, List.setIfInBounds_toArray, List.set_cons_zero, List.set_cons_succ]
        refine take_at 1 (some 21) (v := ?_) rfl rfl (by kernel_rfl) (by kernel_rfl) (by kernel_rfl) (fun _ _ _ h => h) ⟨by rfl, ?_⟩ hS ?_
        rotate_left
        · intro wq hSw; go_simp; try rfl
        simp only [Act.put, List.setIfInBounds_toArray, List.set_cons_zero, List.set_cons_succ]
        refine take_at 2 (some 22) (v := ?_) rfl rfl (by kernel_rfl) (by kernel_rfl) (by kernel_rfl) (fun _ _ _ h => h) ⟨by rfl, ?_⟩ hS ?_
        rotate_left
        · intro wq hSw; go_simp; try rfl
        simp only [Act.put, List.setIfInBounds_toArray, List.set_cons_zero, List.set_cons_succ]
        refine take_at 3 (some 23) (v := ?_) rfl rfl (by kernel_rfl) (by kernel_rfl) (by kernel_rfl) (fun _ _ _ h => h) ⟨by rfl, ?_⟩ hS ?_
        rotate_left
        · intro wq hSw; go_simp; try rfl
        simp only [Act.put, List.setIfInBounds_toArray, List.set_cons_zero, List.set_cons_succ]
        refine take_at 4 (some 24) (v := ?_) rfl rfl (by kernel_rfl) (by kernel_rfl) (by kernel_rfl) (fun _ _ _ h => h) ⟨by rfl, ?_⟩ hS ?_
        rotate_left
        · intro wq hSw; go_simp; try rfl
        simp only [Act.put, List.setIfInBounds_toArray, List.set_cons_zero, List.set_cons_succ]
        refine take_at 5 (some 25) (v := ?_) rfl rfl (by kernel_rfl) (by kernel_rfl) (by kernel_rfl) (fun _ _ _ h => h) ⟨by rfl, ?_⟩ hS ?_
        rotate_left
        · intro wq hSw; go_simp; try rfl
        simp only [Act.put, List.setIfInBounds_toArray, List.set_cons_zero, List.set_cons_succ]
        refine take_at 6 (some 26) (v := ?_) rfl rfl (by kernel_rfl) (by kernel_rfl) (by kernel_rfl) (fun _ _ _ h => h) ⟨by rfl, ?_⟩ hS ?_
        rotate_left
        · intro wq hSw; go_simp; try rfl
        simp only [Act.put, List.setIfInBounds_toArray, List.set_cons_zero, List.set_cons_succ]
        refine pass_at 7 (some 27) rfl rfl (by kernel_rfl) (by kernel_rfl) (by kernel_rfl) (fun _ _ _ h => h) (by rfl) hS ?_
        simp only [Act.put, List.setIfInBounds_toArray, List.set_cons_zero, List.set_cons_succ]
        refine pass_at 8 (some 28) rfl rfl (by kernel_rfl) (by kernel_rfl) (by kernel_rfl) (fun _ _ _ h => h) (by rfl) hS ?_
        simp only [Act.put, List.setIfInBounds_toArray, List.set_cons_zero, List.set_cons_succ]
        refine pass_at 9 (some 29) rfl rfl (by kernel_rfl) (by kernel_rfl) (by kernel_rfl) (fun _ _ _ h => h) (by rfl) hS ?_
        simp only [Act.put, List.setIfInBounds_toArray, List.set_cons_zero, List.set_cons_succ]
        refine pass_at 10 (some 30) rfl rfl (by kernel_rfl) (by kernel_rfl) (by kernel_rfl) (fun _ _ _ h => h) (by rfl) hS ?_
        simp only [Act.put, List.setIfInBounds_toArray, List.set_cons_zero, List.set_cons_succ]
        refine pass_at 11 (some 31) rfl rfl (by kernel_rfl) (by kernel_rfl) (by kernel_rfl) (fun _ _ _ h => h) (by rfl) hS ?_
        simp only [Act.put, List.setIfInBounds_toArray, List.set_cons_zero, List.set_cons_succ]
        refine pass_at 12 (some 32) rfl rfl (by kernel_rfl) (by kernel_rfl) (by kernel_rfl) (fun _ _ _ h => h) (by rfl) hS ?_
        simp only [Act.put, List.setIfInBounds_toArray, List.set_cons_zero, List.set_cons_succ]
        refine pass_at 13 (some 33) rfl rfl (by kernel_rfl) (by kernel_rfl) (by kernel_rfl) (fun _ _ _ h => h) (by rfl) hS ?_
        simp only [Act.put, List.setIfInBounds_toArray, List.set_cons_zero, List.set_cons_succ]
        refine take_at 14 (some 34) (v := ?_) rfl rfl (by kernel_rfl) (by kernel_rfl) (by kernel_rfl) (fun _ _ _ h => h) ⟨by rfl, ?_⟩ hS ?_
        rotate_left
        · intro wq hSw; go_simp; try rfl
        simp only [Act.put, List.setIfInBounds_toArray, List.set_cons_zero, List.set_cons_succ]
        refine take_at 15 (some 35) (v := ?_) rfl rfl (by kernel_rfl) (by kernel_rfl) (by kernel_rfl) (fun _ _ _ h => h) ⟨by rfl, ?_⟩ hS ?_
        rotate_left
        · intro wq hSw; go_simp; try rfl
        simp only [Act.put, List.setIfInBounds_toArray, List.set_cons_zero, List.set_cons_succ]
        refine wpAnyH_done (by kernel_rfl) ?_ _
        go_wp2_with fail
        go_roundw
        case rel => exact ⟨j + 1, by rw [HH.out]; congr 1, by omega, B2.out⟩
        case measure => have := HH.out; simp [intOf]; omega
      · have hqb : ((K : Int) == (H : Int)) = false := by simp; omega
        have hqn : ((K : Int) != (H : Int)) = true := by simp; omega
        have hPGe := HPG.out hq
        rw [hPGe] at A2
        have HKK := fun w => HKP.out K w
        have PLK := pageB_length K
        obtain ⟨PB, hPB⟩ : ∃ p, p = pageB K := ⟨_, rfl⟩
        simp only [← hPB] at A2 HKK PLK
        have HKK := hide HKK
        have cv0 := A2.out.conv 1024
        rw [PLK] at cv0
        have CV := fun (w : World) (gb : Nat) (h : Apart w S gb PB) => h.conv 1024
        rw [PLK] at CV
        obtain ⟨SL, hSL⟩ : ∃ p, p = strOf PB := ⟨_, rfl⟩
        simp only [← hSL] at CV cv0
        have CV := hide CV
        have hcv2 : IntKind.u8.wrap (K : Int) = (K : Int) := by rw [IntKind.wrap_u8]; omega
        clear hq hPGe HPG hPB PLK hSL hPL HKP HRD HR0 HG HP0
        go_upto_region 5 with fail
        refine wp_region_held_drew (S := fun wq => (convert 22 9 (.slice (some ⟨gb2, 0, none⟩) 1024 1024)).run Try.prog wq = .ok (.string SL) wq) (by kernel_rfl) cv0 (fun hS => ?_)
        clear DR cv0
        generalize w2.drew = w3 at *
        refine take_at 0 (some 20) (v := ?_) rfl rfl (by kernel_rfl) (by kernel_rfl) (by kernel_rfl) (fun _ _ _ h => h) ⟨by rfl, ?_⟩ hS ?_
        rotate_left
        · intro wq hSw; go_simp; try rfl
        simp only [Act.put, List.setIfInBounds_toArray, List.set_cons_zero, List.set_cons_succ]
        refine take_at 1 (some 21) (v := ?_) rfl rfl (by kernel_rfl) (by kernel_rfl) (by kernel_rfl) (fun _ _ _ h => h) ⟨by rfl, ?_⟩ hS ?_
        rotate_left
        · intro wq hSw; go_simp; try rfl
        simp only [Act.put, List.setIfInBounds_toArray, List.set_cons_zero, List.set_cons_succ]
        refine take_at 2 (some 22) (v := ?_) rfl rfl (by kernel_rfl) (by kernel_rfl) (by kernel_rfl) (fun _ _ _ h => h) ⟨by rfl, ?_⟩ hS ?_
        rotate_left
        · intro wq hSw; go_simp; try rfl
        simp only [Act.put, List.setIfInBounds_toArray, List.set_cons_zero, List.set_cons_succ]
        refine take_at 3 (some 23) (v := ?_) rfl rfl (by kernel_rfl) (by kernel_rfl) (by kernel_rfl) (fun _ _ _ h => h) ⟨by rfl, ?_⟩ hS ?_
        rotate_left
        · intro wq hSw; go_simp; try rfl
        simp only [Act.put, List.setIfInBounds_toArray, List.set_cons_zero, List.set_cons_succ]
        refine take_at 4 (some 24) (v := ?_) rfl rfl (by kernel_rfl) (by kernel_rfl) (by kernel_rfl) (fun _ _ _ h => h) ⟨by rfl, ?_⟩ hS ?_
        rotate_left
        · intro wq hSw; go_simp; try rfl
        simp only [Act.put, List.setIfInBounds_toArray, List.set_cons_zero, List.set_cons_succ]
        refine take_at 5 (some 25) (v := ?_) rfl rfl (by kernel_rfl) (by kernel_rfl) (by kernel_rfl) (fun _ _ _ h => h) ⟨by rfl, ?_⟩ hS ?_
        rotate_left
        · intro wq hSw; go_simp; try rfl
        simp only [Act.put, List.setIfInBounds_toArray, List.set_cons_zero, List.set_cons_succ]
        refine take_at 6 (some 26) (v := ?_) rfl rfl (by kernel_rfl) (by kernel_rfl) (by kernel_rfl) (fun _ _ _ h => h) ⟨by rfl, ?_⟩ hS ?_
        rotate_left
        · intro wq hSw; go_simp; try rfl
        simp only [Act.put, List.setIfInBounds_toArray, List.set_cons_zero, List.set_cons_succ]
        refine take_at 7 (some 27) (v := ?_) rfl rfl (by kernel_rfl) (by kernel_rfl) (by kernel_rfl) (fun _ _ _ h => h) ⟨by rfl, ?_⟩ hS ?_
        rotate_left
        · intro wq hSw; go_simp; try rfl
        simp only [Act.put, List.setIfInBounds_toArray, List.set_cons_zero, List.set_cons_succ]
        refine take_at 8 (some 28) (v := ?_) rfl rfl (by kernel_rfl) (by kernel_rfl) (by kernel_rfl) (fun _ _ _ h => h) ⟨by rfl, ?_⟩ hS ?_
        rotate_left
        · intro wq hSw; go_simp; try rfl
        simp only [Act.put, List.setIfInBounds_toArray, List.set_cons_zero, List.set_cons_succ]
        refine take_at 9 (some 29) (v := ?_) rfl rfl (by kernel_rfl) (by kernel_rfl) (by kernel_rfl) (fun _ _ _ h => h) ⟨by rfl, ?_⟩ hS ?_
        rotate_left
        · intro wq hSw; go_simp; try rfl
        simp only [Act.put, List.setIfInBounds_toArray, List.set_cons_zero, List.set_cons_succ]
        refine take_at 10 (some 30) (v := ?_) rfl rfl (by kernel_rfl) (by kernel_rfl) (by kernel_rfl) (fun _ _ _ h => h) ⟨by rfl, ?_⟩ hS ?_
        rotate_left
        · intro wq hSw; go_simp; try rfl
        simp only [Act.put, List.setIfInBounds_toArray, List.set_cons_zero, List.set_cons_succ]
        refine wpAnyH_ready (rs := [11]) (by kernel_rfl) (by simp) ?_
        refine AllReadyH.cons rfl (fun K hK => ?_) AllReadyH.nil
        go_simp
        go_wp2_with fail
        refine (HKK.out w3).mono ?_
        rintro e w4 ⟨gb4, rfl, hg4, o4, b4⟩
        have A4 := Apart.new P2.out o4 hg4
        have cv4 := CV.out w4 gb4 A4
        have hS4 := CV.out w4 gb2 (A2.out.below b4)
        have B4 := hide (bnext B2.out b4 (Nat.le_refl _))
        clear hg4 o4 b4 A4
        go_wp2_with fail
        refine hK.out _ _ hS4 (fun hS => ?_)
        clear hK K
        (try simp only [Act.put, List.setIfInBounds_toArray, List.set_cons_zero, List.set_cons_succ])
        refine wpAnyH_ready (rs := [12]) (by kernel_rfl) (by simp) ?_
        refine AllReadyH.cons rfl (fun K hK => ?_) AllReadyH.nil
        go_simp
        (try go_wp2_with fail)
        refine hK.out _ _ hS4 (fun hS => ?_)
        clear hK K
        (try simp only [Act.put, List.setIfInBounds_toArray, List.set_cons_zero, List.set_cons_succ])
        refine take_at 13 (some 33) (v := ?_) rfl rfl (by kernel_rfl) (by kernel_rfl) (by kernel_rfl) (fun _ _ _ h => h) ⟨by rfl, ?_⟩ hS ?_
        rotate_left
        · intro wq hSw; go_simp; try rfl
        simp only [Act.put, List.setIfInBounds_toArray, List.set_cons_zero, List.set_cons_succ]
        refine take_at 14 (some 34) (v := ?_) rfl rfl (by kernel_rfl) (by kernel_rfl) (by kernel_rfl) (fun _ _ _ h => h) ⟨by rfl, ?_⟩ hS ?_
        rotate_left
        · intro wq hSw; go_simp; try rfl
        simp only [Act.put, List.setIfInBounds_toArray, List.set_cons_zero, List.set_cons_succ]
        refine take_at 15 (some 35) (v := ?_) rfl rfl (by kernel_rfl) (by kernel_rfl) (by kernel_rfl) (fun _ _ _ h => h) ⟨by rfl, ?_⟩ hS ?_
        rotate_left
        · intro wq hSw; go_simp; try rfl
        simp only [Act.put, List.setIfInBounds_toArray, List.set_cons_zero, List.set_cons_succ]
        refine wpAnyH_done (by kernel_rfl) ?_ _
        go_wp2_with fail
        go_roundw
        case rel => exact ⟨j + 1, by rw [HH.out]; congr 1, by omega, B4.out⟩
        case measure => have := HH.out; simp [intOf]; omega
    · obtain rfl : j = 4 := by omega
      clear hK
      have KR := HRD.out wr S HPr.out 0
      rw [HR0.out.1, HR0.out.2] at KR
      clear HR0 HRD HKP
      go_wp2_with fail
      refine KR.mono ?_
      rintro e w2 ⟨v2, x2, rfl, t2, o2, b2⟩
      rcases t2 with ⟨_, rfl⟩ | ⟨q, _⟩
      rotate_left
      · exact absurd rfl q
      rcases o2 with ⟨q, _⟩ | ⟨_, hPL, gb2, rfl, hg2, o2⟩
      · exact absurd rfl q
      have DR : Below w2.heap.size w2 w2.drew := (Below.refl _ _).drew
      have A2 := hide ((Apart.new HPr.out o2 hg2).below DR)
      have B2 := hide (bnext (bnext HB.out b2 (Nat.le_refl _)) DR (Nat.le_refl _))
      clear KR o2 hg2 b2 HB HPr
      have cv0 := A2.out.conv 1024
      rw [hPL] at cv0
      have CV := hide (fun (w : World) (gb : Nat) (h : Bytes w (some ⟨gb, 0, none⟩) zeros2) => conv_any (some ⟨gb, 0, none⟩) zeros2 1024 w h)
      rw [hPL] at CV
      go_upto_region 8 with fail
      refine wp_region_held_drew (S := fun wq => (convert 22 9 (.slice (some ⟨gb2, 0, none⟩) 1024 1024)).run Try.prog wq = .ok (.string (strOf zeros2)) wq) (by kernel_rfl) cv0 (fun hS => ?_)
      clear DR cv0
      generalize w2.drew = w3 at *
      generalize strOf zeros2 = SL at *
      refine take_at 0 (some 41) (v := ?_) rfl rfl (by kernel_rfl) (by kernel_rfl) (by kernel_rfl) (fun _ _ _ h => h) ⟨by rfl, ?_⟩ hS ?_
      rotate_left
      · intro wq hSw; go_simp; try rfl
      simp only [Act.put, List.setIfInBounds_toArray, List.set_cons_zero, List.set_cons_succ]
      refine take_at 1 (some 42) (v := ?_) rfl rfl (by kernel_rfl) (by kernel_rfl) (by kernel_rfl) (fun _ _ _ h => h) ⟨by rfl, ?_⟩ hS ?_
      rotate_left
      · intro wq hSw; go_simp; try rfl
      simp only [Act.put, List.setIfInBounds_toArray, List.set_cons_zero, List.set_cons_succ]
      refine take_at 2 (some 43) (v := ?_) rfl rfl (by kernel_rfl) (by kernel_rfl) (by kernel_rfl) (fun _ _ _ h => h) ⟨by rfl, ?_⟩ hS ?_
      rotate_left
      · intro wq hSw; go_simp; try rfl
      simp only [Act.put, List.setIfInBounds_toArray, List.set_cons_zero, List.set_cons_succ]
      refine take_at 3 (some 44) (v := ?_) rfl rfl (by kernel_rfl) (by kernel_rfl) (by kernel_rfl) (fun _ _ _ h => h) ⟨by rfl, ?_⟩ hS ?_
      rotate_left
      · intro wq hSw; go_simp; try rfl
      simp only [Act.put, List.setIfInBounds_toArray, List.set_cons_zero, List.set_cons_succ]
      refine take_at 4 (some 45) (v := ?_) rfl rfl (by kernel_rfl) (by kernel_rfl) (by kernel_rfl) (fun _ _ _ h => h) ⟨by rfl, ?_⟩ hS ?_
      rotate_left
      · intro wq hSw; go_simp; try rfl
      simp only [Act.put, List.setIfInBounds_toArray, List.set_cons_zero, List.set_cons_succ]
      obtain ⟨w4, R4, O4, B4, Z4⟩ := makeB w3 1024 (by omega)
      rw [← zeros2_eq] at O4
      obtain ⟨P, hP⟩ : ∃ P, P = w3.heap.size := ⟨_, rfl⟩
      rw [← hP] at R4 O4
      have R4' : (Instr.makeSlice 22 (.int .i64 1024) (.int .i64 1024)).run Try.prog w3 = .ok (.slice (some ⟨P, 0, none⟩) 1024 1024) w4 := R4
      have cv4 := CV.out w4 P (Owns.seen_at O4)
      have hS4 := CV.out w4 gb2 (A2.out.below B4).bytes
      have B5 := hide (bnext B2.out B4 (Nat.le_refl _))
      clear R4 O4 B4 Z4 hP
      refine wpAnyH_ready (rs := [5]) (by kernel_rfl) (by simp) ?_
      refine AllReadyH.cons rfl (fun K hK => ?_) AllReadyH.nil
      go_simp
      (try go_wp2_with fail)
      refine hK.out _ _ hS4 (fun hS => ?_)
      clear hK K
      (try simp only [Act.put, List.setIfInBounds_toArray, List.set_cons_zero, List.set_cons_succ])
      refine wpAnyH_ready (rs := [6]) (by kernel_rfl) (by simp) ?_
      refine AllReadyH.cons rfl (fun K hK => ?_) AllReadyH.nil
      go_simp
      (try go_wp2_with fail)
      refine hK.out _ _ hS4 (fun hS => ?_)
      clear hK K
      (try simp only [Act.put, List.setIfInBounds_toArray, List.set_cons_zero, List.set_cons_succ])
      refine take_at 7 (some 48) (v := ?_) rfl rfl (by kernel_rfl) (by kernel_rfl) (by kernel_rfl) (fun _ _ _ h => h) ⟨by rfl, ?_⟩ hS ?_
      rotate_left
      · intro wq hSw; go_simp; try rfl
      simp only [Act.put, List.setIfInBounds_toArray, List.set_cons_zero, List.set_cons_succ]
      refine take_at 8 (some 49) (v := ?_) rfl rfl (by kernel_rfl) (by kernel_rfl) (by kernel_rfl) (fun _ _ _ h => h) ⟨by rfl, ?_⟩ hS ?_
      rotate_left
      · intro wq hSw; go_simp; try rfl
      simp only [Act.put, List.setIfInBounds_toArray, List.set_cons_zero, List.set_cons_succ]
      refine take_at 9 (some 4) (v := ?_) rfl rfl (by kernel_rfl) (by kernel_rfl) (by kernel_rfl) (fun _ _ _ h => h) ⟨by rfl, ?_⟩ hS ?_
      rotate_left
      · intro wq hSw; go_simp; try rfl
      simp only [Act.put, List.setIfInBounds_toArray, List.set_cons_zero, List.set_cons_succ]
      refine wpAnyH_done (by kernel_rfl) ?_ _
      go_wp2_with fail
      go_ret
      exact ⟨by simp, B5.out⟩
end Go.Proofs.Ytpddmimacjknfaa
