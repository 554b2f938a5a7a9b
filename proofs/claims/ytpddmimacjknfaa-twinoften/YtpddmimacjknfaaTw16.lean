import Derived.Test.YtpddmimacjknfaaTw15
namespace Go.Proofs.Ytpddmimacjknfaa
open Go.RowKit Go.QK
set_option maxRecDepth 100000

set_option maxHeartbeats 64000000 in
theorem law_often (a0 : Option Addr) (m0 c0 : Nat) (a1 : Option Addr) (m1 c1 : Nat) (w : World) (hH : HomesAt w a0 m0) (hm0 : m0 ≤ maxLen) (hF : FallsAt w a1 m1) (hm1 : m1 ≤ maxLen) :
    Calls Try.prog 4 #[.slice a0 m0 c0, .slice a1 m1 c1] w fun e w' => e = .returned (.bool true) ∧ Below w.heap.size w w' := by
  have KF := first_any w
  have HKP := hide (fun f w => page_any f w)
  have HHM := hide hH
  have HFL := hide hF
  have hm0' : (m0 : Int) ≤ 9223372036854775807 := by unfold maxLen at hm0; omega
  have hm1' : (m1 : Int) ≤ 9223372036854775807 := by unfold maxLen at hm1; omega
  have HZ := hide zero39_run
  clear hH hF hm0 hm1
  go_enter Try.func4, Try.ntmps4
  go_wp2_with fail
  refine KF.mono ?_
  rintro e w1 ⟨rfl, b1⟩
  have B1 := hide b1
  have HM1 := hide (HHM.out.below b1)
  have FL1 := hide (HFL.out.below b1)
  have KS := store_any w1
  clear KF b1 HHM HFL
  go_wp2_with fail
  refine KS.mono ?_
  rintro e w2 ⟨d, S, g, rfl, L2, SH⟩
  have L2 := hide L2
  have SH := hide SH
  clear KS
  obtain ⟨w3, hw3⟩ : ∃ w3, w3 = w2.alloc (.cells (Array.replicate 13 (.string ByteArray.empty)) 39) := ⟨_, rfl⟩
  have b3 : Below w2.heap.size w2 w3 := by rw [hw3]; exact alloc_below _ _
  have c3 : Cells w3 w2.heap.size (List.replicate 13 (.string ByteArray.empty)) := by
    have q := Cells.new w2 (Array.replicate 13 (.string ByteArray.empty)) 39
    rw [← hw3] at q
    simpa using q
  obtain ⟨nb, hnb⟩ : ∃ nb, nb = w2.heap.size := ⟨_, rfl⟩
  rw [← hnb] at c3
  have N3 := hide (show Nows w3 nb 0 (fun i => pageB (5 + 2 * i)) S from ⟨⟨_, c3, by simp, fun i hi => ⟨ByteArray.empty, by rw [List.getElem?_replicate, if_pos hi]⟩, nofun⟩, fun q => by have := L2.out.dev.lt nb q; omega, c3.1⟩)
  have L3 := hide (L2.out.below b3)
  have hnb1 : w1.heap.size ≤ nb := by rw [hnb]; exact L2.out.size
  have HW3 := hide hw3
  have HNB := hide hnb
  have Z := HZ.out
  clear hw3 b3 c3 hnb L2 HZ
  go_upto_region 7 with fail
  rw [← HW3.out, ← HNB.out]
  clear HW3 HNB Z
  go_wp2_with fail
  go_loopw [8] (fun iv wr => ∃ j : Nat, iv = .int .i64 ((5 + 2 * j : Nat) : Int) ∧ j ≤ 4 ∧ Live w1.heap.size w1 wr S d g ∧ Nows wr nb j (fun i => pageB (5 + 2 * i)) S) (fun iv _ => (20 - (intOf iv).toNat))
  case atStart => exact ⟨0, rfl, by decide, L3.out, N3.out⟩
  case round =>
    obtain ⟨j, rfl, hj, hL, hN⟩ := hrel
    have HL := hide hL
    have HN := hide hN
    clear hL hN L3 N3
    obtain ⟨H, hH⟩ : ∃ H, H = 5 + 2 * j := ⟨_, rfl⟩
    by_cases hlt : j < 4
    · rw [← hH]
      have hdd : decide ((H : Int) ≤ 11) = true := by simp; omega
      have hH2 : H ≤ 11 := by omega
      have hcv : ((H : Int) % 256) = (H : Int) := by omega
      have HH := hide hH
      clear hH
      go_wp2_with fail
      refine (HKP.out H wr).mono ?_
      rintro e w4 ⟨gb, rfl, hg, o4, b4⟩
      have A4 := Apart.new HL.out.dev o4 hg
      have cv := A4.conv 1024
      rw [pageB_length] at cv
      have L4 := hide (HL.out.below b4)
      have N4 := hide (HN.out.below b4)
      obtain ⟨⟨t4, k4⟩, f4⟩ := N4.out.any H (by omega)
      have hST := N4.out.set j hlt (pageB H) (j + 1) (fun i => pageB (5 + 2 * i)) (fun i hi => by
        by_cases e : i = j
        · exact .inl ⟨e, by rw [e, HH.out]⟩
        · exact .inr ⟨e, by omega, rfl⟩)
      rw [← HH.out] at hST
      have hkk : Keep (fun b => b = nb) w4 (w4.setCell ⟨nb, H, none⟩ (.string (strOf (pageB H)))) := (Keep.refl (fun b => b = nb) w4).setCell (fun _ => rfl) _
      have LST := hide (show Live w1.heap.size w1 (w4.setCell ⟨nb, H, none⟩ (.string (strOf (pageB H)))) S d g from ⟨L4.out.dev.keep hkk (fun b e => by rw [e]; exact N4.out.out), L4.out.far, L4.out.bel.trans (hkk.below L4.out.size (fun k hk q => by omega)), L4.out.le⟩)
      have NST := hide hST
      clear A4 o4 hg b4 HL HN L4 N4 hST hkk
      generalize strOf (pageB H) = SL at *
      go_wp2_with fail
      go_roundw
      case rel => exact ⟨j + 1, by rw [HH.out]; congr 1, by omega, LST.out, NST.out⟩
      case measure => have := HH.out; simp [intOf]; omega
    · obtain rfl : j = 4 := by omega
      clear hH
      have OF := hide (show Oft w1 d nb (fun i => pageB (5 + 2 * i)) 0 wr S g from ⟨HL.out, SH.out.four, by rw [SH.out.calls]; omega, HN.out, hnb1⟩)
      clear HL HN SH
      go_wp2_with fail
      go_loopw [9] (fun iv wr => ∃ (i : Nat) (Sr : Nat → Prop) (gr : Dev) (pg : Nat → List Nat), iv = .int .i64 (i : Int) ∧ i ≤ 30 ∧ i ≤ m0 ∧ Oft w1 d nb pg i wr Sr gr) (fun iv _ => (31 - (intOf iv).toNat))
      case atStart => exact ⟨0, S, g, _, rfl, by decide, Nat.zero_le _, OF.out⟩
      case round =>
        obtain ⟨i, Sr, gr, pg, rfl, hi30, him, hO⟩ := hrel
        have HO := hide hO
        clear hO OF
        by_cases him0 : i < m0
        · have d1 : decide ((i : Int) < (m0 : Int)) = true := by simp; omega
          by_cases hi3 : i < 30
          · have d2 : decide ((i : Int) < 30) = true := by simp; omega
            obtain ⟨bk, o, xx, rfl, hbl, hcl⟩ := (HM1.out.below HO.out.live.bel) i him0
            have KO := homeOf_any xx wr
            have hjj := bring_lt xx 4 (by omega)
            obtain ⟨jj, hjq⟩ : ∃ q, q = bring xx 4 := ⟨_, rfl⟩
            rw [← hjq] at KO hjj
            clear hjq
            obtain ⟨H, hH⟩ : ∃ H, H = 5 + 2 * jj := ⟨_, rfl⟩
            rw [← hH] at KO
            have hH11 : H ≤ 11 := by omega
            have HH := hide hH
            clear hH
            go_wp2_with fail
            refine KO.mono ?_
            rintro e w5 ⟨rfl, hw5⟩
            obtain rfl : wr = w5 := hw5.symm
            clear hw5 KO hcl hbl
            obtain ⟨fi, hfi⟩ : ∃ f : Nat, f = 40 + 3 * i := ⟨_, rfl⟩
            have hq1 : IntKind.i64.wrap (3 * (i : Int)) = 3 * (i : Int) := by rw [IntKind.wrap_i64]; omega
            have hq2 : IntKind.i64.wrap (40 + 3 * (i : Int)) = (fi : Int) := by rw [IntKind.wrap_i64]; omega
            have hq3 : (fi : Int) % 256 = (fi : Int) := by omega
            have hq4 : IntKind.u8.wrap (fi : Int) = (fi : Int) := by rw [IntKind.wrap_u8]; omega
            have HFI := hide hfi
            clear hfi
            go_wp2_with fail
            refine (HKP.out fi wr).mono ?_
            rintro e w6 ⟨gb, rfl, hg, o6, b6⟩
            have AB6 := hide (Apart.new HO.out.live.dev o6 hg)
            have L6 := hide (HO.out.live.below b6)
            have N6 := hide (HO.out.nows.below b6)
            have hPL := pageB_length fi
            have hPA := pageB_allB fi
            obtain ⟨PB, hPB⟩ : ∃ p, p = pageB fi := ⟨_, rfl⟩
            rw [← hPB] at AB6 hPL hPA
            have HPL := hide hPL
            have HPA := hide hPA
            have FR0 := hide HO.out.four
            have HC0 := hide HO.out.calls
            have HNB1 := hide HO.out.hi
            clear hPB hPL hPA o6 hg b6 HO hq1 hq2 hq3 hq4 HFI
            by_cases hfl : i < m1
            · have d3 : decide ((i : Int) < (m1 : Int)) = true := by simp; omega
              obtain ⟨bk2, o2, si, li, lai, lci, rfl, hfa⟩ := FL1.out i hfl
              have hlow := hide hfa.low
              have HFA1 := hide hfa
              have DR : Below w6.heap.size w6 w6.drew := (Below.refl _ _).drew
              have FA := hide (hfa.below L6.out.bel)
              have HSI := hide (fun w => step_any si li.torn li.off lai li.keep.length lci w)
              have hsi := bring_lt si 12 (by omega)
              obtain ⟨sti, hsti⟩ : ∃ x, x = bring si 12 := ⟨_, rfl⟩
              rw [← hsti] at HSI hsi
              clear hsti hfa
              go_upto_region 17 with fail
              refine wp_region_held_drew (S := fun wq => wq.cell? ⟨bk2, o2 + i * 4, none⟩ = some (.int .i64 si) ∧ wq.cell? ⟨bk2, o2 + i * 4 + 1, none⟩ = some (.slice lai li.keep.length lci) ∧ wq.cell? ⟨bk2, o2 + i * 4 + 2, none⟩ = some (.int .i64 li.torn) ∧ wq.cell? ⟨bk2, o2 + i * 4 + 3, none⟩ = some (.int .i64 li.off)) (by kernel_rfl) ⟨FA.out.c0, FA.out.c1, FA.out.c2, FA.out.c3⟩ (fun hS => ?_)
              have L7 := hide (L6.out.below DR)
              have N7 := hide (N6.out.below DR)
              have AB7 := hide (AB6.out.below DR)
              have FA7 := hide (FA.out.below DR)
              clear L6 N6 AB6 FA DR
              generalize w6.drew = w7 at *
              refine take_at 0 (some 63) (v := ?_) rfl rfl (by kernel_rfl) (by kernel_rfl) (by kernel_rfl) (fun _ _ _ h => h) ⟨by rfl, ?_⟩ hS ?_
              rotate_left
              · intro wq hSw; go_simp; try rfl
              simp only [Act.put, List.setIfInBounds_toArray, List.set_cons_zero, List.set_cons_succ]
              refine take_at 1 (some 64) (v := ?_) rfl rfl (by kernel_rfl) (by kernel_rfl) (by kernel_rfl) (fun _ _ _ h => h) ⟨by rfl, ?_⟩ hS ?_
              rotate_left
              · intro wq hSw; go_simp; try rfl
              simp only [Act.put, List.setIfInBounds_toArray, List.set_cons_zero, List.set_cons_succ]
              refine take_at 2 (some 65) (v := ?_) rfl rfl (by kernel_rfl) (by kernel_rfl) (by kernel_rfl) (fun _ _ _ h => h) ⟨by rfl, ?_⟩ hS ?_
              rotate_left
              · intro wq hSw; go_simp; try rfl
              simp only [Act.put, List.setIfInBounds_toArray, List.set_cons_zero, List.set_cons_succ]
              refine take_at 3 (some 66) (v := ?_) rfl rfl (by kernel_rfl) (by kernel_rfl) (by kernel_rfl) (fun _ _ _ h => h) ⟨by rfl, ?_⟩ hS ?_
              rotate_left
              · intro wq hSw; go_simp; try rfl
              simp only [Act.put, List.setIfInBounds_toArray, List.set_cons_zero, List.set_cons_succ]
              refine take_at 4 (some 67) (v := ?_) rfl rfl (by kernel_rfl) (by kernel_rfl) (by kernel_rfl) (fun _ _ _ h => h) ⟨by rfl, ?_⟩ hS ?_
              rotate_left
              · intro wq hSw; obtain ⟨y0, y1, y2, y3⟩ := hSw; go_simp; try rfl
              simp only [Act.put, List.setIfInBounds_toArray, List.set_cons_zero, List.set_cons_succ]
              refine take_at 6 (some 69) (v := ?_) rfl rfl (by kernel_rfl) (by kernel_rfl) (by kernel_rfl) (fun _ _ _ h => h) ⟨by rfl, ?_⟩ hS ?_
              rotate_left
              · intro wq hSw; go_simp; try rfl
              simp only [Act.put, List.setIfInBounds_toArray, List.set_cons_zero, List.set_cons_succ]
              refine take_at 7 (some 70) (v := ?_) rfl rfl (by kernel_rfl) (by kernel_rfl) (by kernel_rfl) (fun _ _ _ h => h) ⟨by rfl, ?_⟩ hS ?_
              rotate_left
              · intro wq hSw; go_simp; try rfl
              simp only [Act.put, List.setIfInBounds_toArray, List.set_cons_zero, List.set_cons_succ]
              refine take_at 8 (some 71) (v := ?_) rfl rfl (by kernel_rfl) (by kernel_rfl) (by kernel_rfl) (fun _ _ _ h => h) ⟨by rfl, ?_⟩ hS ?_
              rotate_left
              · intro wq hSw; go_simp; try rfl
              simp only [Act.put, List.setIfInBounds_toArray, List.set_cons_zero, List.set_cons_succ]
              refine take_at 9 (some 72) (v := ?_) rfl rfl (by kernel_rfl) (by kernel_rfl) (by kernel_rfl) (fun _ _ _ h => h) ⟨by rfl, ?_⟩ hS ?_
              rotate_left
              · intro wq hSw; go_simp; try rfl
              simp only [Act.put, List.setIfInBounds_toArray, List.set_cons_zero, List.set_cons_succ]
              refine take_at 10 (some 73) (v := ?_) rfl rfl (by kernel_rfl) (by kernel_rfl) (by kernel_rfl) (fun _ _ _ h => h) ⟨by rfl, ?_⟩ hS ?_
              rotate_left
              · intro wq hSw; obtain ⟨y0, y1, y2, y3⟩ := hSw; go_simp; try rfl
              simp only [Act.put, List.setIfInBounds_toArray, List.set_cons_zero, List.set_cons_succ]
              refine wpAnyH_ready (rs := [5]) (by kernel_rfl) (by simp) ?_
              refine AllReadyH.cons rfl (fun K hK => ?_) AllReadyH.nil
              go_simp
              go_wp2_with fail
              refine (HSI.out w7).mono ?_
              rintro e w8a ⟨rfl, b8⟩
              have L8a := hide (L7.out.below b8)
              have N8a := hide (N7.out.below b8)
              have AB8a := hide (AB7.out.below b8)
              have FA8 := hide (FA7.out.below b8)
              have hsz := L8a.out.size
              have KA := arm_any L8a.out.dev (sti : Int) (by omega) li lai lci FA8.out.loss (fun q ad e r => by have := hlow.out q ad e; have := L8a.out.far _ r; omega) FA8.out.short
              clear b8 L7 N7 AB7 FA7
              go_wp2_with fail
              refine hK.out _ _ ⟨FA8.out.c0, FA8.out.c1, FA8.out.c2, FA8.out.c3⟩ (fun hS => ?_)
              clear hK K
              (try simp only [Act.put, List.setIfInBounds_toArray, List.set_cons_zero, List.set_cons_succ])
              refine wpAnyH_ready (rs := [11]) (by kernel_rfl) (by simp) ?_
              refine AllReadyH.cons rfl (fun K hK => ?_) AllReadyH.nil
              go_simp
              go_wp2_with fail
              refine KA.mono ?_
              rintro e w8 ⟨S8, rfl, p8, s8⟩
              have L8 := hide (L8a.out.step p8 s8)
              have N8 := hide (N8a.out.step s8)
              have AB8 := hide (AB8a.out.step s8)
              have FA9 := hide ((show FallAt w1 bk2 (o2 + i * 4) si li lai lci from HFA1.out).below L8.out.bel)
              clear KA p8 s8
              go_wp2_with fail
              refine hK.out _ _ ⟨FA9.out.c0, FA9.out.c1, FA9.out.c2, FA9.out.c3⟩ (fun hS => ?_)
              clear hK K
              (try simp only [Act.put, List.setIfInBounds_toArray, List.set_cons_zero, List.set_cons_succ])
              obtain ⟨a1, a2⟩ := FR0.out.arm sti (by omega) li FA8.out.loss.ok
              have FR8 := hide a1
              have HC8 := hide (show (gr.arm (sti : Int) li).calls ≤ 40 + 15 * i by rw [a2]; exact HC0.out)
              refine wpAnyH_done (by kernel_rfl) ?_ _
              clear a1 a2 hS FA8 FR0 HC0 hlow HSI
              generalize gr.arm (sti : Int) li = g8 at *
              have RD := FR8.out.round jj hjj PB HPL.out HPA.out
              rw [← HH.out] at RD
              obtain ⟨r1, r2, r3, r4, x, r5, r6⟩ := RD
              have KW := write_twin L8.out.dev 2 (H : Int) (some ⟨gb, 0, none⟩) PB 1024 AB8.out.bytes (fun ad e => by cases e; exact AB8.out.out) (by rw [HPL.out]; decide) HPA.out (by rw [FR8.out.run.pend]; decide) (by have := HC8.out; omega)
              rw [HPL.out] at KW
              generalize g8.twE 2 (H : Int) PB = E at *
              generalize g8.twD 2 (H : Int) PB = D at *
              have R1 := hide r1
              have R2 := hide r2
              have R3 := hide r3
              have R4 := hide r4
              have R5 := hide r5
              clear r1 r2 r3 r4 r5 FR8
              rcases r6 with ⟨rfl, r7, hx⟩ | ⟨rfl, r7, hx⟩ | ⟨rfl, hx⟩
              · have hx2 := hx.symm
                clear hx
                subst hx2
                have R7 := hide r7
                clear r7
                go_wp2_with fail
                refine KW.mono ?_
                rintro e w9 ⟨S9, v9, rfl, t9, p9, s9⟩
                rcases t9 with ⟨_, rfl⟩ | ⟨q, _⟩
                rotate_left
                · exact absurd rfl q
                have L9 := hide (L8.out.step p9 s9)
                have N9 := hide (N8.out.step s9)
                have AB9 := hide (AB8.out.step s9)
                have KU := up_any L9.out.dev
                clear KW p9 s9 L8 N8 AB8
                go_wp2_with fail
                refine KU.mono ?_
                rintro e w10 ⟨rfl, p10, k10⟩
                have s10 : Step w9 S9 w10 S9 := Step.of_keep k10
                have L10 := hide (L9.out.step p10 s10)
                have N10 := hide (N9.out.step s10)
                have AB10 := hide (AB9.out.step s10)
                have KFN := finish_twin L10.out.dev 2 (by rw [R2.out]; decide) (by show D.calls ≤ _; have := R3.out; have := HC8.out; omega)
                rw [R1.out, R7.out] at KFN
                generalize D.up.fnD 2 = g11 at *
                clear KU p10 k10 s10 L9 N9 AB9 R1 R2 R3 R7
                go_wp2_with fail
                refine KFN.mono ?_
                rintro e w11 ⟨S11, v11, rfl, t11, p11, s11⟩
                rcases t11 with ⟨_, rfl⟩ | ⟨q, _⟩
                rotate_left
                · exact absurd rfl q
                have L11 := hide (L10.out.step p11 s11)
                have N11 := hide (N10.out.step s11)
                have AB11 := hide (AB10.out.step s11)
                have RR := R5.out.read jj hjj
                rw [← HH.out] at RR
                have hup : updP pg jj PB jj = PB := by unfold updP; rw [if_pos rfl]
                rw [hup] at RR
                have KR := read_twin L11.out.dev (H : Int) (by rw [R5.out.run.pend]; decide)
                rw [RR.1, RR.2] at KR
                clear KFN p11 s11 L10 N10 AB10 RR hup
                go_wp2_with fail
                refine KR.mono ?_
                rintro e w12 ⟨v12, x12, rfl, t12, o12, b12⟩
                rcases t12 with ⟨_, rfl⟩ | ⟨q, _⟩
                rotate_left
                · exact absurd rfl q
                rcases o12 with ⟨q, _⟩ | ⟨_, hXL, gx, rfl, hgx, o12⟩
                · exact absurd rfl q
                have DR : Below w12.heap.size w12 w12.drew := (Below.refl _ _).drew
                have AX12 := hide ((Apart.new L11.out.dev o12 hgx).below DR)
                have L12 := hide ((L11.out.below b12).below DR)
                have N12 := hide ((N11.out.below b12).below DR)
                have AB12 := hide ((AB11.out.below b12).below DR)
                have cX := AX12.out.conv 1024
                rw [hXL] at cX
                have cB := AB12.out.conv 1024
                rw [HPL.out] at cB
                have cN := N12.out.cell jj hjj
                rw [← HH.out] at cN
                obtain ⟨_, fN⟩ := N12.out.any H (by omega)
                have hST := N12.out.set jj hjj PB 4 (updP pg jj PB) (fun i hi => by
                  unfold updP
                  by_cases e : i = jj
                  · exact .inl ⟨e, by rw [if_pos e]⟩
                  · exact .inr ⟨e, hi, by rw [if_neg e]⟩)
                rw [← HH.out] at hST
                have hkk : Keep (fun b => b = nb) w12.drew (w12.drew.setCell ⟨nb, H, none⟩ (.string (strOf PB))) := (Keep.refl (fun b => b = nb) w12.drew).setCell (fun _ => rfl) _
                have LST := hide (show Live w1.heap.size w1 (w12.drew.setCell ⟨nb, H, none⟩ (.string (strOf PB))) S11 d g11 from ⟨L12.out.dev.keep hkk (fun b e => by rw [e]; exact N12.out.out), L12.out.far, L12.out.bel.trans (hkk.below L12.out.size (fun k hk q => by have := HNB1.out; omega)), L12.out.le⟩)
                have NST := hide hST
                obtain ⟨SX, hSX⟩ : ∃ q, q = strOf PB := ⟨_, rfl⟩
                obtain ⟨SP, hSP⟩ : ∃ q, q = strOf PB := ⟨_, rfl⟩
                obtain ⟨SO, hSO⟩ : ∃ q, q = strOf (pg jj) := ⟨_, rfl⟩
                rw [← hSX] at cX LST NST
                rw [← hSP] at cB
                rw [← hSO] at cN
                obtain rfl : SX = SP := by rw [hSX, hSP]
                have R6 := hide (show Four (updP pg jj PB) g11 from R5.out)
                clear KR hXL hgx o12 b12 L11 N11 AB11 L12 N12 AB12 AX12 hST hkk hSX hSP hSO R5
                go_upto_region 24 with fail
                refine wp_region_held_drew (S := fun wq => (convert 22 9 (.slice (some ⟨gx, 0, none⟩) 1024 1024)).run Try.prog wq = .ok (.string SX) wq ∧ (convert 22 9 (.slice (some ⟨gb, 0, none⟩) 1024 1024)).run Try.prog wq = .ok (.string SX) wq ∧ wq.cell? ⟨nb, H, none⟩ = some (.string SO)) (by kernel_rfl) ⟨cX, cB, cN⟩ (fun hS => ?_)
                clear DR
                generalize w12.drew = w13 at *
                refine take_at 0 (some 101) (v := ?_) rfl rfl (by kernel_rfl) (by kernel_rfl) (by kernel_rfl) (fun _ _ _ h => h) ⟨by rfl, ?_⟩ hS ?_
                rotate_left
                · intro wq hSw; obtain ⟨y0, y1, y2⟩ := hSw; go_simp; try rfl
                simp only [Act.put, List.setIfInBounds_toArray, List.set_cons_zero, List.set_cons_succ]
                refine take_at 1 (some 102) (v := ?_) rfl rfl (by kernel_rfl) (by kernel_rfl) (by kernel_rfl) (fun _ _ _ h => h) ⟨by rfl, ?_⟩ hS ?_
                rotate_left
                · intro wq hSw; obtain ⟨y0, y1, y2⟩ := hSw; go_simp; try rfl
                simp only [Act.put, List.setIfInBounds_toArray, List.set_cons_zero, List.set_cons_succ]
                refine take_at 2 (some 103) (v := ?_) rfl rfl (by kernel_rfl) (by kernel_rfl) (by kernel_rfl) (fun _ _ _ h => h) ⟨by rfl, ?_⟩ hS ?_
                rotate_left
                · intro wq hSw; obtain ⟨y0, y1, y2⟩ := hSw; go_simp; try rfl
                simp only [Act.put, List.setIfInBounds_toArray, List.set_cons_zero, List.set_cons_succ]
                refine take_at 3 (some 104) (v := ?_) rfl rfl (by kernel_rfl) (by kernel_rfl) (by kernel_rfl) (fun _ _ _ h => h) ⟨by rfl, ?_⟩ hS ?_
                rotate_left
                · intro wq hSw; obtain ⟨y0, y1, y2⟩ := hSw; go_simp; try rfl
                simp only [Act.put, List.setIfInBounds_toArray, List.set_cons_zero, List.set_cons_succ]
                refine take_at 4 (some 105) (v := ?_) rfl rfl (by kernel_rfl) (by kernel_rfl) (by kernel_rfl) (fun _ _ _ h => h) ⟨by rfl, ?_⟩ hS ?_
                rotate_left
                · intro wq hSw; obtain ⟨y0, y1, y2⟩ := hSw; go_simp; try rfl
                simp only [Act.put, List.setIfInBounds_toArray, List.set_cons_zero, List.set_cons_succ]
                refine take_at 5 (some 106) (v := ?_) rfl rfl (by kernel_rfl) (by kernel_rfl) (by kernel_rfl) (fun _ _ _ h => h) ⟨by rfl, ?_⟩ hS ?_
                rotate_left
                · intro wq hSw; obtain ⟨y0, y1, y2⟩ := hSw; go_simp; try rfl
                simp only [Act.put, List.setIfInBounds_toArray, List.set_cons_zero, List.set_cons_succ]
                refine take_at 6 (some 107) (v := ?_) rfl rfl (by kernel_rfl) (by kernel_rfl) (by kernel_rfl) (fun _ _ _ h => h) ⟨by rfl, ?_⟩ hS ?_
                rotate_left
                · intro wq hSw; obtain ⟨y0, y1, y2⟩ := hSw; go_simp; try rfl
                simp only [Act.put, List.setIfInBounds_toArray, List.set_cons_zero, List.set_cons_succ]
                refine take_at 7 (some 108) (v := ?_) rfl rfl (by kernel_rfl) (by kernel_rfl) (by kernel_rfl) (fun _ _ _ h => h) ⟨by rfl, ?_⟩ hS ?_
                rotate_left
                · intro wq hSw; obtain ⟨y0, y1, y2⟩ := hSw; go_simp; try rfl
                simp only [Act.put, List.setIfInBounds_toArray, List.set_cons_zero, List.set_cons_succ]
                refine take_at 8 (some 109) (v := ?_) rfl rfl (by kernel_rfl) (by kernel_rfl) (by kernel_rfl) (fun _ _ _ h => h) ⟨by rfl, ?_⟩ hS ?_
                rotate_left
                · intro wq hSw; obtain ⟨y0, y1, y2⟩ := hSw; go_simp; try rfl
                simp only [Act.put, List.setIfInBounds_toArray, List.set_cons_zero, List.set_cons_succ]
                refine pass_at 9 (some 110) rfl rfl (by kernel_rfl) (by kernel_rfl) (by kernel_rfl) (fun _ _ _ h => h) (by rfl) hS ?_
                simp only [Act.put, List.setIfInBounds_toArray, List.set_cons_zero, List.set_cons_succ]
                refine pass_at 10 (some 111) rfl rfl (by kernel_rfl) (by kernel_rfl) (by kernel_rfl) (fun _ _ _ h => h) (by rfl) hS ?_
                simp only [Act.put, List.setIfInBounds_toArray, List.set_cons_zero, List.set_cons_succ]
                refine pass_at 11 (some 112) rfl rfl (by kernel_rfl) (by kernel_rfl) (by kernel_rfl) (fun _ _ _ h => h) (by rfl) hS ?_
                simp only [Act.put, List.setIfInBounds_toArray, List.set_cons_zero, List.set_cons_succ]
                refine pass_at 12 (some 113) rfl rfl (by kernel_rfl) (by kernel_rfl) (by kernel_rfl) (fun _ _ _ h => h) (by rfl) hS ?_
                simp only [Act.put, List.setIfInBounds_toArray, List.set_cons_zero, List.set_cons_succ]
                refine pass_at 13 (some 114) rfl rfl (by kernel_rfl) (by kernel_rfl) (by kernel_rfl) (fun _ _ _ h => h) (by rfl) hS ?_
                simp only [Act.put, List.setIfInBounds_toArray, List.set_cons_zero, List.set_cons_succ]
                refine pass_at 14 (some 115) rfl rfl (by kernel_rfl) (by kernel_rfl) (by kernel_rfl) (fun _ _ _ h => h) (by rfl) hS ?_
                simp only [Act.put, List.setIfInBounds_toArray, List.set_cons_zero, List.set_cons_succ]
                refine pass_at 15 (some 116) rfl rfl (by kernel_rfl) (by kernel_rfl) (by kernel_rfl) (fun _ _ _ h => h) (by rfl) hS ?_
                simp only [Act.put, List.setIfInBounds_toArray, List.set_cons_zero, List.set_cons_succ]
                refine pass_at 16 (some 117) rfl rfl (by kernel_rfl) (by kernel_rfl) (by kernel_rfl) (fun _ _ _ h => h) (by rfl) hS ?_
                simp only [Act.put, List.setIfInBounds_toArray, List.set_cons_zero, List.set_cons_succ]
                refine pass_at 17 (some 118) rfl rfl (by kernel_rfl) (by kernel_rfl) (by kernel_rfl) (fun _ _ _ h => h) (by rfl) hS ?_
                simp only [Act.put, List.setIfInBounds_toArray, List.set_cons_zero, List.set_cons_succ]
                refine pass_at 18 (some 119) rfl rfl (by kernel_rfl) (by kernel_rfl) (by kernel_rfl) (fun _ _ _ h => h) (by rfl) hS ?_
                simp only [Act.put, List.setIfInBounds_toArray, List.set_cons_zero, List.set_cons_succ]
                refine pass_at 19 (some 120) rfl rfl (by kernel_rfl) (by kernel_rfl) (by kernel_rfl) (fun _ _ _ h => h) (by rfl) hS ?_
                simp only [Act.put, List.setIfInBounds_toArray, List.set_cons_zero, List.set_cons_succ]
                refine pass_at 20 (some 121) rfl rfl (by kernel_rfl) (by kernel_rfl) (by kernel_rfl) (fun _ _ _ h => h) (by rfl) hS ?_
                simp only [Act.put, List.setIfInBounds_toArray, List.set_cons_zero, List.set_cons_succ]
                refine pass_at 21 (some 122) rfl rfl (by kernel_rfl) (by kernel_rfl) (by kernel_rfl) (fun _ _ _ h => h) (by rfl) hS ?_
                simp only [Act.put, List.setIfInBounds_toArray, List.set_cons_zero, List.set_cons_succ]
                refine take_at 22 (some 123) (v := ?_) rfl rfl (by kernel_rfl) (by kernel_rfl) (by kernel_rfl) (fun _ _ _ h => h) ⟨by rfl, ?_⟩ hS ?_
                rotate_left
                · intro wq hSw; obtain ⟨y0, y1, y2⟩ := hSw; go_simp; try rfl
                simp only [Act.put, List.setIfInBounds_toArray, List.set_cons_zero, List.set_cons_succ]
                refine take_at 23 (some 124) (v := ?_) rfl rfl (by kernel_rfl) (by kernel_rfl) (by kernel_rfl) (fun _ _ _ h => h) ⟨by rfl, ?_⟩ hS ?_
                rotate_left
                · intro wq hSw; obtain ⟨y0, y1, y2⟩ := hSw; go_simp; try rfl
                simp only [Act.put, List.setIfInBounds_toArray, List.set_cons_zero, List.set_cons_succ]
                refine wpAnyH_done (by kernel_rfl) ?_ _
                have QQ := R6.out.quiet
                have KG := finish_twin LST.out.dev 2 (by rw [R6.out.run.pend]; decide) (by have := R4.out; have := HC8.out; omega)
                rw [QQ.1, QQ.2.1, QQ.2.2] at KG
                clear hS QQ cB
                go_wp2_with fail
                refine KG.mono ?_
                rintro e w15 ⟨S15, v15, rfl, t15, p15, s15⟩
                rcases t15 with ⟨_, rfl⟩ | ⟨q, _⟩
                rotate_left
                · exact absurd rfl q
                have L15 := hide (LST.out.step p15 s15)
                have N15 := hide (NST.out.step s15)
                clear KG p15 s15 LST NST cX cN fN
                go_wp2_with fail
                go_loopw [18] (fun iv wq => ∃ q : Nat, iv = .int .i64 ((5 + 2 * q : Nat) : Int) ∧ q ≤ 4 ∧ Below w15.heap.size w15 wq) (fun iv _ => (20 - (intOf iv).toNat))
                case atStart => exact ⟨0, rfl, by decide, Below.refl _ _⟩
                case round =>
                  obtain ⟨q, rfl, hq4, hBq⟩ := hrel
                  have HBq := hide hBq
                  clear hBq
                  by_cases hq : q < 4
                  · obtain ⟨K, hK⟩ : ∃ K, K = 5 + 2 * q := ⟨_, rfl⟩
                    have RQ := R6.out.read q hq
                    have LQ := hide (L15.out.below HBq.out)
                    have NQ := hide (N15.out.below HBq.out)
                    have KR := read_twin LQ.out.dev ((5 + 2 * q : Nat) : Int) (by rw [R6.out.run.pend]; decide)
                    rw [RQ.1, RQ.2] at KR
                    rw [← hK] at KR ⊢
                    have hdd : decide ((K : Int) ≤ 11) = true := by simp; omega
                    have hK2 : K ≤ 11 := by omega
                    have HK := hide hK
                    clear hK RQ
                    go_wp2_with fail
                    refine KR.mono ?_
                    rintro e w16 ⟨v16, x16, rfl, t16, o16, b16⟩
                    rcases t16 with ⟨_, rfl⟩ | ⟨q, _⟩
                    rotate_left
                    · exact absurd rfl q
                    rcases o16 with ⟨q, _⟩ | ⟨_, hYL, gy, rfl, hgy, o16⟩
                    · exact absurd rfl q
                    have DR : Below w16.heap.size w16 w16.drew := (Below.refl _ _).drew
                    have AY := (Apart.new LQ.out.dev o16 hgy).below DR
                    have cY := AY.conv 1024
                    rw [hYL] at cY
                    have cM := ((NQ.out.below b16).below DR).cell q hq
                    rw [← HK.out] at cM
                    have BQ := hide (bnext (bnext HBq.out b16 (Nat.le_refl _)) DR (Nat.le_refl _))
                    generalize strOf (updP pg jj PB q) = SY at *
                    clear KR o16 hgy b16 LQ NQ AY hYL HBq
                    go_upto_region 34 with fail
                    refine wp_region_held_drew (S := fun wq => (convert 22 9 (.slice (some ⟨gy, 0, none⟩) 1024 1024)).run Try.prog wq = .ok (.string SY) wq ∧ wq.cell? ⟨nb, K, none⟩ = some (.string SY)) (by kernel_rfl) ⟨cY, cM⟩ (fun hS => ?_)
                    clear DR cY cM
                    generalize w16.drew = w17 at *
                    refine take_at 0 (some 149) (v := ?_) rfl rfl (by kernel_rfl) (by kernel_rfl) (by kernel_rfl) (fun _ _ _ h => h) ⟨by rfl, ?_⟩ hS ?_
                    rotate_left
                    · intro wq hSw; obtain ⟨y0, y1⟩ := hSw; go_simp; try rfl
                    simp only [Act.put, List.setIfInBounds_toArray, List.set_cons_zero, List.set_cons_succ]
                    refine take_at 1 (some 150) (v := ?_) rfl rfl (by kernel_rfl) (by kernel_rfl) (by kernel_rfl) (fun _ _ _ h => h) ⟨by rfl, ?_⟩ hS ?_
                    rotate_left
                    · intro wq hSw; obtain ⟨y0, y1⟩ := hSw; go_simp; try rfl
                    simp only [Act.put, List.setIfInBounds_toArray, List.set_cons_zero, List.set_cons_succ]
                    refine take_at 2 (some 151) (v := ?_) rfl rfl (by kernel_rfl) (by kernel_rfl) (by kernel_rfl) (fun _ _ _ h => h) ⟨by rfl, ?_⟩ hS ?_
                    rotate_left
                    · intro wq hSw; obtain ⟨y0, y1⟩ := hSw; go_simp; try rfl
                    simp only [Act.put, List.setIfInBounds_toArray, List.set_cons_zero, List.set_cons_succ]
                    refine take_at 3 (some 152) (v := ?_) rfl rfl (by kernel_rfl) (by kernel_rfl) (by kernel_rfl) (fun _ _ _ h => h) ⟨by rfl, ?_⟩ hS ?_
                    rotate_left
                    · intro wq hSw; obtain ⟨y0, y1⟩ := hSw; go_simp; try rfl
                    simp only [Act.put, List.setIfInBounds_toArray, List.set_cons_zero, List.set_cons_succ]
                    refine take_at 4 (some 153) (v := ?_) rfl rfl (by kernel_rfl) (by kernel_rfl) (by kernel_rfl) (fun _ _ _ h => h) ⟨by rfl, ?_⟩ hS ?_
                    rotate_left
                    · intro wq hSw; obtain ⟨y0, y1⟩ := hSw; go_simp; try rfl
                    simp only [Act.put, List.setIfInBounds_toArray, List.set_cons_zero, List.set_cons_succ]
                    refine take_at 5 (some 154) (v := ?_) rfl rfl (by kernel_rfl) (by kernel_rfl) (by kernel_rfl) (fun _ _ _ h => h) ⟨by rfl, ?_⟩ hS ?_
                    rotate_left
                    · intro wq hSw; obtain ⟨y0, y1⟩ := hSw; go_simp; try rfl
                    simp only [Act.put, List.setIfInBounds_toArray, List.set_cons_zero, List.set_cons_succ]
                    refine take_at 6 (some 155) (v := ?_) rfl rfl (by kernel_rfl) (by kernel_rfl) (by kernel_rfl) (fun _ _ _ h => h) ⟨by rfl, ?_⟩ hS ?_
                    rotate_left
                    · intro wq hSw; obtain ⟨y0, y1⟩ := hSw; go_simp; rw [if_pos (by omega)]; try rfl
                    simp only [Act.put, List.setIfInBounds_toArray, List.set_cons_zero, List.set_cons_succ]
                    refine take_at 7 (some 156) (v := ?_) rfl rfl (by kernel_rfl) (by kernel_rfl) (by kernel_rfl) (fun _ _ _ h => h) ⟨by rfl, ?_⟩ hS ?_
                    rotate_left
                    · intro wq hSw; obtain ⟨y0, y1⟩ := hSw; go_simp; try rfl
                    simp only [Act.put, List.setIfInBounds_toArray, List.set_cons_zero, List.set_cons_succ]
                    refine take_at 8 (some 157) (v := ?_) rfl rfl (by kernel_rfl) (by kernel_rfl) (by kernel_rfl) (fun _ _ _ h => h) ⟨by rfl, ?_⟩ hS ?_
                    rotate_left
                    · intro wq hSw; obtain ⟨y0, y1⟩ := hSw; go_simp; try rfl
                    simp only [Act.put, List.setIfInBounds_toArray, List.set_cons_zero, List.set_cons_succ]
                    refine take_at 9 (some 158) (v := ?_) rfl rfl (by kernel_rfl) (by kernel_rfl) (by kernel_rfl) (fun _ _ _ h => h) ⟨by rfl, ?_⟩ hS ?_
                    rotate_left
                    · intro wq hSw; obtain ⟨y0, y1⟩ := hSw; go_simp; try rfl
                    simp only [Act.put, List.setIfInBounds_toArray, List.set_cons_zero, List.set_cons_succ]
                    refine wpAnyH_done (by kernel_rfl) ?_ _
                    go_wp2_with fail
                    go_roundw
                    case rel => exact ⟨q + 1, by rw [HK.out]; congr 1, by omega, BQ.out⟩
                    case measure => have := HK.out; simp [intOf]; omega
                  · obtain rfl : q = 4 := by omega
                    have NXT := hide (show Oft w1 d nb (updP pg jj PB) (i + 1) wr S15 g11 from ⟨L15.out.below HBq.out, R6.out, by have := R4.out; have := HC8.out; omega, N15.out.below HBq.out, HNB1.out⟩)
                    clear HBq L15 N15
                    go_wp2_with fail
                    go_roundw
                    case rel => ((repeat apply Exists.intro); exact ⟨⟨i + 1, S15, g11, _, by go_num, by omega, by omega, NXT.out⟩, rfl⟩)
                    case measure => simp [intOf]; omega
              · have hx2 := hx.symm
                clear hx
                subst hx2
                have R7 := hide r7
                clear r7
                go_wp2_with fail
                refine KW.mono ?_
                rintro e w9 ⟨S9, v9, rfl, t9, p9, s9⟩
                rcases t9 with ⟨q, _⟩ | ⟨_, t9⟩
                · exact absurd q (by decide)
                obtain ⟨eb9, rfl, _, _⟩ := t9
                have L9 := hide (L8.out.step p9 s9)
                have N9 := hide (N8.out.step s9)
                have AB9 := hide (AB8.out.step s9)
                have KU := up_any L9.out.dev
                clear KW p9 s9 L8 N8 AB8
                go_wp2_with fail
                refine KU.mono ?_
                rintro e w10 ⟨rfl, p10, k10⟩
                have s10 : Step w9 S9 w10 S9 := Step.of_keep k10
                have L10 := hide (L9.out.step p10 s10)
                have N10 := hide (N9.out.step s10)
                have AB10 := hide (AB9.out.step s10)
                have KFN := finish_twin L10.out.dev 2 (by rw [R2.out]; decide) (by show D.calls ≤ _; have := R3.out; have := HC8.out; omega)
                rw [R1.out, R7.out] at KFN
                generalize D.up.fnD 2 = g11 at *
                clear KU p10 k10 s10 L9 N9 AB9 R1 R2 R3 R7
                go_wp2_with fail
                refine KFN.mono ?_
                rintro e w11 ⟨S11, v11, rfl, t11, p11, s11⟩
                rcases t11 with ⟨_, rfl⟩ | ⟨q, _⟩
                rotate_left
                · exact absurd rfl q
                have L11 := hide (L10.out.step p11 s11)
                have N11 := hide (N10.out.step s11)
                have AB11 := hide (AB10.out.step s11)
                have RR := R5.out.read jj hjj
                rw [← HH.out] at RR
                have hup : updP pg jj (pg jj) jj = (pg jj) := by unfold updP; rw [if_pos rfl]
                rw [hup] at RR
                have KR := read_twin L11.out.dev (H : Int) (by rw [R5.out.run.pend]; decide)
                rw [RR.1, RR.2] at KR
                clear KFN p11 s11 L10 N10 AB10 RR hup
                go_wp2_with fail
                refine KR.mono ?_
                rintro e w12 ⟨v12, x12, rfl, t12, o12, b12⟩
                rcases t12 with ⟨_, rfl⟩ | ⟨q, _⟩
                rotate_left
                · exact absurd rfl q
                rcases o12 with ⟨q, _⟩ | ⟨_, hXL, gx, rfl, hgx, o12⟩
                · exact absurd rfl q
                have DR : Below w12.heap.size w12 w12.drew := (Below.refl _ _).drew
                have AX12 := hide ((Apart.new L11.out.dev o12 hgx).below DR)
                have L12 := hide ((L11.out.below b12).below DR)
                have N12 := hide ((N11.out.below b12).below DR)
                have AB12 := hide ((AB11.out.below b12).below DR)
                have cX := AX12.out.conv 1024
                rw [hXL] at cX
                have cB := AB12.out.conv 1024
                rw [HPL.out] at cB
                have cN := N12.out.cell jj hjj
                rw [← HH.out] at cN
                obtain ⟨_, fN⟩ := N12.out.any H (by omega)
                have hST := N12.out.set jj hjj (pg jj) 4 (updP pg jj (pg jj)) (fun i hi => by
                  unfold updP
                  by_cases e : i = jj
                  · exact .inl ⟨e, by rw [if_pos e]⟩
                  · exact .inr ⟨e, hi, by rw [if_neg e]⟩)
                rw [← HH.out] at hST
                have hkk : Keep (fun b => b = nb) w12.drew (w12.drew.setCell ⟨nb, H, none⟩ (.string (strOf (pg jj)))) := (Keep.refl (fun b => b = nb) w12.drew).setCell (fun _ => rfl) _
                have LST := hide (show Live w1.heap.size w1 (w12.drew.setCell ⟨nb, H, none⟩ (.string (strOf (pg jj)))) S11 d g11 from ⟨L12.out.dev.keep hkk (fun b e => by rw [e]; exact N12.out.out), L12.out.far, L12.out.bel.trans (hkk.below L12.out.size (fun k hk q => by have := HNB1.out; omega)), L12.out.le⟩)
                have NST := hide hST
                obtain ⟨SX, hSX⟩ : ∃ q, q = strOf (pg jj) := ⟨_, rfl⟩
                obtain ⟨SP, hSP⟩ : ∃ q, q = strOf PB := ⟨_, rfl⟩
                obtain ⟨SO, hSO⟩ : ∃ q, q = strOf (pg jj) := ⟨_, rfl⟩
                rw [← hSX] at cX LST NST
                rw [← hSP] at cB
                rw [← hSO] at cN
                obtain rfl : SX = SO := by rw [hSX, hSO]
                have R6 := hide (show Four (updP pg jj (pg jj)) g11 from R5.out)
                clear KR hXL hgx o12 b12 L11 N11 AB11 L12 N12 AB12 AX12 hST hkk hSX hSP hSO R5
                go_upto_region 24 with fail
                refine wp_region_held_drew (S := fun wq => (convert 22 9 (.slice (some ⟨gx, 0, none⟩) 1024 1024)).run Try.prog wq = .ok (.string SX) wq ∧ (convert 22 9 (.slice (some ⟨gb, 0, none⟩) 1024 1024)).run Try.prog wq = .ok (.string SP) wq ∧ wq.cell? ⟨nb, H, none⟩ = some (.string SX)) (by kernel_rfl) ⟨cX, cB, cN⟩ (fun hS => ?_)
                clear DR
                generalize w12.drew = w13 at *
                refine take_at 0 (some 101) (v := ?_) rfl rfl (by kernel_rfl) (by kernel_rfl) (by kernel_rfl) (fun _ _ _ h => h) ⟨by rfl, ?_⟩ hS ?_
                rotate_left
                · intro wq hSw; obtain ⟨y0, y1, y2⟩ := hSw; go_simp; try rfl
                simp only [Act.put, List.setIfInBounds_toArray, List.set_cons_zero, List.set_cons_succ]
                refine take_at 1 (some 102) (v := ?_) rfl rfl (by kernel_rfl) (by kernel_rfl) (by kernel_rfl) (fun _ _ _ h => h) ⟨by rfl, ?_⟩ hS ?_
                rotate_left
                · intro wq hSw; obtain ⟨y0, y1, y2⟩ := hSw; go_simp; try rfl
                simp only [Act.put, List.setIfInBounds_toArray, List.set_cons_zero, List.set_cons_succ]
                refine take_at 2 (some 103) (v := ?_) rfl rfl (by kernel_rfl) (by kernel_rfl) (by kernel_rfl) (fun _ _ _ h => h) ⟨by rfl, ?_⟩ hS ?_
                rotate_left
                · intro wq hSw; obtain ⟨y0, y1, y2⟩ := hSw; go_simp; try rfl
                simp only [Act.put, List.setIfInBounds_toArray, List.set_cons_zero, List.set_cons_succ]
                refine take_at 3 (some 104) (v := ?_) rfl rfl (by kernel_rfl) (by kernel_rfl) (by kernel_rfl) (fun _ _ _ h => h) ⟨by rfl, ?_⟩ hS ?_
                rotate_left
                · intro wq hSw; obtain ⟨y0, y1, y2⟩ := hSw; go_simp; try rfl
                simp only [Act.put, List.setIfInBounds_toArray, List.set_cons_zero, List.set_cons_succ]
                refine take_at 4 (some 105) (v := ?_) rfl rfl (by kernel_rfl) (by kernel_rfl) (by kernel_rfl) (fun _ _ _ h => h) ⟨by rfl, ?_⟩ hS ?_
                rotate_left
                · intro wq hSw; obtain ⟨y0, y1, y2⟩ := hSw; go_simp; try rfl
                simp only [Act.put, List.setIfInBounds_toArray, List.set_cons_zero, List.set_cons_succ]
                refine take_at 5 (some 106) (v := ?_) rfl rfl (by kernel_rfl) (by kernel_rfl) (by kernel_rfl) (fun _ _ _ h => h) ⟨by rfl, ?_⟩ hS ?_
                rotate_left
                · intro wq hSw; obtain ⟨y0, y1, y2⟩ := hSw; go_simp; try rfl
                simp only [Act.put, List.setIfInBounds_toArray, List.set_cons_zero, List.set_cons_succ]
                refine take_at 6 (some 107) (v := ?_) rfl rfl (by kernel_rfl) (by kernel_rfl) (by kernel_rfl) (fun _ _ _ h => h) ⟨by rfl, ?_⟩ hS ?_
                rotate_left
                · intro wq hSw; obtain ⟨y0, y1, y2⟩ := hSw; go_simp; try rfl
                simp only [Act.put, List.setIfInBounds_toArray, List.set_cons_zero, List.set_cons_succ]
                by_cases hs : SX.toList = SP.toList
                · refine take_at 7 (some 108) (v := ?_) rfl rfl (by kernel_rfl) (by kernel_rfl) (by kernel_rfl) (fun _ _ _ h => h) ⟨by rfl, ?_⟩ hS ?_
                  rotate_left
                  · intro wq hSw; obtain ⟨y0, y1, y2⟩ := hSw; go_simp; try rfl
                  simp only [Act.put, List.setIfInBounds_toArray, List.set_cons_zero, List.set_cons_succ]
                  refine take_at 8 (some 109) (v := ?_) rfl rfl (by kernel_rfl) (by kernel_rfl) (by kernel_rfl) (fun _ _ _ h => h) ⟨by rfl, ?_⟩ hS ?_
                  rotate_left
                  · intro wq hSw; obtain ⟨y0, y1, y2⟩ := hSw; go_simp; try rfl
                  simp only [Act.put, List.setIfInBounds_toArray, List.set_cons_zero, List.set_cons_succ]
                  refine pass_at 9 (some 110) rfl rfl (by kernel_rfl) (by kernel_rfl) (by kernel_rfl) (fun _ _ _ h => h) (by rfl) hS ?_
                  simp only [Act.put, List.setIfInBounds_toArray, List.set_cons_zero, List.set_cons_succ]
                  refine pass_at 10 (some 111) rfl rfl (by kernel_rfl) (by kernel_rfl) (by kernel_rfl) (fun _ _ _ h => h) (by rfl) hS ?_
                  simp only [Act.put, List.setIfInBounds_toArray, List.set_cons_zero, List.set_cons_succ]
                  refine pass_at 11 (some 112) rfl rfl (by kernel_rfl) (by kernel_rfl) (by kernel_rfl) (fun _ _ _ h => h) (by rfl) hS ?_
                  simp only [Act.put, List.setIfInBounds_toArray, List.set_cons_zero, List.set_cons_succ]
                  refine pass_at 12 (some 113) rfl rfl (by kernel_rfl) (by kernel_rfl) (by kernel_rfl) (fun _ _ _ h => h) (by rfl) hS ?_
                  simp only [Act.put, List.setIfInBounds_toArray, List.set_cons_zero, List.set_cons_succ]
                  refine pass_at 13 (some 114) rfl rfl (by kernel_rfl) (by kernel_rfl) (by kernel_rfl) (fun _ _ _ h => h) (by rfl) hS ?_
                  simp only [Act.put, List.setIfInBounds_toArray, List.set_cons_zero, List.set_cons_succ]
                  refine pass_at 14 (some 115) rfl rfl (by kernel_rfl) (by kernel_rfl) (by kernel_rfl) (fun _ _ _ h => h) (by rfl) hS ?_
                  simp only [Act.put, List.setIfInBounds_toArray, List.set_cons_zero, List.set_cons_succ]
                  refine pass_at 15 (some 116) rfl rfl (by kernel_rfl) (by kernel_rfl) (by kernel_rfl) (fun _ _ _ h => h) (by rfl) hS ?_
                  simp only [Act.put, List.setIfInBounds_toArray, List.set_cons_zero, List.set_cons_succ]
                  refine pass_at 16 (some 117) rfl rfl (by kernel_rfl) (by kernel_rfl) (by kernel_rfl) (fun _ _ _ h => h) (by rfl) hS ?_
                  simp only [Act.put, List.setIfInBounds_toArray, List.set_cons_zero, List.set_cons_succ]
                  refine pass_at 17 (some 118) rfl rfl (by kernel_rfl) (by kernel_rfl) (by kernel_rfl) (fun _ _ _ h => h) (by rfl) hS ?_
                  simp only [Act.put, List.setIfInBounds_toArray, List.set_cons_zero, List.set_cons_succ]
                  refine pass_at 18 (some 119) rfl rfl (by kernel_rfl) (by kernel_rfl) (by kernel_rfl) (fun _ _ _ h => h) (by rfl) hS ?_
                  simp only [Act.put, List.setIfInBounds_toArray, List.set_cons_zero, List.set_cons_succ]
                  refine pass_at 19 (some 120) rfl rfl (by kernel_rfl) (by kernel_rfl) (by kernel_rfl) (fun _ _ _ h => h) (by rfl) hS ?_
                  simp only [Act.put, List.setIfInBounds_toArray, List.set_cons_zero, List.set_cons_succ]
                  refine pass_at 20 (some 121) rfl rfl (by kernel_rfl) (by kernel_rfl) (by kernel_rfl) (fun _ _ _ h => h) (by rfl) hS ?_
                  simp only [Act.put, List.setIfInBounds_toArray, List.set_cons_zero, List.set_cons_succ]
                  refine pass_at 21 (some 122) rfl rfl (by kernel_rfl) (by kernel_rfl) (by kernel_rfl) (fun _ _ _ h => h) (by rfl) hS ?_
                  simp only [Act.put, List.setIfInBounds_toArray, List.set_cons_zero, List.set_cons_succ]
                  refine take_at 22 (some 123) (v := ?_) rfl rfl (by kernel_rfl) (by kernel_rfl) (by kernel_rfl) (fun _ _ _ h => h) ⟨by rfl, ?_⟩ hS ?_
                  rotate_left
                  · intro wq hSw; obtain ⟨y0, y1, y2⟩ := hSw; go_simp; try rfl
                  simp only [Act.put, List.setIfInBounds_toArray, List.set_cons_zero, List.set_cons_succ]
                  refine take_at 23 (some 124) (v := ?_) rfl rfl (by kernel_rfl) (by kernel_rfl) (by kernel_rfl) (fun _ _ _ h => h) ⟨by rfl, ?_⟩ hS ?_
                  rotate_left
                  · intro wq hSw; obtain ⟨y0, y1, y2⟩ := hSw; go_simp; try rfl
                  simp only [Act.put, List.setIfInBounds_toArray, List.set_cons_zero, List.set_cons_succ]
                  refine wpAnyH_done (by kernel_rfl) ?_ _
                  have QQ := R6.out.quiet
                  have KG := finish_twin LST.out.dev 2 (by rw [R6.out.run.pend]; decide) (by have := R4.out; have := HC8.out; omega)
                  rw [QQ.1, QQ.2.1, QQ.2.2] at KG
                  clear hS QQ cB
                  go_wp2_with fail
                  refine KG.mono ?_
                  rintro e w15 ⟨S15, v15, rfl, t15, p15, s15⟩
                  rcases t15 with ⟨_, rfl⟩ | ⟨q, _⟩
                  rotate_left
                  · exact absurd rfl q
                  have L15 := hide (LST.out.step p15 s15)
                  have N15 := hide (NST.out.step s15)
                  clear KG p15 s15 LST NST cX cN fN
                  go_wp2_with fail
                  go_loopw [18] (fun iv wq => ∃ q : Nat, iv = .int .i64 ((5 + 2 * q : Nat) : Int) ∧ q ≤ 4 ∧ Below w15.heap.size w15 wq) (fun iv _ => (20 - (intOf iv).toNat))
                  case atStart => exact ⟨0, rfl, by decide, Below.refl _ _⟩
                  case round =>
                    obtain ⟨q, rfl, hq4, hBq⟩ := hrel
                    have HBq := hide hBq
                    clear hBq
                    by_cases hq : q < 4
                    · obtain ⟨K, hK⟩ : ∃ K, K = 5 + 2 * q := ⟨_, rfl⟩
                      have RQ := R6.out.read q hq
                      have LQ := hide (L15.out.below HBq.out)
                      have NQ := hide (N15.out.below HBq.out)
                      have KR := read_twin LQ.out.dev ((5 + 2 * q : Nat) : Int) (by rw [R6.out.run.pend]; decide)
                      rw [RQ.1, RQ.2] at KR
                      rw [← hK] at KR ⊢
                      have hdd : decide ((K : Int) ≤ 11) = true := by simp; omega
                      have hK2 : K ≤ 11 := by omega
                      have HK := hide hK
                      clear hK RQ
                      go_wp2_with fail
                      refine KR.mono ?_
                      rintro e w16 ⟨v16, x16, rfl, t16, o16, b16⟩
                      rcases t16 with ⟨_, rfl⟩ | ⟨q, _⟩
                      rotate_left
                      · exact absurd rfl q
                      rcases o16 with ⟨q, _⟩ | ⟨_, hYL, gy, rfl, hgy, o16⟩
                      · exact absurd rfl q
                      have DR : Below w16.heap.size w16 w16.drew := (Below.refl _ _).drew
                      have AY := (Apart.new LQ.out.dev o16 hgy).below DR
                      have cY := AY.conv 1024
                      rw [hYL] at cY
                      have cM := ((NQ.out.below b16).below DR).cell q hq
                      rw [← HK.out] at cM
                      have BQ := hide (bnext (bnext HBq.out b16 (Nat.le_refl _)) DR (Nat.le_refl _))
                      generalize strOf (updP pg jj (pg jj) q) = SY at *
                      clear KR o16 hgy b16 LQ NQ AY hYL HBq
                      go_upto_region 34 with fail
                      refine wp_region_held_drew (S := fun wq => (convert 22 9 (.slice (some ⟨gy, 0, none⟩) 1024 1024)).run Try.prog wq = .ok (.string SY) wq ∧ wq.cell? ⟨nb, K, none⟩ = some (.string SY)) (by kernel_rfl) ⟨cY, cM⟩ (fun hS => ?_)
                      clear DR cY cM
                      generalize w16.drew = w17 at *
                      refine take_at 0 (some 149) (v := ?_) rfl rfl (by kernel_rfl) (by kernel_rfl) (by kernel_rfl) (fun _ _ _ h => h) ⟨by rfl, ?_⟩ hS ?_
                      rotate_left
                      · intro wq hSw; obtain ⟨y0, y1⟩ := hSw; go_simp; try rfl
                      simp only [Act.put, List.setIfInBounds_toArray, List.set_cons_zero, List.set_cons_succ]
                      refine take_at 1 (some 150) (v := ?_) rfl rfl (by kernel_rfl) (by kernel_rfl) (by kernel_rfl) (fun _ _ _ h => h) ⟨by rfl, ?_⟩ hS ?_
                      rotate_left
                      · intro wq hSw; obtain ⟨y0, y1⟩ := hSw; go_simp; try rfl
                      simp only [Act.put, List.setIfInBounds_toArray, List.set_cons_zero, List.set_cons_succ]
                      refine take_at 2 (some 151) (v := ?_) rfl rfl (by kernel_rfl) (by kernel_rfl) (by kernel_rfl) (fun _ _ _ h => h) ⟨by rfl, ?_⟩ hS ?_
                      rotate_left
                      · intro wq hSw; obtain ⟨y0, y1⟩ := hSw; go_simp; try rfl
                      simp only [Act.put, List.setIfInBounds_toArray, List.set_cons_zero, List.set_cons_succ]
                      refine take_at 3 (some 152) (v := ?_) rfl rfl (by kernel_rfl) (by kernel_rfl) (by kernel_rfl) (fun _ _ _ h => h) ⟨by rfl, ?_⟩ hS ?_
                      rotate_left
                      · intro wq hSw; obtain ⟨y0, y1⟩ := hSw; go_simp; try rfl
                      simp only [Act.put, List.setIfInBounds_toArray, List.set_cons_zero, List.set_cons_succ]
                      refine take_at 4 (some 153) (v := ?_) rfl rfl (by kernel_rfl) (by kernel_rfl) (by kernel_rfl) (fun _ _ _ h => h) ⟨by rfl, ?_⟩ hS ?_
                      rotate_left
                      · intro wq hSw; obtain ⟨y0, y1⟩ := hSw; go_simp; try rfl
                      simp only [Act.put, List.setIfInBounds_toArray, List.set_cons_zero, List.set_cons_succ]
                      refine take_at 5 (some 154) (v := ?_) rfl rfl (by kernel_rfl) (by kernel_rfl) (by kernel_rfl) (fun _ _ _ h => h) ⟨by rfl, ?_⟩ hS ?_
                      rotate_left
                      · intro wq hSw; obtain ⟨y0, y1⟩ := hSw; go_simp; try rfl
                      simp only [Act.put, List.setIfInBounds_toArray, List.set_cons_zero, List.set_cons_succ]
                      refine take_at 6 (some 155) (v := ?_) rfl rfl (by kernel_rfl) (by kernel_rfl) (by kernel_rfl) (fun _ _ _ h => h) ⟨by rfl, ?_⟩ hS ?_
                      rotate_left
                      · intro wq hSw; obtain ⟨y0, y1⟩ := hSw; go_simp; rw [if_pos (by omega)]; try rfl
                      simp only [Act.put, List.setIfInBounds_toArray, List.set_cons_zero, List.set_cons_succ]
                      refine take_at 7 (some 156) (v := ?_) rfl rfl (by kernel_rfl) (by kernel_rfl) (by kernel_rfl) (fun _ _ _ h => h) ⟨by rfl, ?_⟩ hS ?_
                      rotate_left
                      · intro wq hSw; obtain ⟨y0, y1⟩ := hSw; go_simp; try rfl
                      simp only [Act.put, List.setIfInBounds_toArray, List.set_cons_zero, List.set_cons_succ]
                      refine take_at 8 (some 157) (v := ?_) rfl rfl (by kernel_rfl) (by kernel_rfl) (by kernel_rfl) (fun _ _ _ h => h) ⟨by rfl, ?_⟩ hS ?_
                      rotate_left
                      · intro wq hSw; obtain ⟨y0, y1⟩ := hSw; go_simp; try rfl
                      simp only [Act.put, List.setIfInBounds_toArray, List.set_cons_zero, List.set_cons_succ]
                      refine take_at 9 (some 158) (v := ?_) rfl rfl (by kernel_rfl) (by kernel_rfl) (by kernel_rfl) (fun _ _ _ h => h) ⟨by rfl, ?_⟩ hS ?_
                      rotate_left
                      · intro wq hSw; obtain ⟨y0, y1⟩ := hSw; go_simp; try rfl
                      simp only [Act.put, List.setIfInBounds_toArray, List.set_cons_zero, List.set_cons_succ]
                      refine wpAnyH_done (by kernel_rfl) ?_ _
                      go_wp2_with fail
                      go_roundw
                      case rel => exact ⟨q + 1, by rw [HK.out]; congr 1, by omega, BQ.out⟩
                      case measure => have := HK.out; simp [intOf]; omega
                    · obtain rfl : q = 4 := by omega
                      have NXT := hide (show Oft w1 d nb (updP pg jj (pg jj)) (i + 1) wr S15 g11 from ⟨L15.out.below HBq.out, R6.out, by have := R4.out; have := HC8.out; omega, N15.out.below HBq.out, HNB1.out⟩)
                      clear HBq L15 N15
                      go_wp2_with fail
                      go_roundw
                      case rel => ((repeat apply Exists.intro); exact ⟨⟨i + 1, S15, g11, _, by go_num, by omega, by omega, NXT.out⟩, rfl⟩)
                      case measure => simp [intOf]; omega
                · have hsb : (SX.toList == SP.toList) = false := by simpa using hs
                  have hsn : (SX.toList != SP.toList) = true := by simpa using hs
                  have hsd : decide (SX.toList = SP.toList) = false := by simpa using hs
                  refine take_at 7 (some 108) (v := ?_) rfl rfl (by kernel_rfl) (by kernel_rfl) (by kernel_rfl) (fun _ _ _ h => h) ⟨by rfl, ?_⟩ hS ?_
                  rotate_left
                  · intro wq hSw; obtain ⟨y0, y1, y2⟩ := hSw; go_simp; try rfl
                  simp only [Act.put, List.setIfInBounds_toArray, List.set_cons_zero, List.set_cons_succ]
                  refine take_at 8 (some 109) (v := ?_) rfl rfl (by kernel_rfl) (by kernel_rfl) (by kernel_rfl) (fun _ _ _ h => h) ⟨by rfl, ?_⟩ hS ?_
                  rotate_left
                  · intro wq hSw; obtain ⟨y0, y1, y2⟩ := hSw; go_simp; try rfl
                  simp only [Act.put, List.setIfInBounds_toArray, List.set_cons_zero, List.set_cons_succ]
                  refine take_at 9 (some 110) (v := ?_) rfl rfl (by kernel_rfl) (by kernel_rfl) (by kernel_rfl) (fun _ _ _ h => h) ⟨by rfl, ?_⟩ hS ?_
                  rotate_left
                  · intro wq hSw; obtain ⟨y0, y1, y2⟩ := hSw; go_simp; try rfl
                  simp only [Act.put, List.setIfInBounds_toArray, List.set_cons_zero, List.set_cons_succ]
                  refine take_at 10 (some 111) (v := ?_) rfl rfl (by kernel_rfl) (by kernel_rfl) (by kernel_rfl) (fun _ _ _ h => h) ⟨by rfl, ?_⟩ hS ?_
                  rotate_left
                  · intro wq hSw; obtain ⟨y0, y1, y2⟩ := hSw; go_simp; try rfl
                  simp only [Act.put, List.setIfInBounds_toArray, List.set_cons_zero, List.set_cons_succ]
                  refine take_at 11 (some 112) (v := ?_) rfl rfl (by kernel_rfl) (by kernel_rfl) (by kernel_rfl) (fun _ _ _ h => h) ⟨by rfl, ?_⟩ hS ?_
                  rotate_left
                  · intro wq hSw; obtain ⟨y0, y1, y2⟩ := hSw; go_simp; try rfl
                  simp only [Act.put, List.setIfInBounds_toArray, List.set_cons_zero, List.set_cons_succ]
                  refine take_at 12 (some 113) (v := ?_) rfl rfl (by kernel_rfl) (by kernel_rfl) (by kernel_rfl) (fun _ _ _ h => h) ⟨by rfl, ?_⟩ hS ?_
                  rotate_left
                  · intro wq hSw; obtain ⟨y0, y1, y2⟩ := hSw; go_simp; try rfl
                  simp only [Act.put, List.setIfInBounds_toArray, List.set_cons_zero, List.set_cons_succ]
                  refine take_at 13 (some 114) (v := ?_) rfl rfl (by kernel_rfl) (by kernel_rfl) (by kernel_rfl) (fun _ _ _ h => h) ⟨by rfl, ?_⟩ hS ?_
                  rotate_left
                  · intro wq hSw; obtain ⟨y0, y1, y2⟩ := hSw; go_simp; try rfl
                  simp only [Act.put, List.setIfInBounds_toArray, List.set_cons_zero, List.set_cons_succ]
                  refine take_at 14 (some 115) (v := ?_) rfl rfl (by kernel_rfl) (by kernel_rfl) (by kernel_rfl) (fun _ _ _ h => h) ⟨by rfl, ?_⟩ hS ?_
                  rotate_left
                  · intro wq hSw; obtain ⟨y0, y1, y2⟩ := hSw; go_simp; try rfl
                  simp only [Act.put, List.setIfInBounds_toArray, List.set_cons_zero, List.set_cons_succ]
                  refine take_at 15 (some 116) (v := ?_) rfl rfl (by kernel_rfl) (by kernel_rfl) (by kernel_rfl) (fun _ _ _ h => h) ⟨by rfl, ?_⟩ hS ?_
                  rotate_left
                  · intro wq hSw; obtain ⟨y0, y1, y2⟩ := hSw; go_simp; try rfl
                  simp only [Act.put, List.setIfInBounds_toArray, List.set_cons_zero, List.set_cons_succ]
                  refine take_at 16 (some 117) (v := ?_) rfl rfl (by kernel_rfl) (by kernel_rfl) (by kernel_rfl) (fun _ _ _ h => h) ⟨by rfl, ?_⟩ hS ?_
                  rotate_left
                  · intro wq hSw; obtain ⟨y0, y1, y2⟩ := hSw; go_simp; try rfl
                  simp only [Act.put, List.setIfInBounds_toArray, List.set_cons_zero, List.set_cons_succ]
                  refine take_at 17 (some 118) (v := ?_) rfl rfl (by kernel_rfl) (by kernel_rfl) (by kernel_rfl) (fun _ _ _ h => h) ⟨by rfl, ?_⟩ hS ?_
                  rotate_left
                  · intro wq hSw; obtain ⟨y0, y1, y2⟩ := hSw; go_simp; try rfl
                  simp only [Act.put, List.setIfInBounds_toArray, List.set_cons_zero, List.set_cons_succ]
                  refine take_at 18 (some 119) (v := ?_) rfl rfl (by kernel_rfl) (by kernel_rfl) (by kernel_rfl) (fun _ _ _ h => h) ⟨by rfl, ?_⟩ hS ?_
                  rotate_left
                  · intro wq hSw; obtain ⟨y0, y1, y2⟩ := hSw; go_simp; rw [if_pos (by omega)]; try rfl
                  simp only [Act.put, List.setIfInBounds_toArray, List.set_cons_zero, List.set_cons_succ]
                  refine take_at 19 (some 120) (v := ?_) rfl rfl (by kernel_rfl) (by kernel_rfl) (by kernel_rfl) (fun _ _ _ h => h) ⟨by rfl, ?_⟩ hS ?_
                  rotate_left
                  · intro wq hSw; obtain ⟨y0, y1, y2⟩ := hSw; go_simp; try rfl
                  simp only [Act.put, List.setIfInBounds_toArray, List.set_cons_zero, List.set_cons_succ]
                  refine take_at 20 (some 121) (v := ?_) rfl rfl (by kernel_rfl) (by kernel_rfl) (by kernel_rfl) (fun _ _ _ h => h) ⟨by rfl, ?_⟩ hS ?_
                  rotate_left
                  · intro wq hSw; obtain ⟨y0, y1, y2⟩ := hSw; go_simp; try rfl
                  simp only [Act.put, List.setIfInBounds_toArray, List.set_cons_zero, List.set_cons_succ]
                  refine take_at 21 (some 122) (v := ?_) rfl rfl (by kernel_rfl) (by kernel_rfl) (by kernel_rfl) (fun _ _ _ h => h) ⟨by rfl, ?_⟩ hS ?_
                  rotate_left
                  · intro wq hSw; obtain ⟨y0, y1, y2⟩ := hSw; go_simp; try rfl
                  simp only [Act.put, List.setIfInBounds_toArray, List.set_cons_zero, List.set_cons_succ]
                  refine take_at 22 (some 123) (v := ?_) rfl rfl (by kernel_rfl) (by kernel_rfl) (by kernel_rfl) (fun _ _ _ h => h) ⟨by rfl, ?_⟩ hS ?_
                  rotate_left
                  · intro wq hSw; obtain ⟨y0, y1, y2⟩ := hSw; go_simp; try rfl
                  simp only [Act.put, List.setIfInBounds_toArray, List.set_cons_zero, List.set_cons_succ]
                  refine take_at 23 (some 124) (v := ?_) rfl rfl (by kernel_rfl) (by kernel_rfl) (by kernel_rfl) (fun _ _ _ h => h) ⟨by rfl, ?_⟩ hS ?_
                  rotate_left
                  · intro wq hSw; obtain ⟨y0, y1, y2⟩ := hSw; go_simp; try rfl
                  simp only [Act.put, List.setIfInBounds_toArray, List.set_cons_zero, List.set_cons_succ]
                  refine wpAnyH_done (by kernel_rfl) ?_ _
                  have QQ := R6.out.quiet
                  have KG := finish_twin LST.out.dev 2 (by rw [R6.out.run.pend]; decide) (by have := R4.out; have := HC8.out; omega)
                  rw [QQ.1, QQ.2.1, QQ.2.2] at KG
                  clear hS QQ cB
                  go_wp2_with fail
                  refine KG.mono ?_
                  rintro e w15 ⟨S15, v15, rfl, t15, p15, s15⟩
                  rcases t15 with ⟨_, rfl⟩ | ⟨q, _⟩
                  rotate_left
                  · exact absurd rfl q
                  have L15 := hide (LST.out.step p15 s15)
                  have N15 := hide (NST.out.step s15)
                  clear KG p15 s15 LST NST cX cN fN
                  go_wp2_with fail
                  go_loopw [18] (fun iv wq => ∃ q : Nat, iv = .int .i64 ((5 + 2 * q : Nat) : Int) ∧ q ≤ 4 ∧ Below w15.heap.size w15 wq) (fun iv _ => (20 - (intOf iv).toNat))
                  case atStart => exact ⟨0, rfl, by decide, Below.refl _ _⟩
                  case round =>
                    obtain ⟨q, rfl, hq4, hBq⟩ := hrel
                    have HBq := hide hBq
                    clear hBq
                    by_cases hq : q < 4
                    · obtain ⟨K, hK⟩ : ∃ K, K = 5 + 2 * q := ⟨_, rfl⟩
                      have RQ := R6.out.read q hq
                      have LQ := hide (L15.out.below HBq.out)
                      have NQ := hide (N15.out.below HBq.out)
                      have KR := read_twin LQ.out.dev ((5 + 2 * q : Nat) : Int) (by rw [R6.out.run.pend]; decide)
                      rw [RQ.1, RQ.2] at KR
                      rw [← hK] at KR ⊢
                      have hdd : decide ((K : Int) ≤ 11) = true := by simp; omega
                      have hK2 : K ≤ 11 := by omega
                      have HK := hide hK
                      clear hK RQ
                      go_wp2_with fail
                      refine KR.mono ?_
                      rintro e w16 ⟨v16, x16, rfl, t16, o16, b16⟩
                      rcases t16 with ⟨_, rfl⟩ | ⟨q, _⟩
                      rotate_left
                      · exact absurd rfl q
                      rcases o16 with ⟨q, _⟩ | ⟨_, hYL, gy, rfl, hgy, o16⟩
                      · exact absurd rfl q
                      have DR : Below w16.heap.size w16 w16.drew := (Below.refl _ _).drew
                      have AY := (Apart.new LQ.out.dev o16 hgy).below DR
                      have cY := AY.conv 1024
                      rw [hYL] at cY
                      have cM := ((NQ.out.below b16).below DR).cell q hq
                      rw [← HK.out] at cM
                      have BQ := hide (bnext (bnext HBq.out b16 (Nat.le_refl _)) DR (Nat.le_refl _))
                      generalize strOf (updP pg jj (pg jj) q) = SY at *
                      clear KR o16 hgy b16 LQ NQ AY hYL HBq
                      go_upto_region 34 with fail
                      refine wp_region_held_drew (S := fun wq => (convert 22 9 (.slice (some ⟨gy, 0, none⟩) 1024 1024)).run Try.prog wq = .ok (.string SY) wq ∧ wq.cell? ⟨nb, K, none⟩ = some (.string SY)) (by kernel_rfl) ⟨cY, cM⟩ (fun hS => ?_)
                      clear DR cY cM
                      generalize w16.drew = w17 at *
                      refine take_at 0 (some 149) (v := ?_) rfl rfl (by kernel_rfl) (by kernel_rfl) (by kernel_rfl) (fun _ _ _ h => h) ⟨by rfl, ?_⟩ hS ?_
                      rotate_left
                      · intro wq hSw; obtain ⟨y0, y1⟩ := hSw; go_simp; try rfl
                      simp only [Act.put, List.setIfInBounds_toArray, List.set_cons_zero, List.set_cons_succ]
                      refine take_at 1 (some 150) (v := ?_) rfl rfl (by kernel_rfl) (by kernel_rfl) (by kernel_rfl) (fun _ _ _ h => h) ⟨by rfl, ?_⟩ hS ?_
                      rotate_left
                      · intro wq hSw; obtain ⟨y0, y1⟩ := hSw; go_simp; try rfl
                      simp only [Act.put, List.setIfInBounds_toArray, List.set_cons_zero, List.set_cons_succ]
                      refine take_at 2 (some 151) (v := ?_) rfl rfl (by kernel_rfl) (by kernel_rfl) (by kernel_rfl) (fun _ _ _ h => h) ⟨by rfl, ?_⟩ hS ?_
                      rotate_left
                      · intro wq hSw; obtain ⟨y0, y1⟩ := hSw; go_simp; try rfl
                      simp only [Act.put, List.setIfInBounds_toArray, List.set_cons_zero, List.set_cons_succ]
                      refine take_at 3 (some 152) (v := ?_) rfl rfl (by kernel_rfl) (by kernel_rfl) (by kernel_rfl) (fun _ _ _ h => h) ⟨by rfl, ?_⟩ hS ?_
                      rotate_left
                      · intro wq hSw; obtain ⟨y0, y1⟩ := hSw; go_simp; try rfl
                      simp only [Act.put, List.setIfInBounds_toArray, List.set_cons_zero, List.set_cons_succ]
                      refine take_at 4 (some 153) (v := ?_) rfl rfl (by kernel_rfl) (by kernel_rfl) (by kernel_rfl) (fun _ _ _ h => h) ⟨by rfl, ?_⟩ hS ?_
                      rotate_left
                      · intro wq hSw; obtain ⟨y0, y1⟩ := hSw; go_simp; try rfl
                      simp only [Act.put, List.setIfInBounds_toArray, List.set_cons_zero, List.set_cons_succ]
                      refine take_at 5 (some 154) (v := ?_) rfl rfl (by kernel_rfl) (by kernel_rfl) (by kernel_rfl) (fun _ _ _ h => h) ⟨by rfl, ?_⟩ hS ?_
                      rotate_left
                      · intro wq hSw; obtain ⟨y0, y1⟩ := hSw; go_simp; try rfl
                      simp only [Act.put, List.setIfInBounds_toArray, List.set_cons_zero, List.set_cons_succ]
                      refine take_at 6 (some 155) (v := ?_) rfl rfl (by kernel_rfl) (by kernel_rfl) (by kernel_rfl) (fun _ _ _ h => h) ⟨by rfl, ?_⟩ hS ?_
                      rotate_left
                      · intro wq hSw; obtain ⟨y0, y1⟩ := hSw; go_simp; rw [if_pos (by omega)]; try rfl
                      simp only [Act.put, List.setIfInBounds_toArray, List.set_cons_zero, List.set_cons_succ]
                      refine take_at 7 (some 156) (v := ?_) rfl rfl (by kernel_rfl) (by kernel_rfl) (by kernel_rfl) (fun _ _ _ h => h) ⟨by rfl, ?_⟩ hS ?_
                      rotate_left
                      · intro wq hSw; obtain ⟨y0, y1⟩ := hSw; go_simp; try rfl
                      simp only [Act.put, List.setIfInBounds_toArray, List.set_cons_zero, List.set_cons_succ]
                      refine take_at 8 (some 157) (v := ?_) rfl rfl (by kernel_rfl) (by kernel_rfl) (by kernel_rfl) (fun _ _ _ h => h) ⟨by rfl, ?_⟩ hS ?_
                      rotate_left
                      · intro wq hSw; obtain ⟨y0, y1⟩ := hSw; go_simp; try rfl
                      simp only [Act.put, List.setIfInBounds_toArray, List.set_cons_zero, List.set_cons_succ]
                      refine take_at 9 (some 158) (v := ?_) rfl rfl (by kernel_rfl) (by kernel_rfl) (by kernel_rfl) (fun _ _ _ h => h) ⟨by rfl, ?_⟩ hS ?_
                      rotate_left
                      · intro wq hSw; obtain ⟨y0, y1⟩ := hSw; go_simp; try rfl
                      simp only [Act.put, List.setIfInBounds_toArray, List.set_cons_zero, List.set_cons_succ]
                      refine wpAnyH_done (by kernel_rfl) ?_ _
                      go_wp2_with fail
                      go_roundw
                      case rel => exact ⟨q + 1, by rw [HK.out]; congr 1, by omega, BQ.out⟩
                      case measure => have := HK.out; simp [intOf]; omega
                    · obtain rfl : q = 4 := by omega
                      have NXT := hide (show Oft w1 d nb (updP pg jj (pg jj)) (i + 1) wr S15 g11 from ⟨L15.out.below HBq.out, R6.out, by have := R4.out; have := HC8.out; omega, N15.out.below HBq.out, HNB1.out⟩)
                      clear HBq L15 N15
                      go_wp2_with fail
                      go_roundw
                      case rel => ((repeat apply Exists.intro); exact ⟨⟨i + 1, S15, g11, _, by go_num, by omega, by omega, NXT.out⟩, rfl⟩)
                      case measure => simp [intOf]; omega
              · have hx2 := hx.symm
                clear hx
                subst hx2
                go_wp2_with fail
                refine KW.mono ?_
                rintro e w9 ⟨S9, v9, rfl, t9, p9, s9⟩
                rcases t9 with ⟨q, _⟩ | ⟨_, t9⟩
                · exact absurd q (by decide)
                obtain ⟨eb9, rfl, _, _⟩ := t9
                have L9 := hide (L8.out.step p9 s9)
                have N9 := hide (N8.out.step s9)
                have AB9 := hide (AB8.out.step s9)
                have KU := up_any L9.out.dev
                clear KW p9 s9 L8 N8 AB8
                go_wp2_with fail
                refine KU.mono ?_
                rintro e w10 ⟨rfl, p10, k10⟩
                have s10 : Step w9 S9 w10 S9 := Step.of_keep k10
                have L10 := hide (L9.out.step p10 s10)
                have N10 := hide (N9.out.step s10)
                have AB10 := hide (AB9.out.step s10)
                have KFN := finish_twin L10.out.dev 2 (by rw [R2.out]; decide) (by show D.calls ≤ _; have := R3.out; have := HC8.out; omega)
                rw [R1.out] at KFN
                generalize D.up.fnB 2 = fb at *
                generalize D.up.fnD 2 = g11 at *
                clear KU p10 k10 s10 L9 N9 AB9 R1 R2 R3
                go_wp2_with fail
                refine KFN.mono ?_
                rintro e w11 ⟨S11, v11, rfl, t11, p11, s11⟩
                rcases t11 with ⟨_, rfl⟩ | ⟨q, _⟩
                rotate_left
                · exact absurd rfl q
                have L11 := hide (L10.out.step p11 s11)
                have N11 := hide (N10.out.step s11)
                have AB11 := hide (AB10.out.step s11)
                have RR := R5.out.read jj hjj
                rw [← HH.out] at RR
                have hup : updP pg jj PB jj = PB := by unfold updP; rw [if_pos rfl]
                rw [hup] at RR
                have KR := read_twin L11.out.dev (H : Int) (by rw [R5.out.run.pend]; decide)
                rw [RR.1, RR.2] at KR
                clear KFN p11 s11 L10 N10 AB10 RR hup
                go_wp2_with fail
                refine KR.mono ?_
                rintro e w12 ⟨v12, x12, rfl, t12, o12, b12⟩
                rcases t12 with ⟨_, rfl⟩ | ⟨q, _⟩
                rotate_left
                · exact absurd rfl q
                rcases o12 with ⟨q, _⟩ | ⟨_, hXL, gx, rfl, hgx, o12⟩
                · exact absurd rfl q
                have DR : Below w12.heap.size w12 w12.drew := (Below.refl _ _).drew
                have AX12 := hide ((Apart.new L11.out.dev o12 hgx).below DR)
                have L12 := hide ((L11.out.below b12).below DR)
                have N12 := hide ((N11.out.below b12).below DR)
                have AB12 := hide ((AB11.out.below b12).below DR)
                have cX := AX12.out.conv 1024
                rw [hXL] at cX
                have cB := AB12.out.conv 1024
                rw [HPL.out] at cB
                have cN := N12.out.cell jj hjj
                rw [← HH.out] at cN
                obtain ⟨_, fN⟩ := N12.out.any H (by omega)
                have hST := N12.out.set jj hjj PB 4 (updP pg jj PB) (fun i hi => by
                  unfold updP
                  by_cases e : i = jj
                  · exact .inl ⟨e, by rw [if_pos e]⟩
                  · exact .inr ⟨e, hi, by rw [if_neg e]⟩)
                rw [← HH.out] at hST
                have hkk : Keep (fun b => b = nb) w12.drew (w12.drew.setCell ⟨nb, H, none⟩ (.string (strOf PB))) := (Keep.refl (fun b => b = nb) w12.drew).setCell (fun _ => rfl) _
                have LST := hide (show Live w1.heap.size w1 (w12.drew.setCell ⟨nb, H, none⟩ (.string (strOf PB))) S11 d g11 from ⟨L12.out.dev.keep hkk (fun b e => by rw [e]; exact N12.out.out), L12.out.far, L12.out.bel.trans (hkk.below L12.out.size (fun k hk q => by have := HNB1.out; omega)), L12.out.le⟩)
                have NST := hide hST
                obtain ⟨SX, hSX⟩ : ∃ q, q = strOf PB := ⟨_, rfl⟩
                obtain ⟨SP, hSP⟩ : ∃ q, q = strOf PB := ⟨_, rfl⟩
                obtain ⟨SO, hSO⟩ : ∃ q, q = strOf (pg jj) := ⟨_, rfl⟩
                rw [← hSX] at cX LST NST
                rw [← hSP] at cB
                rw [← hSO] at cN
                obtain rfl : SX = SP := by rw [hSX, hSP]
                have R6 := hide (show Four (updP pg jj PB) g11 from R5.out)
                clear KR hXL hgx o12 b12 L11 N11 AB11 L12 N12 AB12 AX12 hST hkk hSX hSP hSO R5
                go_upto_region 24 with fail
                refine wp_region_held_drew (S := fun wq => (convert 22 9 (.slice (some ⟨gx, 0, none⟩) 1024 1024)).run Try.prog wq = .ok (.string SX) wq ∧ (convert 22 9 (.slice (some ⟨gb, 0, none⟩) 1024 1024)).run Try.prog wq = .ok (.string SX) wq ∧ wq.cell? ⟨nb, H, none⟩ = some (.string SO)) (by kernel_rfl) ⟨cX, cB, cN⟩ (fun hS => ?_)
                clear DR
                generalize w12.drew = w13 at *
                refine take_at 0 (some 101) (v := ?_) rfl rfl (by kernel_rfl) (by kernel_rfl) (by kernel_rfl) (fun _ _ _ h => h) ⟨by rfl, ?_⟩ hS ?_
                rotate_left
                · intro wq hSw; obtain ⟨y0, y1, y2⟩ := hSw; go_simp; try rfl
                simp only [Act.put, List.setIfInBounds_toArray, List.set_cons_zero, List.set_cons_succ]
                refine take_at 1 (some 102) (v := ?_) rfl rfl (by kernel_rfl) (by kernel_rfl) (by kernel_rfl) (fun _ _ _ h => h) ⟨by rfl, ?_⟩ hS ?_
                rotate_left
                · intro wq hSw; obtain ⟨y0, y1, y2⟩ := hSw; go_simp; try rfl
                simp only [Act.put, List.setIfInBounds_toArray, List.set_cons_zero, List.set_cons_succ]
                refine take_at 2 (some 103) (v := ?_) rfl rfl (by kernel_rfl) (by kernel_rfl) (by kernel_rfl) (fun _ _ _ h => h) ⟨by rfl, ?_⟩ hS ?_
                rotate_left
                · intro wq hSw; obtain ⟨y0, y1, y2⟩ := hSw; go_simp; try rfl
                simp only [Act.put, List.setIfInBounds_toArray, List.set_cons_zero, List.set_cons_succ]
                refine take_at 3 (some 104) (v := ?_) rfl rfl (by kernel_rfl) (by kernel_rfl) (by kernel_rfl) (fun _ _ _ h => h) ⟨by rfl, ?_⟩ hS ?_
                rotate_left
                · intro wq hSw; obtain ⟨y0, y1, y2⟩ := hSw; go_simp; try rfl
                simp only [Act.put, List.setIfInBounds_toArray, List.set_cons_zero, List.set_cons_succ]
                refine take_at 4 (some 105) (v := ?_) rfl rfl (by kernel_rfl) (by kernel_rfl) (by kernel_rfl) (fun _ _ _ h => h) ⟨by rfl, ?_⟩ hS ?_
                rotate_left
                · intro wq hSw; obtain ⟨y0, y1, y2⟩ := hSw; go_simp; try rfl
                simp only [Act.put, List.setIfInBounds_toArray, List.set_cons_zero, List.set_cons_succ]
                refine take_at 5 (some 106) (v := ?_) rfl rfl (by kernel_rfl) (by kernel_rfl) (by kernel_rfl) (fun _ _ _ h => h) ⟨by rfl, ?_⟩ hS ?_
                rotate_left
                · intro wq hSw; obtain ⟨y0, y1, y2⟩ := hSw; go_simp; try rfl
                simp only [Act.put, List.setIfInBounds_toArray, List.set_cons_zero, List.set_cons_succ]
                refine take_at 6 (some 107) (v := ?_) rfl rfl (by kernel_rfl) (by kernel_rfl) (by kernel_rfl) (fun _ _ _ h => h) ⟨by rfl, ?_⟩ hS ?_
                rotate_left
                · intro wq hSw; obtain ⟨y0, y1, y2⟩ := hSw; go_simp; try rfl
                simp only [Act.put, List.setIfInBounds_toArray, List.set_cons_zero, List.set_cons_succ]
                refine take_at 7 (some 108) (v := ?_) rfl rfl (by kernel_rfl) (by kernel_rfl) (by kernel_rfl) (fun _ _ _ h => h) ⟨by rfl, ?_⟩ hS ?_
                rotate_left
                · intro wq hSw; obtain ⟨y0, y1, y2⟩ := hSw; go_simp; try rfl
                simp only [Act.put, List.setIfInBounds_toArray, List.set_cons_zero, List.set_cons_succ]
                refine take_at 8 (some 109) (v := ?_) rfl rfl (by kernel_rfl) (by kernel_rfl) (by kernel_rfl) (fun _ _ _ h => h) ⟨by rfl, ?_⟩ hS ?_
                rotate_left
                · intro wq hSw; obtain ⟨y0, y1, y2⟩ := hSw; go_simp; try rfl
                simp only [Act.put, List.setIfInBounds_toArray, List.set_cons_zero, List.set_cons_succ]
                refine pass_at 9 (some 110) rfl rfl (by kernel_rfl) (by kernel_rfl) (by kernel_rfl) (fun _ _ _ h => h) (by rfl) hS ?_
                simp only [Act.put, List.setIfInBounds_toArray, List.set_cons_zero, List.set_cons_succ]
                refine pass_at 10 (some 111) rfl rfl (by kernel_rfl) (by kernel_rfl) (by kernel_rfl) (fun _ _ _ h => h) (by rfl) hS ?_
                simp only [Act.put, List.setIfInBounds_toArray, List.set_cons_zero, List.set_cons_succ]
                refine pass_at 11 (some 112) rfl rfl (by kernel_rfl) (by kernel_rfl) (by kernel_rfl) (fun _ _ _ h => h) (by rfl) hS ?_
                simp only [Act.put, List.setIfInBounds_toArray, List.set_cons_zero, List.set_cons_succ]
                refine pass_at 12 (some 113) rfl rfl (by kernel_rfl) (by kernel_rfl) (by kernel_rfl) (fun _ _ _ h => h) (by rfl) hS ?_
                simp only [Act.put, List.setIfInBounds_toArray, List.set_cons_zero, List.set_cons_succ]
                refine pass_at 13 (some 114) rfl rfl (by kernel_rfl) (by kernel_rfl) (by kernel_rfl) (fun _ _ _ h => h) (by rfl) hS ?_
                simp only [Act.put, List.setIfInBounds_toArray, List.set_cons_zero, List.set_cons_succ]
                refine pass_at 14 (some 115) rfl rfl (by kernel_rfl) (by kernel_rfl) (by kernel_rfl) (fun _ _ _ h => h) (by rfl) hS ?_
                simp only [Act.put, List.setIfInBounds_toArray, List.set_cons_zero, List.set_cons_succ]
                refine pass_at 15 (some 116) rfl rfl (by kernel_rfl) (by kernel_rfl) (by kernel_rfl) (fun _ _ _ h => h) (by rfl) hS ?_
                simp only [Act.put, List.setIfInBounds_toArray, List.set_cons_zero, List.set_cons_succ]
                refine pass_at 16 (some 117) rfl rfl (by kernel_rfl) (by kernel_rfl) (by kernel_rfl) (fun _ _ _ h => h) (by rfl) hS ?_
                simp only [Act.put, List.setIfInBounds_toArray, List.set_cons_zero, List.set_cons_succ]
                refine pass_at 17 (some 118) rfl rfl (by kernel_rfl) (by kernel_rfl) (by kernel_rfl) (fun _ _ _ h => h) (by rfl) hS ?_
                simp only [Act.put, List.setIfInBounds_toArray, List.set_cons_zero, List.set_cons_succ]
                refine pass_at 18 (some 119) rfl rfl (by kernel_rfl) (by kernel_rfl) (by kernel_rfl) (fun _ _ _ h => h) (by rfl) hS ?_
                simp only [Act.put, List.setIfInBounds_toArray, List.set_cons_zero, List.set_cons_succ]
                refine pass_at 19 (some 120) rfl rfl (by kernel_rfl) (by kernel_rfl) (by kernel_rfl) (fun _ _ _ h => h) (by rfl) hS ?_
                simp only [Act.put, List.setIfInBounds_toArray, List.set_cons_zero, List.set_cons_succ]
                refine pass_at 20 (some 121) rfl rfl (by kernel_rfl) (by kernel_rfl) (by kernel_rfl) (fun _ _ _ h => h) (by rfl) hS ?_
                simp only [Act.put, List.setIfInBounds_toArray, List.set_cons_zero, List.set_cons_succ]
                refine pass_at 21 (some 122) rfl rfl (by kernel_rfl) (by kernel_rfl) (by kernel_rfl) (fun _ _ _ h => h) (by rfl) hS ?_
                simp only [Act.put, List.setIfInBounds_toArray, List.set_cons_zero, List.set_cons_succ]
                refine take_at 22 (some 123) (v := ?_) rfl rfl (by kernel_rfl) (by kernel_rfl) (by kernel_rfl) (fun _ _ _ h => h) ⟨by rfl, ?_⟩ hS ?_
                rotate_left
                · intro wq hSw; obtain ⟨y0, y1, y2⟩ := hSw; go_simp; try rfl
                simp only [Act.put, List.setIfInBounds_toArray, List.set_cons_zero, List.set_cons_succ]
                refine take_at 23 (some 124) (v := ?_) rfl rfl (by kernel_rfl) (by kernel_rfl) (by kernel_rfl) (fun _ _ _ h => h) ⟨by rfl, ?_⟩ hS ?_
                rotate_left
                · intro wq hSw; obtain ⟨y0, y1, y2⟩ := hSw; go_simp; try rfl
                simp only [Act.put, List.setIfInBounds_toArray, List.set_cons_zero, List.set_cons_succ]
                refine wpAnyH_done (by kernel_rfl) ?_ _
                have QQ := R6.out.quiet
                have KG := finish_twin LST.out.dev 2 (by rw [R6.out.run.pend]; decide) (by have := R4.out; have := HC8.out; omega)
                rw [QQ.1, QQ.2.1, QQ.2.2] at KG
                clear hS QQ cB
                go_wp2_with fail
                refine KG.mono ?_
                rintro e w15 ⟨S15, v15, rfl, t15, p15, s15⟩
                rcases t15 with ⟨_, rfl⟩ | ⟨q, _⟩
                rotate_left
                · exact absurd rfl q
                have L15 := hide (LST.out.step p15 s15)
                have N15 := hide (NST.out.step s15)
                clear KG p15 s15 LST NST cX cN fN
                go_wp2_with fail
                go_loopw [18] (fun iv wq => ∃ q : Nat, iv = .int .i64 ((5 + 2 * q : Nat) : Int) ∧ q ≤ 4 ∧ Below w15.heap.size w15 wq) (fun iv _ => (20 - (intOf iv).toNat))
                case atStart => exact ⟨0, rfl, by decide, Below.refl _ _⟩
                case round =>
                  obtain ⟨q, rfl, hq4, hBq⟩ := hrel
                  have HBq := hide hBq
                  clear hBq
                  by_cases hq : q < 4
                  · obtain ⟨K, hK⟩ : ∃ K, K = 5 + 2 * q := ⟨_, rfl⟩
                    have RQ := R6.out.read q hq
                    have LQ := hide (L15.out.below HBq.out)
                    have NQ := hide (N15.out.below HBq.out)
                    have KR := read_twin LQ.out.dev ((5 + 2 * q : Nat) : Int) (by rw [R6.out.run.pend]; decide)
                    rw [RQ.1, RQ.2] at KR
                    rw [← hK] at KR ⊢
                    have hdd : decide ((K : Int) ≤ 11) = true := by simp; omega
                    have hK2 : K ≤ 11 := by omega
                    have HK := hide hK
                    clear hK RQ
                    go_wp2_with fail
                    refine KR.mono ?_
                    rintro e w16 ⟨v16, x16, rfl, t16, o16, b16⟩
                    rcases t16 with ⟨_, rfl⟩ | ⟨q, _⟩
                    rotate_left
                    · exact absurd rfl q
                    rcases o16 with ⟨q, _⟩ | ⟨_, hYL, gy, rfl, hgy, o16⟩
                    · exact absurd rfl q
                    have DR : Below w16.heap.size w16 w16.drew := (Below.refl _ _).drew
                    have AY := (Apart.new LQ.out.dev o16 hgy).below DR
                    have cY := AY.conv 1024
                    rw [hYL] at cY
                    have cM := ((NQ.out.below b16).below DR).cell q hq
                    rw [← HK.out] at cM
                    have BQ := hide (bnext (bnext HBq.out b16 (Nat.le_refl _)) DR (Nat.le_refl _))
                    generalize strOf (updP pg jj PB q) = SY at *
                    clear KR o16 hgy b16 LQ NQ AY hYL HBq
                    go_upto_region 34 with fail
                    refine wp_region_held_drew (S := fun wq => (convert 22 9 (.slice (some ⟨gy, 0, none⟩) 1024 1024)).run Try.prog wq = .ok (.string SY) wq ∧ wq.cell? ⟨nb, K, none⟩ = some (.string SY)) (by kernel_rfl) ⟨cY, cM⟩ (fun hS => ?_)
                    clear DR cY cM
                    generalize w16.drew = w17 at *
                    refine take_at 0 (some 149) (v := ?_) rfl rfl (by kernel_rfl) (by kernel_rfl) (by kernel_rfl) (fun _ _ _ h => h) ⟨by rfl, ?_⟩ hS ?_
                    rotate_left
                    · intro wq hSw; obtain ⟨y0, y1⟩ := hSw; go_simp; try rfl
                    simp only [Act.put, List.setIfInBounds_toArray, List.set_cons_zero, List.set_cons_succ]
                    refine take_at 1 (some 150) (v := ?_) rfl rfl (by kernel_rfl) (by kernel_rfl) (by kernel_rfl) (fun _ _ _ h => h) ⟨by rfl, ?_⟩ hS ?_
                    rotate_left
                    · intro wq hSw; obtain ⟨y0, y1⟩ := hSw; go_simp; try rfl
                    simp only [Act.put, List.setIfInBounds_toArray, List.set_cons_zero, List.set_cons_succ]
                    refine take_at 2 (some 151) (v := ?_) rfl rfl (by kernel_rfl) (by kernel_rfl) (by kernel_rfl) (fun _ _ _ h => h) ⟨by rfl, ?_⟩ hS ?_
                    rotate_left
                    · intro wq hSw; obtain ⟨y0, y1⟩ := hSw; go_simp; try rfl
                    simp only [Act.put, List.setIfInBounds_toArray, List.set_cons_zero, List.set_cons_succ]
                    refine take_at 3 (some 152) (v := ?_) rfl rfl (by kernel_rfl) (by kernel_rfl) (by kernel_rfl) (fun _ _ _ h => h) ⟨by rfl, ?_⟩ hS ?_
                    rotate_left
                    · intro wq hSw; obtain ⟨y0, y1⟩ := hSw; go_simp; try rfl
                    simp only [Act.put, List.setIfInBounds_toArray, List.set_cons_zero, List.set_cons_succ]
                    refine take_at 4 (some 153) (v := ?_) rfl rfl (by kernel_rfl) (by kernel_rfl) (by kernel_rfl) (fun _ _ _ h => h) ⟨by rfl, ?_⟩ hS ?_
                    rotate_left
                    · intro wq hSw; obtain ⟨y0, y1⟩ := hSw; go_simp; try rfl
                    simp only [Act.put, List.setIfInBounds_toArray, List.set_cons_zero, List.set_cons_succ]
                    refine take_at 5 (some 154) (v := ?_) rfl rfl (by kernel_rfl) (by kernel_rfl) (by kernel_rfl) (fun _ _ _ h => h) ⟨by rfl, ?_⟩ hS ?_
                    rotate_left
                    · intro wq hSw; obtain ⟨y0, y1⟩ := hSw; go_simp; try rfl
                    simp only [Act.put, List.setIfInBounds_toArray, List.set_cons_zero, List.set_cons_succ]
                    refine take_at 6 (some 155) (v := ?_) rfl rfl (by kernel_rfl) (by kernel_rfl) (by kernel_rfl) (fun _ _ _ h => h) ⟨by rfl, ?_⟩ hS ?_
                    rotate_left
                    · intro wq hSw; obtain ⟨y0, y1⟩ := hSw; go_simp; rw [if_pos (by omega)]; try rfl
                    simp only [Act.put, List.setIfInBounds_toArray, List.set_cons_zero, List.set_cons_succ]
                    refine take_at 7 (some 156) (v := ?_) rfl rfl (by kernel_rfl) (by kernel_rfl) (by kernel_rfl) (fun _ _ _ h => h) ⟨by rfl, ?_⟩ hS ?_
                    rotate_left
                    · intro wq hSw; obtain ⟨y0, y1⟩ := hSw; go_simp; try rfl
                    simp only [Act.put, List.setIfInBounds_toArray, List.set_cons_zero, List.set_cons_succ]
                    refine take_at 8 (some 157) (v := ?_) rfl rfl (by kernel_rfl) (by kernel_rfl) (by kernel_rfl) (fun _ _ _ h => h) ⟨by rfl, ?_⟩ hS ?_
                    rotate_left
                    · intro wq hSw; obtain ⟨y0, y1⟩ := hSw; go_simp; try rfl
                    simp only [Act.put, List.setIfInBounds_toArray, List.set_cons_zero, List.set_cons_succ]
                    refine take_at 9 (some 158) (v := ?_) rfl rfl (by kernel_rfl) (by kernel_rfl) (by kernel_rfl) (fun _ _ _ h => h) ⟨by rfl, ?_⟩ hS ?_
                    rotate_left
                    · intro wq hSw; obtain ⟨y0, y1⟩ := hSw; go_simp; try rfl
                    simp only [Act.put, List.setIfInBounds_toArray, List.set_cons_zero, List.set_cons_succ]
                    refine wpAnyH_done (by kernel_rfl) ?_ _
                    go_wp2_with fail
                    go_roundw
                    case rel => exact ⟨q + 1, by rw [HK.out]; congr 1, by omega, BQ.out⟩
                    case measure => have := HK.out; simp [intOf]; omega
                  · obtain rfl : q = 4 := by omega
                    have NXT := hide (show Oft w1 d nb (updP pg jj PB) (i + 1) wr S15 g11 from ⟨L15.out.below HBq.out, R6.out, by have := R4.out; have := HC8.out; omega, N15.out.below HBq.out, HNB1.out⟩)
                    clear HBq L15 N15
                    go_wp2_with fail
                    go_roundw
                    case rel => ((repeat apply Exists.intro); exact ⟨⟨i + 1, S15, g11, _, by go_num, by omega, by omega, NXT.out⟩, rfl⟩)
                    case measure => simp [intOf]; omega
            · have d3 : decide ((i : Int) < (m1 : Int)) = false := by simp; omega
              have L8 := hide L6.out
              have N8 := hide N6.out
              have AB8 := hide AB6.out
              have FR8 := hide FR0.out
              have HC8 := hide HC0.out
              clear L6 N6 AB6 FR0 HC0
              obtain ⟨g8, hg8⟩ : ∃ q, q = gr := ⟨_, rfl⟩
              rw [← hg8] at L8 FR8 HC8
              clear hg8
              have RD := FR8.out.round jj hjj PB HPL.out HPA.out
              rw [← HH.out] at RD
              obtain ⟨r1, r2, r3, r4, x, r5, r6⟩ := RD
              have KW := write_twin L8.out.dev 2 (H : Int) (some ⟨gb, 0, none⟩) PB 1024 AB8.out.bytes (fun ad e => by cases e; exact AB8.out.out) (by rw [HPL.out]; decide) HPA.out (by rw [FR8.out.run.pend]; decide) (by have := HC8.out; omega)
              rw [HPL.out] at KW
              generalize g8.twE 2 (H : Int) PB = E at *
              generalize g8.twD 2 (H : Int) PB = D at *
              have R1 := hide r1
              have R2 := hide r2
              have R3 := hide r3
              have R4 := hide r4
              have R5 := hide r5
              clear r1 r2 r3 r4 r5 FR8
              rcases r6 with ⟨rfl, r7, hx⟩ | ⟨rfl, r7, hx⟩ | ⟨rfl, hx⟩
              · have hx2 := hx.symm
                clear hx
                subst hx2
                have R7 := hide r7
                clear r7
                go_wp2_with fail
                refine KW.mono ?_
                rintro e w9 ⟨S9, v9, rfl, t9, p9, s9⟩
                rcases t9 with ⟨_, rfl⟩ | ⟨q, _⟩
                rotate_left
                · exact absurd rfl q
                have L9 := hide (L8.out.step p9 s9)
                have N9 := hide (N8.out.step s9)
                have AB9 := hide (AB8.out.step s9)
                have KU := up_any L9.out.dev
                clear KW p9 s9 L8 N8 AB8
                go_wp2_with fail
                refine KU.mono ?_
                rintro e w10 ⟨rfl, p10, k10⟩
                have s10 : Step w9 S9 w10 S9 := Step.of_keep k10
                have L10 := hide (L9.out.step p10 s10)
                have N10 := hide (N9.out.step s10)
                have AB10 := hide (AB9.out.step s10)
                have KFN := finish_twin L10.out.dev 2 (by rw [R2.out]; decide) (by show D.calls ≤ _; have := R3.out; have := HC8.out; omega)
                rw [R1.out, R7.out] at KFN
                generalize D.up.fnD 2 = g11 at *
                clear KU p10 k10 s10 L9 N9 AB9 R1 R2 R3 R7
                go_wp2_with fail
                refine KFN.mono ?_
                rintro e w11 ⟨S11, v11, rfl, t11, p11, s11⟩
                rcases t11 with ⟨_, rfl⟩ | ⟨q, _⟩
                rotate_left
                · exact absurd rfl q
                have L11 := hide (L10.out.step p11 s11)
                have N11 := hide (N10.out.step s11)
                have AB11 := hide (AB10.out.step s11)
                have RR := R5.out.read jj hjj
                rw [← HH.out] at RR
                have hup : updP pg jj PB jj = PB := by unfold updP; rw [if_pos rfl]
                rw [hup] at RR
                have KR := read_twin L11.out.dev (H : Int) (by rw [R5.out.run.pend]; decide)
                rw [RR.1, RR.2] at KR
                clear KFN p11 s11 L10 N10 AB10 RR hup
                go_wp2_with fail
                refine KR.mono ?_
                rintro e w12 ⟨v12, x12, rfl, t12, o12, b12⟩
                rcases t12 with ⟨_, rfl⟩ | ⟨q, _⟩
                rotate_left
                · exact absurd rfl q
                rcases o12 with ⟨q, _⟩ | ⟨_, hXL, gx, rfl, hgx, o12⟩
                · exact absurd rfl q
                have DR : Below w12.heap.size w12 w12.drew := (Below.refl _ _).drew
                have AX12 := hide ((Apart.new L11.out.dev o12 hgx).below DR)
                have L12 := hide ((L11.out.below b12).below DR)
                have N12 := hide ((N11.out.below b12).below DR)
                have AB12 := hide ((AB11.out.below b12).below DR)
                have cX := AX12.out.conv 1024
                rw [hXL] at cX
                have cB := AB12.out.conv 1024
                rw [HPL.out] at cB
                have cN := N12.out.cell jj hjj
                rw [← HH.out] at cN
                obtain ⟨_, fN⟩ := N12.out.any H (by omega)
                have hST := N12.out.set jj hjj PB 4 (updP pg jj PB) (fun i hi => by
                  unfold updP
                  by_cases e : i = jj
                  · exact .inl ⟨e, by rw [if_pos e]⟩
                  · exact .inr ⟨e, hi, by rw [if_neg e]⟩)
                rw [← HH.out] at hST
                have hkk : Keep (fun b => b = nb) w12.drew (w12.drew.setCell ⟨nb, H, none⟩ (.string (strOf PB))) := (Keep.refl (fun b => b = nb) w12.drew).setCell (fun _ => rfl) _
                have LST := hide (show Live w1.heap.size w1 (w12.drew.setCell ⟨nb, H, none⟩ (.string (strOf PB))) S11 d g11 from ⟨L12.out.dev.keep hkk (fun b e => by rw [e]; exact N12.out.out), L12.out.far, L12.out.bel.trans (hkk.below L12.out.size (fun k hk q => by have := HNB1.out; omega)), L12.out.le⟩)
                have NST := hide hST
                obtain ⟨SX, hSX⟩ : ∃ q, q = strOf PB := ⟨_, rfl⟩
                obtain ⟨SP, hSP⟩ : ∃ q, q = strOf PB := ⟨_, rfl⟩
                obtain ⟨SO, hSO⟩ : ∃ q, q = strOf (pg jj) := ⟨_, rfl⟩
                rw [← hSX] at cX LST NST
                rw [← hSP] at cB
                rw [← hSO] at cN
                obtain rfl : SX = SP := by rw [hSX, hSP]
                have R6 := hide (show Four (updP pg jj PB) g11 from R5.out)
                clear KR hXL hgx o12 b12 L11 N11 AB11 L12 N12 AB12 AX12 hST hkk hSX hSP hSO R5
                go_upto_region 24 with fail
                refine wp_region_held_drew (S := fun wq => (convert 22 9 (.slice (some ⟨gx, 0, none⟩) 1024 1024)).run Try.prog wq = .ok (.string SX) wq ∧ (convert 22 9 (.slice (some ⟨gb, 0, none⟩) 1024 1024)).run Try.prog wq = .ok (.string SX) wq ∧ wq.cell? ⟨nb, H, none⟩ = some (.string SO)) (by kernel_rfl) ⟨cX, cB, cN⟩ (fun hS => ?_)
                clear DR
                generalize w12.drew = w13 at *
                refine take_at 0 (some 101) (v := ?_) rfl rfl (by kernel_rfl) (by kernel_rfl) (by kernel_rfl) (fun _ _ _ h => h) ⟨by rfl, ?_⟩ hS ?_
                rotate_left
                · intro wq hSw; obtain ⟨y0, y1, y2⟩ := hSw; go_simp; try rfl
                simp only [Act.put, List.setIfInBounds_toArray, List.set_cons_zero, List.set_cons_succ]
                refine take_at 1 (some 102) (v := ?_) rfl rfl (by kernel_rfl) (by kernel_rfl) (by kernel_rfl) (fun _ _ _ h => h) ⟨by rfl, ?_⟩ hS ?_
                rotate_left
                · intro wq hSw; obtain ⟨y0, y1, y2⟩ := hSw; go_simp; try rfl
                simp only [Act.put, List.setIfInBounds_toArray, List.set_cons_zero, List.set_cons_succ]
                refine take_at 2 (some 103) (v := ?_) rfl rfl (by kernel_rfl) (by kernel_rfl) (by kernel_rfl) (fun _ _ _ h => h) ⟨by rfl, ?_⟩ hS ?_
                rotate_left
                · intro wq hSw; obtain ⟨y0, y1, y2⟩ := hSw; go_simp; try rfl
                simp only [Act.put, List.setIfInBounds_toArray, List.set_cons_zero, List.set_cons_succ]
                refine take_at 3 (some 104) (v := ?_) rfl rfl (by kernel_rfl) (by kernel_rfl) (by kernel_rfl) (fun _ _ _ h => h) ⟨by rfl, ?_⟩ hS ?_
                rotate_left
                · intro wq hSw; obtain ⟨y0, y1, y2⟩ := hSw; go_simp; try rfl
                simp only [Act.put, List.setIfInBounds_toArray, List.set_cons_zero, List.set_cons_succ]
                refine take_at 4 (some 105) (v := ?_) rfl rfl (by kernel_rfl) (by kernel_rfl) (by kernel_rfl) (fun _ _ _ h => h) ⟨by rfl, ?_⟩ hS ?_
                rotate_left
                · intro wq hSw; obtain ⟨y0, y1, y2⟩ := hSw; go_simp; try rfl
                simp only [Act.put, List.setIfInBounds_toArray, List.set_cons_zero, List.set_cons_succ]
                refine take_at 5 (some 106) (v := ?_) rfl rfl (by kernel_rfl) (by kernel_rfl) (by kernel_rfl) (fun _ _ _ h => h) ⟨by rfl, ?_⟩ hS ?_
                rotate_left
                · intro wq hSw; obtain ⟨y0, y1, y2⟩ := hSw; go_simp; try rfl
                simp only [Act.put, List.setIfInBounds_toArray, List.set_cons_zero, List.set_cons_succ]
                refine take_at 6 (some 107) (v := ?_) rfl rfl (by kernel_rfl) (by kernel_rfl) (by kernel_rfl) (fun _ _ _ h => h) ⟨by rfl, ?_⟩ hS ?_
                rotate_left
                · intro wq hSw; obtain ⟨y0, y1, y2⟩ := hSw; go_simp; try rfl
                simp only [Act.put, List.setIfInBounds_toArray, List.set_cons_zero, List.set_cons_succ]
                refine take_at 7 (some 108) (v := ?_) rfl rfl (by kernel_rfl) (by kernel_rfl) (by kernel_rfl) (fun _ _ _ h => h) ⟨by rfl, ?_⟩ hS ?_
                rotate_left
                · intro wq hSw; obtain ⟨y0, y1, y2⟩ := hSw; go_simp; try rfl
                simp only [Act.put, List.setIfInBounds_toArray, List.set_cons_zero, List.set_cons_succ]
                refine take_at 8 (some 109) (v := ?_) rfl rfl (by kernel_rfl) (by kernel_rfl) (by kernel_rfl) (fun _ _ _ h => h) ⟨by rfl, ?_⟩ hS ?_
                rotate_left
                · intro wq hSw; obtain ⟨y0, y1, y2⟩ := hSw; go_simp; try rfl
                simp only [Act.put, List.setIfInBounds_toArray, List.set_cons_zero, List.set_cons_succ]
                refine pass_at 9 (some 110) rfl rfl (by kernel_rfl) (by kernel_rfl) (by kernel_rfl) (fun _ _ _ h => h) (by rfl) hS ?_
                simp only [Act.put, List.setIfInBounds_toArray, List.set_cons_zero, List.set_cons_succ]
                refine pass_at 10 (some 111) rfl rfl (by kernel_rfl) (by kernel_rfl) (by kernel_rfl) (fun _ _ _ h => h) (by rfl) hS ?_
                simp only [Act.put, List.setIfInBounds_toArray, List.set_cons_zero, List.set_cons_succ]
                refine pass_at 11 (some 112) rfl rfl (by kernel_rfl) (by kernel_rfl) (by kernel_rfl) (fun _ _ _ h => h) (by rfl) hS ?_
                simp only [Act.put, List.setIfInBounds_toArray, List.set_cons_zero, List.set_cons_succ]
                refine pass_at 12 (some 113) rfl rfl (by kernel_rfl) (by kernel_rfl) (by kernel_rfl) (fun _ _ _ h => h) (by rfl) hS ?_
                simp only [Act.put, List.setIfInBounds_toArray, List.set_cons_zero, List.set_cons_succ]
                refine pass_at 13 (some 114) rfl rfl (by kernel_rfl) (by kernel_rfl) (by kernel_rfl) (fun _ _ _ h => h) (by rfl) hS ?_
                simp only [Act.put, List.setIfInBounds_toArray, List.set_cons_zero, List.set_cons_succ]
                refine pass_at 14 (some 115) rfl rfl (by kernel_rfl) (by kernel_rfl) (by kernel_rfl) (fun _ _ _ h => h) (by rfl) hS ?_
                simp only [Act.put, List.setIfInBounds_toArray, List.set_cons_zero, List.set_cons_succ]
                refine pass_at 15 (some 116) rfl rfl (by kernel_rfl) (by kernel_rfl) (by kernel_rfl) (fun _ _ _ h => h) (by rfl) hS ?_
                simp only [Act.put, List.setIfInBounds_toArray, List.set_cons_zero, List.set_cons_succ]
                refine pass_at 16 (some 117) rfl rfl (by kernel_rfl) (by kernel_rfl) (by kernel_rfl) (fun _ _ _ h => h) (by rfl) hS ?_
                simp only [Act.put, List.setIfInBounds_toArray, List.set_cons_zero, List.set_cons_succ]
                refine pass_at 17 (some 118) rfl rfl (by kernel_rfl) (by kernel_rfl) (by kernel_rfl) (fun _ _ _ h => h) (by rfl) hS ?_
                simp only [Act.put, List.setIfInBounds_toArray, List.set_cons_zero, List.set_cons_succ]
                refine pass_at 18 (some 119) rfl rfl (by kernel_rfl) (by kernel_rfl) (by kernel_rfl) (fun _ _ _ h => h) (by rfl) hS ?_
                simp only [Act.put, List.setIfInBounds_toArray, List.set_cons_zero, List.set_cons_succ]
                refine pass_at 19 (some 120) rfl rfl (by kernel_rfl) (by kernel_rfl) (by kernel_rfl) (fun _ _ _ h => h) (by rfl) hS ?_
                simp only [Act.put, List.setIfInBounds_toArray, List.set_cons_zero, List.set_cons_succ]
                refine pass_at 20 (some 121) rfl rfl (by kernel_rfl) (by kernel_rfl) (by kernel_rfl) (fun _ _ _ h => h) (by rfl) hS ?_
                simp only [Act.put, List.setIfInBounds_toArray, List.set_cons_zero, List.set_cons_succ]
                refine pass_at 21 (some 122) rfl rfl (by kernel_rfl) (by kernel_rfl) (by kernel_rfl) (fun _ _ _ h => h) (by rfl) hS ?_
                simp only [Act.put, List.setIfInBounds_toArray, List.set_cons_zero, List.set_cons_succ]
                refine take_at 22 (some 123) (v := ?_) rfl rfl (by kernel_rfl) (by kernel_rfl) (by kernel_rfl) (fun _ _ _ h => h) ⟨by rfl, ?_⟩ hS ?_
                rotate_left
                · intro wq hSw; obtain ⟨y0, y1, y2⟩ := hSw; go_simp; try rfl
                simp only [Act.put, List.setIfInBounds_toArray, List.set_cons_zero, List.set_cons_succ]
                refine take_at 23 (some 124) (v := ?_) rfl rfl (by kernel_rfl) (by kernel_rfl) (by kernel_rfl) (fun _ _ _ h => h) ⟨by rfl, ?_⟩ hS ?_
                rotate_left
                · intro wq hSw; obtain ⟨y0, y1, y2⟩ := hSw; go_simp; try rfl
                simp only [Act.put, List.setIfInBounds_toArray, List.set_cons_zero, List.set_cons_succ]
                refine wpAnyH_done (by kernel_rfl) ?_ _
                have QQ := R6.out.quiet
                have KG := finish_twin LST.out.dev 2 (by rw [R6.out.run.pend]; decide) (by have := R4.out; have := HC8.out; omega)
                rw [QQ.1, QQ.2.1, QQ.2.2] at KG
                clear hS QQ cB
                go_wp2_with fail
                refine KG.mono ?_
                rintro e w15 ⟨S15, v15, rfl, t15, p15, s15⟩
                rcases t15 with ⟨_, rfl⟩ | ⟨q, _⟩
                rotate_left
                · exact absurd rfl q
                have L15 := hide (LST.out.step p15 s15)
                have N15 := hide (NST.out.step s15)
                clear KG p15 s15 LST NST cX cN fN
                go_wp2_with fail
                go_loopw [18] (fun iv wq => ∃ q : Nat, iv = .int .i64 ((5 + 2 * q : Nat) : Int) ∧ q ≤ 4 ∧ Below w15.heap.size w15 wq) (fun iv _ => (20 - (intOf iv).toNat))
                case atStart => exact ⟨0, rfl, by decide, Below.refl _ _⟩
                case round =>
                  obtain ⟨q, rfl, hq4, hBq⟩ := hrel
                  have HBq := hide hBq
                  clear hBq
                  by_cases hq : q < 4
                  · obtain ⟨K, hK⟩ : ∃ K, K = 5 + 2 * q := ⟨_, rfl⟩
                    have RQ := R6.out.read q hq
                    have LQ := hide (L15.out.below HBq.out)
                    have NQ := hide (N15.out.below HBq.out)
                    have KR := read_twin LQ.out.dev ((5 + 2 * q : Nat) : Int) (by rw [R6.out.run.pend]; decide)
                    rw [RQ.1, RQ.2] at KR
                    rw [← hK] at KR ⊢
                    have hdd : decide ((K : Int) ≤ 11) = true := by simp; omega
                    have hK2 : K ≤ 11 := by omega
                    have HK := hide hK
                    clear hK RQ
                    go_wp2_with fail
                    refine KR.mono ?_
                    rintro e w16 ⟨v16, x16, rfl, t16, o16, b16⟩
                    rcases t16 with ⟨_, rfl⟩ | ⟨q, _⟩
                    rotate_left
                    · exact absurd rfl q
                    rcases o16 with ⟨q, _⟩ | ⟨_, hYL, gy, rfl, hgy, o16⟩
                    · exact absurd rfl q
                    have DR : Below w16.heap.size w16 w16.drew := (Below.refl _ _).drew
                    have AY := (Apart.new LQ.out.dev o16 hgy).below DR
                    have cY := AY.conv 1024
                    rw [hYL] at cY
                    have cM := ((NQ.out.below b16).below DR).cell q hq
                    rw [← HK.out] at cM
                    have BQ := hide (bnext (bnext HBq.out b16 (Nat.le_refl _)) DR (Nat.le_refl _))
                    generalize strOf (updP pg jj PB q) = SY at *
                    clear KR o16 hgy b16 LQ NQ AY hYL HBq
                    go_upto_region 34 with fail
                    refine wp_region_held_drew (S := fun wq => (convert 22 9 (.slice (some ⟨gy, 0, none⟩) 1024 1024)).run Try.prog wq = .ok (.string SY) wq ∧ wq.cell? ⟨nb, K, none⟩ = some (.string SY)) (by kernel_rfl) ⟨cY, cM⟩ (fun hS => ?_)
                    clear DR cY cM
                    generalize w16.drew = w17 at *
                    refine take_at 0 (some 149) (v := ?_) rfl rfl (by kernel_rfl) (by kernel_rfl) (by kernel_rfl) (fun _ _ _ h => h) ⟨by rfl, ?_⟩ hS ?_
                    rotate_left
                    · intro wq hSw; obtain ⟨y0, y1⟩ := hSw; go_simp; try rfl
                    simp only [Act.put, List.setIfInBounds_toArray, List.set_cons_zero, List.set_cons_succ]
                    refine take_at 1 (some 150) (v := ?_) rfl rfl (by kernel_rfl) (by kernel_rfl) (by kernel_rfl) (fun _ _ _ h => h) ⟨by rfl, ?_⟩ hS ?_
                    rotate_left
                    · intro wq hSw; obtain ⟨y0, y1⟩ := hSw; go_simp; try rfl
                    simp only [Act.put, List.setIfInBounds_toArray, List.set_cons_zero, List.set_cons_succ]
                    refine take_at 2 (some 151) (v := ?_) rfl rfl (by kernel_rfl) (by kernel_rfl) (by kernel_rfl) (fun _ _ _ h => h) ⟨by rfl, ?_⟩ hS ?_
                    rotate_left
                    · intro wq hSw; obtain ⟨y0, y1⟩ := hSw; go_simp; try rfl
                    simp only [Act.put, List.setIfInBounds_toArray, List.set_cons_zero, List.set_cons_succ]
                    refine take_at 3 (some 152) (v := ?_) rfl rfl (by kernel_rfl) (by kernel_rfl) (by kernel_rfl) (fun _ _ _ h => h) ⟨by rfl, ?_⟩ hS ?_
                    rotate_left
                    · intro wq hSw; obtain ⟨y0, y1⟩ := hSw; go_simp; try rfl
                    simp only [Act.put, List.setIfInBounds_toArray, List.set_cons_zero, List.set_cons_succ]
                    refine take_at 4 (some 153) (v := ?_) rfl rfl (by kernel_rfl) (by kernel_rfl) (by kernel_rfl) (fun _ _ _ h => h) ⟨by rfl, ?_⟩ hS ?_
                    rotate_left
                    · intro wq hSw; obtain ⟨y0, y1⟩ := hSw; go_simp; try rfl
                    simp only [Act.put, List.setIfInBounds_toArray, List.set_cons_zero, List.set_cons_succ]
                    refine take_at 5 (some 154) (v := ?_) rfl rfl (by kernel_rfl) (by kernel_rfl) (by kernel_rfl) (fun _ _ _ h => h) ⟨by rfl, ?_⟩ hS ?_
                    rotate_left
                    · intro wq hSw; obtain ⟨y0, y1⟩ := hSw; go_simp; try rfl
                    simp only [Act.put, List.setIfInBounds_toArray, List.set_cons_zero, List.set_cons_succ]
                    refine take_at 6 (some 155) (v := ?_) rfl rfl (by kernel_rfl) (by kernel_rfl) (by kernel_rfl) (fun _ _ _ h => h) ⟨by rfl, ?_⟩ hS ?_
                    rotate_left
                    · intro wq hSw; obtain ⟨y0, y1⟩ := hSw; go_simp; rw [if_pos (by omega)]; try rfl
                    simp only [Act.put, List.setIfInBounds_toArray, List.set_cons_zero, List.set_cons_succ]
                    refine take_at 7 (some 156) (v := ?_) rfl rfl (by kernel_rfl) (by kernel_rfl) (by kernel_rfl) (fun _ _ _ h => h) ⟨by rfl, ?_⟩ hS ?_
                    rotate_left
                    · intro wq hSw; obtain ⟨y0, y1⟩ := hSw; go_simp; try rfl
                    simp only [Act.put, List.setIfInBounds_toArray, List.set_cons_zero, List.set_cons_succ]
                    refine take_at 8 (some 157) (v := ?_) rfl rfl (by kernel_rfl) (by kernel_rfl) (by kernel_rfl) (fun _ _ _ h => h) ⟨by rfl, ?_⟩ hS ?_
                    rotate_left
                    · intro wq hSw; obtain ⟨y0, y1⟩ := hSw; go_simp; try rfl
                    simp only [Act.put, List.setIfInBounds_toArray, List.set_cons_zero, List.set_cons_succ]
                    refine take_at 9 (some 158) (v := ?_) rfl rfl (by kernel_rfl) (by kernel_rfl) (by kernel_rfl) (fun _ _ _ h => h) ⟨by rfl, ?_⟩ hS ?_
                    rotate_left
                    · intro wq hSw; obtain ⟨y0, y1⟩ := hSw; go_simp; try rfl
                    simp only [Act.put, List.setIfInBounds_toArray, List.set_cons_zero, List.set_cons_succ]
                    refine wpAnyH_done (by kernel_rfl) ?_ _
                    go_wp2_with fail
                    go_roundw
                    case rel => exact ⟨q + 1, by rw [HK.out]; congr 1, by omega, BQ.out⟩
                    case measure => have := HK.out; simp [intOf]; omega
                  · obtain rfl : q = 4 := by omega
                    have NXT := hide (show Oft w1 d nb (updP pg jj PB) (i + 1) wr S15 g11 from ⟨L15.out.below HBq.out, R6.out, by have := R4.out; have := HC8.out; omega, N15.out.below HBq.out, HNB1.out⟩)
                    clear HBq L15 N15
                    go_wp2_with fail
                    go_roundw
                    case rel => ((repeat apply Exists.intro); exact ⟨⟨i + 1, S15, g11, _, by go_num, by omega, by omega, NXT.out⟩, rfl⟩)
                    case measure => simp [intOf]; omega
              · have hx2 := hx.symm
                clear hx
                subst hx2
                have R7 := hide r7
                clear r7
                go_wp2_with fail
                refine KW.mono ?_
                rintro e w9 ⟨S9, v9, rfl, t9, p9, s9⟩
                rcases t9 with ⟨q, _⟩ | ⟨_, t9⟩
                · exact absurd q (by decide)
                obtain ⟨eb9, rfl, _, _⟩ := t9
                have L9 := hide (L8.out.step p9 s9)
                have N9 := hide (N8.out.step s9)
                have AB9 := hide (AB8.out.step s9)
                have KU := up_any L9.out.dev
                clear KW p9 s9 L8 N8 AB8
                go_wp2_with fail
                refine KU.mono ?_
                rintro e w10 ⟨rfl, p10, k10⟩
                have s10 : Step w9 S9 w10 S9 := Step.of_keep k10
                have L10 := hide (L9.out.step p10 s10)
                have N10 := hide (N9.out.step s10)
                have AB10 := hide (AB9.out.step s10)
                have KFN := finish_twin L10.out.dev 2 (by rw [R2.out]; decide) (by show D.calls ≤ _; have := R3.out; have := HC8.out; omega)
                rw [R1.out, R7.out] at KFN
                generalize D.up.fnD 2 = g11 at *
                clear KU p10 k10 s10 L9 N9 AB9 R1 R2 R3 R7
                go_wp2_with fail
                refine KFN.mono ?_
                rintro e w11 ⟨S11, v11, rfl, t11, p11, s11⟩
                rcases t11 with ⟨_, rfl⟩ | ⟨q, _⟩
                rotate_left
                · exact absurd rfl q
                have L11 := hide (L10.out.step p11 s11)
                have N11 := hide (N10.out.step s11)
                have AB11 := hide (AB10.out.step s11)
                have RR := R5.out.read jj hjj
                rw [← HH.out] at RR
                have hup : updP pg jj (pg jj) jj = (pg jj) := by unfold updP; rw [if_pos rfl]
                rw [hup] at RR
                have KR := read_twin L11.out.dev (H : Int) (by rw [R5.out.run.pend]; decide)
                rw [RR.1, RR.2] at KR
                clear KFN p11 s11 L10 N10 AB10 RR hup
                go_wp2_with fail
                refine KR.mono ?_
                rintro e w12 ⟨v12, x12, rfl, t12, o12, b12⟩
                rcases t12 with ⟨_, rfl⟩ | ⟨q, _⟩
                rotate_left
                · exact absurd rfl q
                rcases o12 with ⟨q, _⟩ | ⟨_, hXL, gx, rfl, hgx, o12⟩
                · exact absurd rfl q
                have DR : Below w12.heap.size w12 w12.drew := (Below.refl _ _).drew
                have AX12 := hide ((Apart.new L11.out.dev o12 hgx).below DR)
                have L12 := hide ((L11.out.below b12).below DR)
                have N12 := hide ((N11.out.below b12).below DR)
                have AB12 := hide ((AB11.out.below b12).below DR)
                have cX := AX12.out.conv 1024
                rw [hXL] at cX
                have cB := AB12.out.conv 1024
                rw [HPL.out] at cB
                have cN := N12.out.cell jj hjj
                rw [← HH.out] at cN
                obtain ⟨_, fN⟩ := N12.out.any H (by omega)
                have hST := N12.out.set jj hjj (pg jj) 4 (updP pg jj (pg jj)) (fun i hi => by
                  unfold updP
                  by_cases e : i = jj
                  · exact .inl ⟨e, by rw [if_pos e]⟩
                  · exact .inr ⟨e, hi, by rw [if_neg e]⟩)
                rw [← HH.out] at hST
                have hkk : Keep (fun b => b = nb) w12.drew (w12.drew.setCell ⟨nb, H, none⟩ (.string (strOf (pg jj)))) := (Keep.refl (fun b => b = nb) w12.drew).setCell (fun _ => rfl) _
                have LST := hide (show Live w1.heap.size w1 (w12.drew.setCell ⟨nb, H, none⟩ (.string (strOf (pg jj)))) S11 d g11 from ⟨L12.out.dev.keep hkk (fun b e => by rw [e]; exact N12.out.out), L12.out.far, L12.out.bel.trans (hkk.below L12.out.size (fun k hk q => by have := HNB1.out; omega)), L12.out.le⟩)
                have NST := hide hST
                obtain ⟨SX, hSX⟩ : ∃ q, q = strOf (pg jj) := ⟨_, rfl⟩
                obtain ⟨SP, hSP⟩ : ∃ q, q = strOf PB := ⟨_, rfl⟩
                obtain ⟨SO, hSO⟩ : ∃ q, q = strOf (pg jj) := ⟨_, rfl⟩
                rw [← hSX] at cX LST NST
                rw [← hSP] at cB
                rw [← hSO] at cN
                obtain rfl : SX = SO := by rw [hSX, hSO]
                have R6 := hide (show Four (updP pg jj (pg jj)) g11 from R5.out)
                clear KR hXL hgx o12 b12 L11 N11 AB11 L12 N12 AB12 AX12 hST hkk hSX hSP hSO R5
                go_upto_region 24 with fail
                refine wp_region_held_drew (S := fun wq => (convert 22 9 (.slice (some ⟨gx, 0, none⟩) 1024 1024)).run Try.prog wq = .ok (.string SX) wq ∧ (convert 22 9 (.slice (some ⟨gb, 0, none⟩) 1024 1024)).run Try.prog wq = .ok (.string SP) wq ∧ wq.cell? ⟨nb, H, none⟩ = some (.string SX)) (by kernel_rfl) ⟨cX, cB, cN⟩ (fun hS => ?_)
                clear DR
                generalize w12.drew = w13 at *
                refine take_at 0 (some 101) (v := ?_) rfl rfl (by kernel_rfl) (by kernel_rfl) (by kernel_rfl) (fun _ _ _ h => h) ⟨by rfl, ?_⟩ hS ?_
                rotate_left
                · intro wq hSw; obtain ⟨y0, y1, y2⟩ := hSw; go_simp; try rfl
                simp only [Act.put, List.setIfInBounds_toArray, List.set_cons_zero, List.set_cons_succ]
                refine take_at 1 (some 102) (v := ?_) rfl rfl (by kernel_rfl) (by kernel_rfl) (by kernel_rfl) (fun _ _ _ h => h) ⟨by rfl, ?_⟩ hS ?_
                rotate_left
                · intro wq hSw; obtain ⟨y0, y1, y2⟩ := hSw; go_simp; try rfl
                simp only [Act.put, List.setIfInBounds_toArray, List.set_cons_zero, List.set_cons_succ]
                refine take_at 2 (some 103) (v := ?_) rfl rfl (by kernel_rfl) (by kernel_rfl) (by kernel_rfl) (fun _ _ _ h => h) ⟨by rfl, ?_⟩ hS ?_
                rotate_left
                · intro wq hSw; obtain ⟨y0, y1, y2⟩ := hSw; go_simp; try rfl
                simp only [Act.put, List.setIfInBounds_toArray, List.set_cons_zero, List.set_cons_succ]
                refine take_at 3 (some 104) (v := ?_) rfl rfl (by kernel_rfl) (by kernel_rfl) (by kernel_rfl) (fun _ _ _ h => h) ⟨by rfl, ?_⟩ hS ?_
                rotate_left
                · intro wq hSw; obtain ⟨y0, y1, y2⟩ := hSw; go_simp; try rfl
                simp only [Act.put, List.setIfInBounds_toArray, List.set_cons_zero, List.set_cons_succ]
                refine take_at 4 (some 105) (v := ?_) rfl rfl (by kernel_rfl) (by kernel_rfl) (by kernel_rfl) (fun _ _ _ h => h) ⟨by rfl, ?_⟩ hS ?_
                rotate_left
                · intro wq hSw; obtain ⟨y0, y1, y2⟩ := hSw; go_simp; try rfl
                simp only [Act.put, List.setIfInBounds_toArray, List.set_cons_zero, List.set_cons_succ]
                refine take_at 5 (some 106) (v := ?_) rfl rfl (by kernel_rfl) (by kernel_rfl) (by kernel_rfl) (fun _ _ _ h => h) ⟨by rfl, ?_⟩ hS ?_
                rotate_left
                · intro wq hSw; obtain ⟨y0, y1, y2⟩ := hSw; go_simp; try rfl
                simp only [Act.put, List.setIfInBounds_toArray, List.set_cons_zero, List.set_cons_succ]
                refine take_at 6 (some 107) (v := ?_) rfl rfl (by kernel_rfl) (by kernel_rfl) (by kernel_rfl) (fun _ _ _ h => h) ⟨by rfl, ?_⟩ hS ?_
                rotate_left
                · intro wq hSw; obtain ⟨y0, y1, y2⟩ := hSw; go_simp; try rfl
                simp only [Act.put, List.setIfInBounds_toArray, List.set_cons_zero, List.set_cons_succ]
                by_cases hs : SX.toList = SP.toList
                · refine take_at 7 (some 108) (v := ?_) rfl rfl (by kernel_rfl) (by kernel_rfl) (by kernel_rfl) (fun _ _ _ h => h) ⟨by rfl, ?_⟩ hS ?_
                  rotate_left
                  · intro wq hSw; obtain ⟨y0, y1, y2⟩ := hSw; go_simp; try rfl
                  simp only [Act.put, List.setIfInBounds_toArray, List.set_cons_zero, List.set_cons_succ]
                  refine take_at 8 (some 109) (v := ?_) rfl rfl (by kernel_rfl) (by kernel_rfl) (by kernel_rfl) (fun _ _ _ h => h) ⟨by rfl, ?_⟩ hS ?_
                  rotate_left
                  · intro wq hSw; obtain ⟨y0, y1, y2⟩ := hSw; go_simp; try rfl
                  simp only [Act.put, List.setIfInBounds_toArray, List.set_cons_zero, List.set_cons_succ]
                  refine pass_at 9 (some 110) rfl rfl (by kernel_rfl) (by kernel_rfl) (by kernel_rfl) (fun _ _ _ h => h) (by rfl) hS ?_
                  simp only [Act.put, List.setIfInBounds_toArray, List.set_cons_zero, List.set_cons_succ]
                  refine pass_at 10 (some 111) rfl rfl (by kernel_rfl) (by kernel_rfl) (by kernel_rfl) (fun _ _ _ h => h) (by rfl) hS ?_
                  simp only [Act.put, List.setIfInBounds_toArray, List.set_cons_zero, List.set_cons_succ]
                  refine pass_at 11 (some 112) rfl rfl (by kernel_rfl) (by kernel_rfl) (by kernel_rfl) (fun _ _ _ h => h) (by rfl) hS ?_
                  simp only [Act.put, List.setIfInBounds_toArray, List.set_cons_zero, List.set_cons_succ]
                  refine pass_at 12 (some 113) rfl rfl (by kernel_rfl) (by kernel_rfl) (by kernel_rfl) (fun _ _ _ h => h) (by rfl) hS ?_
                  simp only [Act.put, List.setIfInBounds_toArray, List.set_cons_zero, List.set_cons_succ]
                  refine pass_at 13 (some 114) rfl rfl (by kernel_rfl) (by kernel_rfl) (by kernel_rfl) (fun _ _ _ h => h) (by rfl) hS ?_
                  simp only [Act.put, List.setIfInBounds_toArray, List.set_cons_zero, List.set_cons_succ]
                  refine pass_at 14 (some 115) rfl rfl (by kernel_rfl) (by kernel_rfl) (by kernel_rfl) (fun _ _ _ h => h) (by rfl) hS ?_
                  simp only [Act.put, List.setIfInBounds_toArray, List.set_cons_zero, List.set_cons_succ]
                  refine pass_at 15 (some 116) rfl rfl (by kernel_rfl) (by kernel_rfl) (by kernel_rfl) (fun _ _ _ h => h) (by rfl) hS ?_
                  simp only [Act.put, List.setIfInBounds_toArray, List.set_cons_zero, List.set_cons_succ]
                  refine pass_at 16 (some 117) rfl rfl (by kernel_rfl) (by kernel_rfl) (by kernel_rfl) (fun _ _ _ h => h) (by rfl) hS ?_
                  simp only [Act.put, List.setIfInBounds_toArray, List.set_cons_zero, List.set_cons_succ]
                  refine pass_at 17 (some 118) rfl rfl (by kernel_rfl) (by kernel_rfl) (by kernel_rfl) (fun _ _ _ h => h) (by rfl) hS ?_
                  simp only [Act.put, List.setIfInBounds_toArray, List.set_cons_zero, List.set_cons_succ]
                  refine pass_at 18 (some 119) rfl rfl (by kernel_rfl) (by kernel_rfl) (by kernel_rfl) (fun _ _ _ h => h) (by rfl) hS ?_
                  simp only [Act.put, List.setIfInBounds_toArray, List.set_cons_zero, List.set_cons_succ]
                  refine pass_at 19 (some 120) rfl rfl (by kernel_rfl) (by kernel_rfl) (by kernel_rfl) (fun _ _ _ h => h) (by rfl) hS ?_
                  simp only [Act.put, List.setIfInBounds_toArray, List.set_cons_zero, List.set_cons_succ]
                  refine pass_at 20 (some 121) rfl rfl (by kernel_rfl) (by kernel_rfl) (by kernel_rfl) (fun _ _ _ h => h) (by rfl) hS ?_
                  simp only [Act.put, List.setIfInBounds_toArray, List.set_cons_zero, List.set_cons_succ]
                  refine pass_at 21 (some 122) rfl rfl (by kernel_rfl) (by kernel_rfl) (by kernel_rfl) (fun _ _ _ h => h) (by rfl) hS ?_
                  simp only [Act.put, List.setIfInBounds_toArray, List.set_cons_zero, List.set_cons_succ]
                  refine take_at 22 (some 123) (v := ?_) rfl rfl (by kernel_rfl) (by kernel_rfl) (by kernel_rfl) (fun _ _ _ h => h) ⟨by rfl, ?_⟩ hS ?_
                  rotate_left
                  · intro wq hSw; obtain ⟨y0, y1, y2⟩ := hSw; go_simp; try rfl
                  simp only [Act.put, List.setIfInBounds_toArray, List.set_cons_zero, List.set_cons_succ]
                  refine take_at 23 (some 124) (v := ?_) rfl rfl (by kernel_rfl) (by kernel_rfl) (by kernel_rfl) (fun _ _ _ h => h) ⟨by rfl, ?_⟩ hS ?_
                  rotate_left
                  · intro wq hSw; obtain ⟨y0, y1, y2⟩ := hSw; go_simp; try rfl
                  simp only [Act.put, List.setIfInBounds_toArray, List.set_cons_zero, List.set_cons_succ]
                  refine wpAnyH_done (by kernel_rfl) ?_ _
                  have QQ := R6.out.quiet
                  have KG := finish_twin LST.out.dev 2 (by rw [R6.out.run.pend]; decide) (by have := R4.out; have := HC8.out; omega)
                  rw [QQ.1, QQ.2.1, QQ.2.2] at KG
                  clear hS QQ cB
                  go_wp2_with fail
                  refine KG.mono ?_
                  rintro e w15 ⟨S15, v15, rfl, t15, p15, s15⟩
                  rcases t15 with ⟨_, rfl⟩ | ⟨q, _⟩
                  rotate_left
                  · exact absurd rfl q
                  have L15 := hide (LST.out.step p15 s15)
                  have N15 := hide (NST.out.step s15)
                  clear KG p15 s15 LST NST cX cN fN
                  go_wp2_with fail
                  go_loopw [18] (fun iv wq => ∃ q : Nat, iv = .int .i64 ((5 + 2 * q : Nat) : Int) ∧ q ≤ 4 ∧ Below w15.heap.size w15 wq) (fun iv _ => (20 - (intOf iv).toNat))
                  case atStart => exact ⟨0, rfl, by decide, Below.refl _ _⟩
                  case round =>
                    obtain ⟨q, rfl, hq4, hBq⟩ := hrel
                    have HBq := hide hBq
                    clear hBq
                    by_cases hq : q < 4
                    · obtain ⟨K, hK⟩ : ∃ K, K = 5 + 2 * q := ⟨_, rfl⟩
                      have RQ := R6.out.read q hq
                      have LQ := hide (L15.out.below HBq.out)
                      have NQ := hide (N15.out.below HBq.out)
                      have KR := read_twin LQ.out.dev ((5 + 2 * q : Nat) : Int) (by rw [R6.out.run.pend]; decide)
                      rw [RQ.1, RQ.2] at KR
                      rw [← hK] at KR ⊢
                      have hdd : decide ((K : Int) ≤ 11) = true := by simp; omega
                      have hK2 : K ≤ 11 := by omega
                      have HK := hide hK
                      clear hK RQ
                      go_wp2_with fail
                      refine KR.mono ?_
                      rintro e w16 ⟨v16, x16, rfl, t16, o16, b16⟩
                      rcases t16 with ⟨_, rfl⟩ | ⟨q, _⟩
                      rotate_left
                      · exact absurd rfl q
                      rcases o16 with ⟨q, _⟩ | ⟨_, hYL, gy, rfl, hgy, o16⟩
                      · exact absurd rfl q
                      have DR : Below w16.heap.size w16 w16.drew := (Below.refl _ _).drew
                      have AY := (Apart.new LQ.out.dev o16 hgy).below DR
                      have cY := AY.conv 1024
                      rw [hYL] at cY
                      have cM := ((NQ.out.below b16).below DR).cell q hq
                      rw [← HK.out] at cM
                      have BQ := hide (bnext (bnext HBq.out b16 (Nat.le_refl _)) DR (Nat.le_refl _))
                      generalize strOf (updP pg jj (pg jj) q) = SY at *
                      clear KR o16 hgy b16 LQ NQ AY hYL HBq
                      go_upto_region 34 with fail
                      refine wp_region_held_drew (S := fun wq => (convert 22 9 (.slice (some ⟨gy, 0, none⟩) 1024 1024)).run Try.prog wq = .ok (.string SY) wq ∧ wq.cell? ⟨nb, K, none⟩ = some (.string SY)) (by kernel_rfl) ⟨cY, cM⟩ (fun hS => ?_)
                      clear DR cY cM
                      generalize w16.drew = w17 at *
                      refine take_at 0 (some 149) (v := ?_) rfl rfl (by kernel_rfl) (by kernel_rfl) (by kernel_rfl) (fun _ _ _ h => h) ⟨by rfl, ?_⟩ hS ?_
                      rotate_left
                      · intro wq hSw; obtain ⟨y0, y1⟩ := hSw; go_simp; try rfl
                      simp only [Act.put, List.setIfInBounds_toArray, List.set_cons_zero, List.set_cons_succ]
                      refine take_at 1 (some 150) (v := ?_) rfl rfl (by kernel_rfl) (by kernel_rfl) (by kernel_rfl) (fun _ _ _ h => h) ⟨by rfl, ?_⟩ hS ?_
                      rotate_left
                      · intro wq hSw; obtain ⟨y0, y1⟩ := hSw; go_simp; try rfl
                      simp only [Act.put, List.setIfInBounds_toArray, List.set_cons_zero, List.set_cons_succ]
                      refine take_at 2 (some 151) (v := ?_) rfl rfl (by kernel_rfl) (by kernel_rfl) (by kernel_rfl) (fun _ _ _ h => h) ⟨by rfl, ?_⟩ hS ?_
                      rotate_left
                      · intro wq hSw; obtain ⟨y0, y1⟩ := hSw; go_simp; try rfl
                      simp only [Act.put, List.setIfInBounds_toArray, List.set_cons_zero, List.set_cons_succ]
                      refine take_at 3 (some 152) (v := ?_) rfl rfl (by kernel_rfl) (by kernel_rfl) (by kernel_rfl) (fun _ _ _ h => h) ⟨by rfl, ?_⟩ hS ?_
                      rotate_left
                      · intro wq hSw; obtain ⟨y0, y1⟩ := hSw; go_simp; try rfl
                      simp only [Act.put, List.setIfInBounds_toArray, List.set_cons_zero, List.set_cons_succ]
                      refine take_at 4 (some 153) (v := ?_) rfl rfl (by kernel_rfl) (by kernel_rfl) (by kernel_rfl) (fun _ _ _ h => h) ⟨by rfl, ?_⟩ hS ?_
                      rotate_left
                      · intro wq hSw; obtain ⟨y0, y1⟩ := hSw; go_simp; try rfl
                      simp only [Act.put, List.setIfInBounds_toArray, List.set_cons_zero, List.set_cons_succ]
                      refine take_at 5 (some 154) (v := ?_) rfl rfl (by kernel_rfl) (by kernel_rfl) (by kernel_rfl) (fun _ _ _ h => h) ⟨by rfl, ?_⟩ hS ?_
                      rotate_left
                      · intro wq hSw; obtain ⟨y0, y1⟩ := hSw; go_simp; try rfl
                      simp only [Act.put, List.setIfInBounds_toArray, List.set_cons_zero, List.set_cons_succ]
                      refine take_at 6 (some 155) (v := ?_) rfl rfl (by kernel_rfl) (by kernel_rfl) (by kernel_rfl) (fun _ _ _ h => h) ⟨by rfl, ?_⟩ hS ?_
                      rotate_left
                      · intro wq hSw; obtain ⟨y0, y1⟩ := hSw; go_simp; rw [if_pos (by omega)]; try rfl
                      simp only [Act.put, List.setIfInBounds_toArray, List.set_cons_zero, List.set_cons_succ]
                      refine take_at 7 (some 156) (v := ?_) rfl rfl (by kernel_rfl) (by kernel_rfl) (by kernel_rfl) (fun _ _ _ h => h) ⟨by rfl, ?_⟩ hS ?_
                      rotate_left
                      · intro wq hSw; obtain ⟨y0, y1⟩ := hSw; go_simp; try rfl
                      simp only [Act.put, List.setIfInBounds_toArray, List.set_cons_zero, List.set_cons_succ]
                      refine take_at 8 (some 157) (v := ?_) rfl rfl (by kernel_rfl) (by kernel_rfl) (by kernel_rfl) (fun _ _ _ h => h) ⟨by rfl, ?_⟩ hS ?_
                      rotate_left
                      · intro wq hSw; obtain ⟨y0, y1⟩ := hSw; go_simp; try rfl
                      simp only [Act.put, List.setIfInBounds_toArray, List.set_cons_zero, List.set_cons_succ]
                      refine take_at 9 (some 158) (v := ?_) rfl rfl (by kernel_rfl) (by kernel_rfl) (by kernel_rfl) (fun _ _ _ h => h) ⟨by rfl, ?_⟩ hS ?_
                      rotate_left
                      · intro wq hSw; obtain ⟨y0, y1⟩ := hSw; go_simp; try rfl
                      simp only [Act.put, List.setIfInBounds_toArray, List.set_cons_zero, List.set_cons_succ]
                      refine wpAnyH_done (by kernel_rfl) ?_ _
                      go_wp2_with fail
                      go_roundw
                      case rel => exact ⟨q + 1, by rw [HK.out]; congr 1, by omega, BQ.out⟩
                      case measure => have := HK.out; simp [intOf]; omega
                    · obtain rfl : q = 4 := by omega
                      have NXT := hide (show Oft w1 d nb (updP pg jj (pg jj)) (i + 1) wr S15 g11 from ⟨L15.out.below HBq.out, R6.out, by have := R4.out; have := HC8.out; omega, N15.out.below HBq.out, HNB1.out⟩)
                      clear HBq L15 N15
                      go_wp2_with fail
                      go_roundw
                      case rel => ((repeat apply Exists.intro); exact ⟨⟨i + 1, S15, g11, _, by go_num, by omega, by omega, NXT.out⟩, rfl⟩)
                      case measure => simp [intOf]; omega
                · have hsb : (SX.toList == SP.toList) = false := by simpa using hs
                  have hsn : (SX.toList != SP.toList) = true := by simpa using hs
                  have hsd : decide (SX.toList = SP.toList) = false := by simpa using hs
                  refine take_at 7 (some 108) (v := ?_) rfl rfl (by kernel_rfl) (by kernel_rfl) (by kernel_rfl) (fun _ _ _ h => h) ⟨by rfl, ?_⟩ hS ?_
                  rotate_left
                  · intro wq hSw; obtain ⟨y0, y1, y2⟩ := hSw; go_simp; try rfl
                  simp only [Act.put, List.setIfInBounds_toArray, List.set_cons_zero, List.set_cons_succ]
                  refine take_at 8 (some 109) (v := ?_) rfl rfl (by kernel_rfl) (by kernel_rfl) (by kernel_rfl) (fun _ _ _ h => h) ⟨by rfl, ?_⟩ hS ?_
                  rotate_left
                  · intro wq hSw; obtain ⟨y0, y1, y2⟩ := hSw; go_simp; try rfl
                  simp only [Act.put, List.setIfInBounds_toArray, List.set_cons_zero, List.set_cons_succ]
                  refine take_at 9 (some 110) (v := ?_) rfl rfl (by kernel_rfl) (by kernel_rfl) (by kernel_rfl) (fun _ _ _ h => h) ⟨by rfl, ?_⟩ hS ?_
                  rotate_left
                  · intro wq hSw; obtain ⟨y0, y1, y2⟩ := hSw; go_simp; try rfl
                  simp only [Act.put, List.setIfInBounds_toArray, List.set_cons_zero, List.set_cons_succ]
                  refine take_at 10 (some 111) (v := ?_) rfl rfl (by kernel_rfl) (by kernel_rfl) (by kernel_rfl) (fun _ _ _ h => h) ⟨by rfl, ?_⟩ hS ?_
                  rotate_left
                  · intro wq hSw; obtain ⟨y0, y1, y2⟩ := hSw; go_simp; try rfl
                  simp only [Act.put, List.setIfInBounds_toArray, List.set_cons_zero, List.set_cons_succ]
                  refine take_at 11 (some 112) (v := ?_) rfl rfl (by kernel_rfl) (by kernel_rfl) (by kernel_rfl) (fun _ _ _ h => h) ⟨by rfl, ?_⟩ hS ?_
                  rotate_left
                  · intro wq hSw; obtain ⟨y0, y1, y2⟩ := hSw; go_simp; try rfl
                  simp only [Act.put, List.setIfInBounds_toArray, List.set_cons_zero, List.set_cons_succ]
                  refine take_at 12 (some 113) (v := ?_) rfl rfl (by kernel_rfl) (by kernel_rfl) (by kernel_rfl) (fun _ _ _ h => h) ⟨by rfl, ?_⟩ hS ?_
                  rotate_left
                  · intro wq hSw; obtain ⟨y0, y1, y2⟩ := hSw; go_simp; try rfl
                  simp only [Act.put, List.setIfInBounds_toArray, List.set_cons_zero, List.set_cons_succ]
                  refine take_at 13 (some 114) (v := ?_) rfl rfl (by kernel_rfl) (by kernel_rfl) (by kernel_rfl) (fun _ _ _ h => h) ⟨by rfl, ?_⟩ hS ?_
                  rotate_left
                  · intro wq hSw; obtain ⟨y0, y1, y2⟩ := hSw; go_simp; try rfl
                  simp only [Act.put, List.setIfInBounds_toArray, List.set_cons_zero, List.set_cons_succ]
                  refine take_at 14 (some 115) (v := ?_) rfl rfl (by kernel_rfl) (by kernel_rfl) (by kernel_rfl) (fun _ _ _ h => h) ⟨by rfl, ?_⟩ hS ?_
                  rotate_left
                  · intro wq hSw; obtain ⟨y0, y1, y2⟩ := hSw; go_simp; try rfl
                  simp only [Act.put, List.setIfInBounds_toArray, List.set_cons_zero, List.set_cons_succ]
                  refine take_at 15 (some 116) (v := ?_) rfl rfl (by kernel_rfl) (by kernel_rfl) (by kernel_rfl) (fun _ _ _ h => h) ⟨by rfl, ?_⟩ hS ?_
                  rotate_left
                  · intro wq hSw; obtain ⟨y0, y1, y2⟩ := hSw; go_simp; try rfl
                  simp only [Act.put, List.setIfInBounds_toArray, List.set_cons_zero, List.set_cons_succ]
                  refine take_at 16 (some 117) (v := ?_) rfl rfl (by kernel_rfl) (by kernel_rfl) (by kernel_rfl) (fun _ _ _ h => h) ⟨by rfl, ?_⟩ hS ?_
                  rotate_left
                  · intro wq hSw; obtain ⟨y0, y1, y2⟩ := hSw; go_simp; try rfl
                  simp only [Act.put, List.setIfInBounds_toArray, List.set_cons_zero, List.set_cons_succ]
                  refine take_at 17 (some 118) (v := ?_) rfl rfl (by kernel_rfl) (by kernel_rfl) (by kernel_rfl) (fun _ _ _ h => h) ⟨by rfl, ?_⟩ hS ?_
                  rotate_left
                  · intro wq hSw; obtain ⟨y0, y1, y2⟩ := hSw; go_simp; try rfl
                  simp only [Act.put, List.setIfInBounds_toArray, List.set_cons_zero, List.set_cons_succ]
                  refine take_at 18 (some 119) (v := ?_) rfl rfl (by kernel_rfl) (by kernel_rfl) (by kernel_rfl) (fun _ _ _ h => h) ⟨by rfl, ?_⟩ hS ?_
                  rotate_left
                  · intro wq hSw; obtain ⟨y0, y1, y2⟩ := hSw; go_simp; rw [if_pos (by omega)]; try rfl
                  simp only [Act.put, List.setIfInBounds_toArray, List.set_cons_zero, List.set_cons_succ]
                  refine take_at 19 (some 120) (v := ?_) rfl rfl (by kernel_rfl) (by kernel_rfl) (by kernel_rfl) (fun _ _ _ h => h) ⟨by rfl, ?_⟩ hS ?_
                  rotate_left
                  · intro wq hSw; obtain ⟨y0, y1, y2⟩ := hSw; go_simp; try rfl
                  simp only [Act.put, List.setIfInBounds_toArray, List.set_cons_zero, List.set_cons_succ]
                  refine take_at 20 (some 121) (v := ?_) rfl rfl (by kernel_rfl) (by kernel_rfl) (by kernel_rfl) (fun _ _ _ h => h) ⟨by rfl, ?_⟩ hS ?_
                  rotate_left
                  · intro wq hSw; obtain ⟨y0, y1, y2⟩ := hSw; go_simp; try rfl
                  simp only [Act.put, List.setIfInBounds_toArray, List.set_cons_zero, List.set_cons_succ]
                  refine take_at 21 (some 122) (v := ?_) rfl rfl (by kernel_rfl) (by kernel_rfl) (by kernel_rfl) (fun _ _ _ h => h) ⟨by rfl, ?_⟩ hS ?_
                  rotate_left
                  · intro wq hSw; obtain ⟨y0, y1, y2⟩ := hSw; go_simp; try rfl
                  simp only [Act.put, List.setIfInBounds_toArray, List.set_cons_zero, List.set_cons_succ]
                  refine take_at 22 (some 123) (v := ?_) rfl rfl (by kernel_rfl) (by kernel_rfl) (by kernel_rfl) (fun _ _ _ h => h) ⟨by rfl, ?_⟩ hS ?_
                  rotate_left
                  · intro wq hSw; obtain ⟨y0, y1, y2⟩ := hSw; go_simp; try rfl
                  simp only [Act.put, List.setIfInBounds_toArray, List.set_cons_zero, List.set_cons_succ]
                  refine take_at 23 (some 124) (v := ?_) rfl rfl (by kernel_rfl) (by kernel_rfl) (by kernel_rfl) (fun _ _ _ h => h) ⟨by rfl, ?_⟩ hS ?_
                  rotate_left
                  · intro wq hSw; obtain ⟨y0, y1, y2⟩ := hSw; go_simp; try rfl
                  simp only [Act.put, List.setIfInBounds_toArray, List.set_cons_zero, List.set_cons_succ]
                  refine wpAnyH_done (by kernel_rfl) ?_ _
                  have QQ := R6.out.quiet
                  have KG := finish_twin LST.out.dev 2 (by rw [R6.out.run.pend]; decide) (by have := R4.out; have := HC8.out; omega)
                  rw [QQ.1, QQ.2.1, QQ.2.2] at KG
                  clear hS QQ cB
                  go_wp2_with fail
                  refine KG.mono ?_
                  rintro e w15 ⟨S15, v15, rfl, t15, p15, s15⟩
                  rcases t15 with ⟨_, rfl⟩ | ⟨q, _⟩
                  rotate_left
                  · exact absurd rfl q
                  have L15 := hide (LST.out.step p15 s15)
                  have N15 := hide (NST.out.step s15)
                  clear KG p15 s15 LST NST cX cN fN
                  go_wp2_with fail
                  go_loopw [18] (fun iv wq => ∃ q : Nat, iv = .int .i64 ((5 + 2 * q : Nat) : Int) ∧ q ≤ 4 ∧ Below w15.heap.size w15 wq) (fun iv _ => (20 - (intOf iv).toNat))
                  case atStart => exact ⟨0, rfl, by decide, Below.refl _ _⟩
                  case round =>
                    obtain ⟨q, rfl, hq4, hBq⟩ := hrel
                    have HBq := hide hBq
                    clear hBq
                    by_cases hq : q < 4
                    · obtain ⟨K, hK⟩ : ∃ K, K = 5 + 2 * q := ⟨_, rfl⟩
                      have RQ := R6.out.read q hq
                      have LQ := hide (L15.out.below HBq.out)
                      have NQ := hide (N15.out.below HBq.out)
                      have KR := read_twin LQ.out.dev ((5 + 2 * q : Nat) : Int) (by rw [R6.out.run.pend]; decide)
                      rw [RQ.1, RQ.2] at KR
                      rw [← hK] at KR ⊢
                      have hdd : decide ((K : Int) ≤ 11) = true := by simp; omega
                      have hK2 : K ≤ 11 := by omega
                      have HK := hide hK
                      clear hK RQ
                      go_wp2_with fail
                      refine KR.mono ?_
                      rintro e w16 ⟨v16, x16, rfl, t16, o16, b16⟩
                      rcases t16 with ⟨_, rfl⟩ | ⟨q, _⟩
                      rotate_left
                      · exact absurd rfl q
                      rcases o16 with ⟨q, _⟩ | ⟨_, hYL, gy, rfl, hgy, o16⟩
                      · exact absurd rfl q
                      have DR : Below w16.heap.size w16 w16.drew := (Below.refl _ _).drew
                      have AY := (Apart.new LQ.out.dev o16 hgy).below DR
                      have cY := AY.conv 1024
                      rw [hYL] at cY
                      have cM := ((NQ.out.below b16).below DR).cell q hq
                      rw [← HK.out] at cM
                      have BQ := hide (bnext (bnext HBq.out b16 (Nat.le_refl _)) DR (Nat.le_refl _))
                      generalize strOf (updP pg jj (pg jj) q) = SY at *
                      clear KR o16 hgy b16 LQ NQ AY hYL HBq
                      go_upto_region 34 with fail
                      refine wp_region_held_drew (S := fun wq => (convert 22 9 (.slice (some ⟨gy, 0, none⟩) 1024 1024)).run Try.prog wq = .ok (.string SY) wq ∧ wq.cell? ⟨nb, K, none⟩ = some (.string SY)) (by kernel_rfl) ⟨cY, cM⟩ (fun hS => ?_)
                      clear DR cY cM
                      generalize w16.drew = w17 at *
                      refine take_at 0 (some 149) (v := ?_) rfl rfl (by kernel_rfl) (by kernel_rfl) (by kernel_rfl) (fun _ _ _ h => h) ⟨by rfl, ?_⟩ hS ?_
                      rotate_left
                      · intro wq hSw; obtain ⟨y0, y1⟩ := hSw; go_simp; try rfl
                      simp only [Act.put, List.setIfInBounds_toArray, List.set_cons_zero, List.set_cons_succ]
                      refine take_at 1 (some 150) (v := ?_) rfl rfl (by kernel_rfl) (by kernel_rfl) (by kernel_rfl) (fun _ _ _ h => h) ⟨by rfl, ?_⟩ hS ?_
                      rotate_left
                      · intro wq hSw; obtain ⟨y0, y1⟩ := hSw; go_simp; try rfl
                      simp only [Act.put, List.setIfInBounds_toArray, List.set_cons_zero, List.set_cons_succ]
                      refine take_at 2 (some 151) (v := ?_) rfl rfl (by kernel_rfl) (by kernel_rfl) (by kernel_rfl) (fun _ _ _ h => h) ⟨by rfl, ?_⟩ hS ?_
                      rotate_left
                      · intro wq hSw; obtain ⟨y0, y1⟩ := hSw; go_simp; try rfl
                      simp only [Act.put, List.setIfInBounds_toArray, List.set_cons_zero, List.set_cons_succ]
                      refine take_at 3 (some 152) (v := ?_) rfl rfl (by kernel_rfl) (by kernel_rfl) (by kernel_rfl) (fun _ _ _ h => h) ⟨by rfl, ?_⟩ hS ?_
                      rotate_left
                      · intro wq hSw; obtain ⟨y0, y1⟩ := hSw; go_simp; try rfl
                      simp only [Act.put, List.setIfInBounds_toArray, List.set_cons_zero, List.set_cons_succ]
                      refine take_at 4 (some 153) (v := ?_) rfl rfl (by kernel_rfl) (by kernel_rfl) (by kernel_rfl) (fun _ _ _ h => h) ⟨by rfl, ?_⟩ hS ?_
                      rotate_left
                      · intro wq hSw; obtain ⟨y0, y1⟩ := hSw; go_simp; try rfl
                      simp only [Act.put, List.setIfInBounds_toArray, List.set_cons_zero, List.set_cons_succ]
                      refine take_at 5 (some 154) (v := ?_) rfl rfl (by kernel_rfl) (by kernel_rfl) (by kernel_rfl) (fun _ _ _ h => h) ⟨by rfl, ?_⟩ hS ?_
                      rotate_left
                      · intro wq hSw; obtain ⟨y0, y1⟩ := hSw; go_simp; try rfl
                      simp only [Act.put, List.setIfInBounds_toArray, List.set_cons_zero, List.set_cons_succ]
                      refine take_at 6 (some 155) (v := ?_) rfl rfl (by kernel_rfl) (by kernel_rfl) (by kernel_rfl) (fun _ _ _ h => h) ⟨by rfl, ?_⟩ hS ?_
                      rotate_left
                      · intro wq hSw; obtain ⟨y0, y1⟩ := hSw; go_simp; rw [if_pos (by omega)]; try rfl
                      simp only [Act.put, List.setIfInBounds_toArray, List.set_cons_zero, List.set_cons_succ]
                      refine take_at 7 (some 156) (v := ?_) rfl rfl (by kernel_rfl) (by kernel_rfl) (by kernel_rfl) (fun _ _ _ h => h) ⟨by rfl, ?_⟩ hS ?_
                      rotate_left
                      · intro wq hSw; obtain ⟨y0, y1⟩ := hSw; go_simp; try rfl
                      simp only [Act.put, List.setIfInBounds_toArray, List.set_cons_zero, List.set_cons_succ]
                      refine take_at 8 (some 157) (v := ?_) rfl rfl (by kernel_rfl) (by kernel_rfl) (by kernel_rfl) (fun _ _ _ h => h) ⟨by rfl, ?_⟩ hS ?_
                      rotate_left
                      · intro wq hSw; obtain ⟨y0, y1⟩ := hSw; go_simp; try rfl
                      simp only [Act.put, List.setIfInBounds_toArray, List.set_cons_zero, List.set_cons_succ]
                      refine take_at 9 (some 158) (v := ?_) rfl rfl (by kernel_rfl) (by kernel_rfl) (by kernel_rfl) (fun _ _ _ h => h) ⟨by rfl, ?_⟩ hS ?_
                      rotate_left
                      · intro wq hSw; obtain ⟨y0, y1⟩ := hSw; go_simp; try rfl
                      simp only [Act.put, List.setIfInBounds_toArray, List.set_cons_zero, List.set_cons_succ]
                      refine wpAnyH_done (by kernel_rfl) ?_ _
                      go_wp2_with fail
                      go_roundw
                      case rel => exact ⟨q + 1, by rw [HK.out]; congr 1, by omega, BQ.out⟩
                      case measure => have := HK.out; simp [intOf]; omega
                    · obtain rfl : q = 4 := by omega
                      have NXT := hide (show Oft w1 d nb (updP pg jj (pg jj)) (i + 1) wr S15 g11 from ⟨L15.out.below HBq.out, R6.out, by have := R4.out; have := HC8.out; omega, N15.out.below HBq.out, HNB1.out⟩)
                      clear HBq L15 N15
                      go_wp2_with fail
                      go_roundw
                      case rel => ((repeat apply Exists.intro); exact ⟨⟨i + 1, S15, g11, _, by go_num, by omega, by omega, NXT.out⟩, rfl⟩)
                      case measure => simp [intOf]; omega
              · have hx2 := hx.symm
                clear hx
                subst hx2
                go_wp2_with fail
                refine KW.mono ?_
                rintro e w9 ⟨S9, v9, rfl, t9, p9, s9⟩
                rcases t9 with ⟨q, _⟩ | ⟨_, t9⟩
                · exact absurd q (by decide)
                obtain ⟨eb9, rfl, _, _⟩ := t9
                have L9 := hide (L8.out.step p9 s9)
                have N9 := hide (N8.out.step s9)
                have AB9 := hide (AB8.out.step s9)
                have KU := up_any L9.out.dev
                clear KW p9 s9 L8 N8 AB8
                go_wp2_with fail
                refine KU.mono ?_
                rintro e w10 ⟨rfl, p10, k10⟩
                have s10 : Step w9 S9 w10 S9 := Step.of_keep k10
                have L10 := hide (L9.out.step p10 s10)
                have N10 := hide (N9.out.step s10)
                have AB10 := hide (AB9.out.step s10)
                have KFN := finish_twin L10.out.dev 2 (by rw [R2.out]; decide) (by show D.calls ≤ _; have := R3.out; have := HC8.out; omega)
                rw [R1.out] at KFN
                generalize D.up.fnB 2 = fb at *
                generalize D.up.fnD 2 = g11 at *
                clear KU p10 k10 s10 L9 N9 AB9 R1 R2 R3
                go_wp2_with fail
                refine KFN.mono ?_
                rintro e w11 ⟨S11, v11, rfl, t11, p11, s11⟩
                rcases t11 with ⟨_, rfl⟩ | ⟨q, _⟩
                rotate_left
                · exact absurd rfl q
                have L11 := hide (L10.out.step p11 s11)
                have N11 := hide (N10.out.step s11)
                have AB11 := hide (AB10.out.step s11)
                have RR := R5.out.read jj hjj
                rw [← HH.out] at RR
                have hup : updP pg jj PB jj = PB := by unfold updP; rw [if_pos rfl]
                rw [hup] at RR
                have KR := read_twin L11.out.dev (H : Int) (by rw [R5.out.run.pend]; decide)
                rw [RR.1, RR.2] at KR
                clear KFN p11 s11 L10 N10 AB10 RR hup
                go_wp2_with fail
                refine KR.mono ?_
                rintro e w12 ⟨v12, x12, rfl, t12, o12, b12⟩
                rcases t12 with ⟨_, rfl⟩ | ⟨q, _⟩
                rotate_left
                · exact absurd rfl q
                rcases o12 with ⟨q, _⟩ | ⟨_, hXL, gx, rfl, hgx, o12⟩
                · exact absurd rfl q
                have DR : Below w12.heap.size w12 w12.drew := (Below.refl _ _).drew
                have AX12 := hide ((Apart.new L11.out.dev o12 hgx).below DR)
                have L12 := hide ((L11.out.below b12).below DR)
                have N12 := hide ((N11.out.below b12).below DR)
                have AB12 := hide ((AB11.out.below b12).below DR)
                have cX := AX12.out.conv 1024
                rw [hXL] at cX
                have cB := AB12.out.conv 1024
                rw [HPL.out] at cB
                have cN := N12.out.cell jj hjj
                rw [← HH.out] at cN
                obtain ⟨_, fN⟩ := N12.out.any H (by omega)
                have hST := N12.out.set jj hjj PB 4 (updP pg jj PB) (fun i hi => by
                  unfold updP
                  by_cases e : i = jj
                  · exact .inl ⟨e, by rw [if_pos e]⟩
                  · exact .inr ⟨e, hi, by rw [if_neg e]⟩)
                rw [← HH.out] at hST
                have hkk : Keep (fun b => b = nb) w12.drew (w12.drew.setCell ⟨nb, H, none⟩ (.string (strOf PB))) := (Keep.refl (fun b => b = nb) w12.drew).setCell (fun _ => rfl) _
                have LST := hide (show Live w1.heap.size w1 (w12.drew.setCell ⟨nb, H, none⟩ (.string (strOf PB))) S11 d g11 from ⟨L12.out.dev.keep hkk (fun b e => by rw [e]; exact N12.out.out), L12.out.far, L12.out.bel.trans (hkk.below L12.out.size (fun k hk q => by have := HNB1.out; omega)), L12.out.le⟩)
                have NST := hide hST
                obtain ⟨SX, hSX⟩ : ∃ q, q = strOf PB := ⟨_, rfl⟩
                obtain ⟨SP, hSP⟩ : ∃ q, q = strOf PB := ⟨_, rfl⟩
                obtain ⟨SO, hSO⟩ : ∃ q, q = strOf (pg jj) := ⟨_, rfl⟩
                rw [← hSX] at cX LST NST
                rw [← hSP] at cB
                rw [← hSO] at cN
                obtain rfl : SX = SP := by rw [hSX, hSP]
                have R6 := hide (show Four (updP pg jj PB) g11 from R5.out)
                clear KR hXL hgx o12 b12 L11 N11 AB11 L12 N12 AB12 AX12 hST hkk hSX hSP hSO R5
                go_upto_region 24 with fail
                refine wp_region_held_drew (S := fun wq => (convert 22 9 (.slice (some ⟨gx, 0, none⟩) 1024 1024)).run Try.prog wq = .ok (.string SX) wq ∧ (convert 22 9 (.slice (some ⟨gb, 0, none⟩) 1024 1024)).run Try.prog wq = .ok (.string SX) wq ∧ wq.cell? ⟨nb, H, none⟩ = some (.string SO)) (by kernel_rfl) ⟨cX, cB, cN⟩ (fun hS => ?_)
                clear DR
                generalize w12.drew = w13 at *
                refine take_at 0 (some 101) (v := ?_) rfl rfl (by kernel_rfl) (by kernel_rfl) (by kernel_rfl) (fun _ _ _ h => h) ⟨by rfl, ?_⟩ hS ?_
                rotate_left
                · intro wq hSw; obtain ⟨y0, y1, y2⟩ := hSw; go_simp; try rfl
                simp only [Act.put, List.setIfInBounds_toArray, List.set_cons_zero, List.set_cons_succ]
                refine take_at 1 (some 102) (v := ?_) rfl rfl (by kernel_rfl) (by kernel_rfl) (by kernel_rfl) (fun _ _ _ h => h) ⟨by rfl, ?_⟩ hS ?_
                rotate_left
                · intro wq hSw; obtain ⟨y0, y1, y2⟩ := hSw; go_simp; try rfl
                simp only [Act.put, List.setIfInBounds_toArray, List.set_cons_zero, List.set_cons_succ]
                refine take_at 2 (some 103) (v := ?_) rfl rfl (by kernel_rfl) (by kernel_rfl) (by kernel_rfl) (fun _ _ _ h => h) ⟨by rfl, ?_⟩ hS ?_
                rotate_left
                · intro wq hSw; obtain ⟨y0, y1, y2⟩ := hSw; go_simp; try rfl
                simp only [Act.put, List.setIfInBounds_toArray, List.set_cons_zero, List.set_cons_succ]
                refine take_at 3 (some 104) (v := ?_) rfl rfl (by kernel_rfl) (by kernel_rfl) (by kernel_rfl) (fun _ _ _ h => h) ⟨by rfl, ?_⟩ hS ?_
                rotate_left
                · intro wq hSw; obtain ⟨y0, y1, y2⟩ := hSw; go_simp; try rfl
                simp only [Act.put, List.setIfInBounds_toArray, List.set_cons_zero, List.set_cons_succ]
                refine take_at 4 (some 105) (v := ?_) rfl rfl (by kernel_rfl) (by kernel_rfl) (by kernel_rfl) (fun _ _ _ h => h) ⟨by rfl, ?_⟩ hS ?_
                rotate_left
                · intro wq hSw; obtain ⟨y0, y1, y2⟩ := hSw; go_simp; try rfl
                simp only [Act.put, List.setIfInBounds_toArray, List.set_cons_zero, List.set_cons_succ]
                refine take_at 5 (some 106) (v := ?_) rfl rfl (by kernel_rfl) (by kernel_rfl) (by kernel_rfl) (fun _ _ _ h => h) ⟨by rfl, ?_⟩ hS ?_
                rotate_left
                · intro wq hSw; obtain ⟨y0, y1, y2⟩ := hSw; go_simp; try rfl
                simp only [Act.put, List.setIfInBounds_toArray, List.set_cons_zero, List.set_cons_succ]
                refine take_at 6 (some 107) (v := ?_) rfl rfl (by kernel_rfl) (by kernel_rfl) (by kernel_rfl) (fun _ _ _ h => h) ⟨by rfl, ?_⟩ hS ?_
                rotate_left
                · intro wq hSw; obtain ⟨y0, y1, y2⟩ := hSw; go_simp; try rfl
                simp only [Act.put, List.setIfInBounds_toArray, List.set_cons_zero, List.set_cons_succ]
                refine take_at 7 (some 108) (v := ?_) rfl rfl (by kernel_rfl) (by kernel_rfl) (by kernel_rfl) (fun _ _ _ h => h) ⟨by rfl, ?_⟩ hS ?_
                rotate_left
                · intro wq hSw; obtain ⟨y0, y1, y2⟩ := hSw; go_simp; try rfl
                simp only [Act.put, List.setIfInBounds_toArray, List.set_cons_zero, List.set_cons_succ]
                refine take_at 8 (some 109) (v := ?_) rfl rfl (by kernel_rfl) (by kernel_rfl) (by kernel_rfl) (fun _ _ _ h => h) ⟨by rfl, ?_⟩ hS ?_
                rotate_left
                · intro wq hSw; obtain ⟨y0, y1, y2⟩ := hSw; go_simp; try rfl
                simp only [Act.put, List.setIfInBounds_toArray, List.set_cons_zero, List.set_cons_succ]
                refine pass_at 9 (some 110) rfl rfl (by kernel_rfl) (by kernel_rfl) (by kernel_rfl) (fun _ _ _ h => h) (by rfl) hS ?_
                simp only [Act.put, List.setIfInBounds_toArray, List.set_cons_zero, List.set_cons_succ]
                refine pass_at 10 (some 111) rfl rfl (by kernel_rfl) (by kernel_rfl) (by kernel_rfl) (fun _ _ _ h => h) (by rfl) hS ?_
                simp only [Act.put, List.setIfInBounds_toArray, List.set_cons_zero, List.set_cons_succ]
                refine pass_at 11 (some 112) rfl rfl (by kernel_rfl) (by kernel_rfl) (by kernel_rfl) (fun _ _ _ h => h) (by rfl) hS ?_
                simp only [Act.put, List.setIfInBounds_toArray, List.set_cons_zero, List.set_cons_succ]
                refine pass_at 12 (some 113) rfl rfl (by kernel_rfl) (by kernel_rfl) (by kernel_rfl) (fun _ _ _ h => h) (by rfl) hS ?_
                simp only [Act.put, List.setIfInBounds_toArray, List.set_cons_zero, List.set_cons_succ]
                refine pass_at 13 (some 114) rfl rfl (by kernel_rfl) (by kernel_rfl) (by kernel_rfl) (fun _ _ _ h => h) (by rfl) hS ?_
                simp only [Act.put, List.setIfInBounds_toArray, List.set_cons_zero, List.set_cons_succ]
                refine pass_at 14 (some 115) rfl rfl (by kernel_rfl) (by kernel_rfl) (by kernel_rfl) (fun _ _ _ h => h) (by rfl) hS ?_
                simp only [Act.put, List.setIfInBounds_toArray, List.set_cons_zero, List.set_cons_succ]
                refine pass_at 15 (some 116) rfl rfl (by kernel_rfl) (by kernel_rfl) (by kernel_rfl) (fun _ _ _ h => h) (by rfl) hS ?_
                simp only [Act.put, List.setIfInBounds_toArray, List.set_cons_zero, List.set_cons_succ]
                refine pass_at 16 (some 117) rfl rfl (by kernel_rfl) (by kernel_rfl) (by kernel_rfl) (fun _ _ _ h => h) (by rfl) hS ?_
                simp only [Act.put, List.setIfInBounds_toArray, List.set_cons_zero, List.set_cons_succ]
                refine pass_at 17 (some 118) rfl rfl (by kernel_rfl) (by kernel_rfl) (by kernel_rfl) (fun _ _ _ h => h) (by rfl) hS ?_
                simp only [Act.put, List.setIfInBounds_toArray, List.set_cons_zero, List.set_cons_succ]
                refine pass_at 18 (some 119) rfl rfl (by kernel_rfl) (by kernel_rfl) (by kernel_rfl) (fun _ _ _ h => h) (by rfl) hS ?_
                simp only [Act.put, List.setIfInBounds_toArray, List.set_cons_zero, List.set_cons_succ]
                refine pass_at 19 (some 120) rfl rfl (by kernel_rfl) (by kernel_rfl) (by kernel_rfl) (fun _ _ _ h => h) (by rfl) hS ?_
                simp only [Act.put, List.setIfInBounds_toArray, List.set_cons_zero, List.set_cons_succ]
                refine pass_at 20 (some 121) rfl rfl (by kernel_rfl) (by kernel_rfl) (by kernel_rfl) (fun _ _ _ h => h) (by rfl) hS ?_
                simp only [Act.put, List.setIfInBounds_toArray, List.set_cons_zero, List.set_cons_succ]
                refine pass_at 21 (some 122) rfl rfl (by kernel_rfl) (by kernel_rfl) (by kernel_rfl) (fun _ _ _ h => h) (by rfl) hS ?_
                simp only [Act.put, List.setIfInBounds_toArray, List.set_cons_zero, List.set_cons_succ]
                refine take_at 22 (some 123) (v := ?_) rfl rfl (by kernel_rfl) (by kernel_rfl) (by kernel_rfl) (fun _ _ _ h => h) ⟨by rfl, ?_⟩ hS ?_
                rotate_left
                · intro wq hSw; obtain ⟨y0, y1, y2⟩ := hSw; go_simp; try rfl
                simp only [Act.put, List.setIfInBounds_toArray, List.set_cons_zero, List.set_cons_succ]
                refine take_at 23 (some 124) (v := ?_) rfl rfl (by kernel_rfl) (by kernel_rfl) (by kernel_rfl) (fun _ _ _ h => h) ⟨by rfl, ?_⟩ hS ?_
                rotate_left
                · intro wq hSw; obtain ⟨y0, y1, y2⟩ := hSw; go_simp; try rfl
                simp only [Act.put, List.setIfInBounds_toArray, List.set_cons_zero, List.set_cons_succ]
                refine wpAnyH_done (by kernel_rfl) ?_ _
                have QQ := R6.out.quiet
                have KG := finish_twin LST.out.dev 2 (by rw [R6.out.run.pend]; decide) (by have := R4.out; have := HC8.out; omega)
                rw [QQ.1, QQ.2.1, QQ.2.2] at KG
                clear hS QQ cB
                go_wp2_with fail
                refine KG.mono ?_
                rintro e w15 ⟨S15, v15, rfl, t15, p15, s15⟩
                rcases t15 with ⟨_, rfl⟩ | ⟨q, _⟩
                rotate_left
                · exact absurd rfl q
                have L15 := hide (LST.out.step p15 s15)
                have N15 := hide (NST.out.step s15)
                clear KG p15 s15 LST NST cX cN fN
                go_wp2_with fail
                go_loopw [18] (fun iv wq => ∃ q : Nat, iv = .int .i64 ((5 + 2 * q : Nat) : Int) ∧ q ≤ 4 ∧ Below w15.heap.size w15 wq) (fun iv _ => (20 - (intOf iv).toNat))
                case atStart => exact ⟨0, rfl, by decide, Below.refl _ _⟩
                case round =>
                  obtain ⟨q, rfl, hq4, hBq⟩ := hrel
                  have HBq := hide hBq
                  clear hBq
                  by_cases hq : q < 4
                  · obtain ⟨K, hK⟩ : ∃ K, K = 5 + 2 * q := ⟨_, rfl⟩
                    have RQ := R6.out.read q hq
                    have LQ := hide (L15.out.below HBq.out)
                    have NQ := hide (N15.out.below HBq.out)
                    have KR := read_twin LQ.out.dev ((5 + 2 * q : Nat) : Int) (by rw [R6.out.run.pend]; decide)
                    rw [RQ.1, RQ.2] at KR
                    rw [← hK] at KR ⊢
                    have hdd : decide ((K : Int) ≤ 11) = true := by simp; omega
                    have hK2 : K ≤ 11 := by omega
                    have HK := hide hK
                    clear hK RQ
                    go_wp2_with fail
                    refine KR.mono ?_
                    rintro e w16 ⟨v16, x16, rfl, t16, o16, b16⟩
                    rcases t16 with ⟨_, rfl⟩ | ⟨q, _⟩
                    rotate_left
                    · exact absurd rfl q
                    rcases o16 with ⟨q, _⟩ | ⟨_, hYL, gy, rfl, hgy, o16⟩
                    · exact absurd rfl q
                    have DR : Below w16.heap.size w16 w16.drew := (Below.refl _ _).drew
                    have AY := (Apart.new LQ.out.dev o16 hgy).below DR
                    have cY := AY.conv 1024
                    rw [hYL] at cY
                    have cM := ((NQ.out.below b16).below DR).cell q hq
                    rw [← HK.out] at cM
                    have BQ := hide (bnext (bnext HBq.out b16 (Nat.le_refl _)) DR (Nat.le_refl _))
                    generalize strOf (updP pg jj PB q) = SY at *
                    clear KR o16 hgy b16 LQ NQ AY hYL HBq
                    go_upto_region 34 with fail
                    refine wp_region_held_drew (S := fun wq => (convert 22 9 (.slice (some ⟨gy, 0, none⟩) 1024 1024)).run Try.prog wq = .ok (.string SY) wq ∧ wq.cell? ⟨nb, K, none⟩ = some (.string SY)) (by kernel_rfl) ⟨cY, cM⟩ (fun hS => ?_)
                    clear DR cY cM
                    generalize w16.drew = w17 at *
                    refine take_at 0 (some 149) (v := ?_) rfl rfl (by kernel_rfl) (by kernel_rfl) (by kernel_rfl) (fun _ _ _ h => h) ⟨by rfl, ?_⟩ hS ?_
                    rotate_left
                    · intro wq hSw; obtain ⟨y0, y1⟩ := hSw; go_simp; try rfl
                    simp only [Act.put, List.setIfInBounds_toArray, List.set_cons_zero, List.set_cons_succ]
                    refine take_at 1 (some 150) (v := ?_) rfl rfl (by kernel_rfl) (by kernel_rfl) (by kernel_rfl) (fun _ _ _ h => h) ⟨by rfl, ?_⟩ hS ?_
                    rotate_left
                    · intro wq hSw; obtain ⟨y0, y1⟩ := hSw; go_simp; try rfl
                    simp only [Act.put, List.setIfInBounds_toArray, List.set_cons_zero, List.set_cons_succ]
                    refine take_at 2 (some 151) (v := ?_) rfl rfl (by kernel_rfl) (by kernel_rfl) (by kernel_rfl) (fun _ _ _ h => h) ⟨by rfl, ?_⟩ hS ?_
                    rotate_left
                    · intro wq hSw; obtain ⟨y0, y1⟩ := hSw; go_simp; try rfl
                    simp only [Act.put, List.setIfInBounds_toArray, List.set_cons_zero, List.set_cons_succ]
                    refine take_at 3 (some 152) (v := ?_) rfl rfl (by kernel_rfl) (by kernel_rfl) (by kernel_rfl) (fun _ _ _ h => h) ⟨by rfl, ?_⟩ hS ?_
                    rotate_left
                    · intro wq hSw; obtain ⟨y0, y1⟩ := hSw; go_simp; try rfl
                    simp only [Act.put, List.setIfInBounds_toArray, List.set_cons_zero, List.set_cons_succ]
                    refine take_at 4 (some 153) (v := ?_) rfl rfl (by kernel_rfl) (by kernel_rfl) (by kernel_rfl) (fun _ _ _ h => h) ⟨by rfl, ?_⟩ hS ?_
                    rotate_left
                    · intro wq hSw; obtain ⟨y0, y1⟩ := hSw; go_simp; try rfl
                    simp only [Act.put, List.setIfInBounds_toArray, List.set_cons_zero, List.set_cons_succ]
                    refine take_at 5 (some 154) (v := ?_) rfl rfl (by kernel_rfl) (by kernel_rfl) (by kernel_rfl) (fun _ _ _ h => h) ⟨by rfl, ?_⟩ hS ?_
                    rotate_left
                    · intro wq hSw; obtain ⟨y0, y1⟩ := hSw; go_simp; try rfl
                    simp only [Act.put, List.setIfInBounds_toArray, List.set_cons_zero, List.set_cons_succ]
                    refine take_at 6 (some 155) (v := ?_) rfl rfl (by kernel_rfl) (by kernel_rfl) (by kernel_rfl) (fun _ _ _ h => h) ⟨by rfl, ?_⟩ hS ?_
                    rotate_left
                    · intro wq hSw; obtain ⟨y0, y1⟩ := hSw; go_simp; rw [if_pos (by omega)]; try rfl
                    simp only [Act.put, List.setIfInBounds_toArray, List.set_cons_zero, List.set_cons_succ]
                    refine take_at 7 (some 156) (v := ?_) rfl rfl (by kernel_rfl) (by kernel_rfl) (by kernel_rfl) (fun _ _ _ h => h) ⟨by rfl, ?_⟩ hS ?_
                    rotate_left
                    · intro wq hSw; obtain ⟨y0, y1⟩ := hSw; go_simp; try rfl
                    simp only [Act.put, List.setIfInBounds_toArray, List.set_cons_zero, List.set_cons_succ]
                    refine take_at 8 (some 157) (v := ?_) rfl rfl (by kernel_rfl) (by kernel_rfl) (by kernel_rfl) (fun _ _ _ h => h) ⟨by rfl, ?_⟩ hS ?_
                    rotate_left
                    · intro wq hSw; obtain ⟨y0, y1⟩ := hSw; go_simp; try rfl
                    simp only [Act.put, List.setIfInBounds_toArray, List.set_cons_zero, List.set_cons_succ]
                    refine take_at 9 (some 158) (v := ?_) rfl rfl (by kernel_rfl) (by kernel_rfl) (by kernel_rfl) (fun _ _ _ h => h) ⟨by rfl, ?_⟩ hS ?_
                    rotate_left
                    · intro wq hSw; obtain ⟨y0, y1⟩ := hSw; go_simp; try rfl
                    simp only [Act.put, List.setIfInBounds_toArray, List.set_cons_zero, List.set_cons_succ]
                    refine wpAnyH_done (by kernel_rfl) ?_ _
                    go_wp2_with fail
                    go_roundw
                    case rel => exact ⟨q + 1, by rw [HK.out]; congr 1, by omega, BQ.out⟩
                    case measure => have := HK.out; simp [intOf]; omega
                  · obtain rfl : q = 4 := by omega
                    have NXT := hide (show Oft w1 d nb (updP pg jj PB) (i + 1) wr S15 g11 from ⟨L15.out.below HBq.out, R6.out, by have := R4.out; have := HC8.out; omega, N15.out.below HBq.out, HNB1.out⟩)
                    clear HBq L15 N15
                    go_wp2_with fail
                    go_roundw
                    case rel => ((repeat apply Exists.intro); exact ⟨⟨i + 1, S15, g11, _, by go_num, by omega, by omega, NXT.out⟩, rfl⟩)
                    case measure => simp [intOf]; omega
          · have d2 : decide ((i : Int) < 30) = false := by simp; omega
            have BF := hide (bnext B1.out HO.out.live.bel (Nat.le_refl _))
            clear HO
            go_wp2_with fail
            go_ret
            exact ⟨rfl, BF.out⟩
        · have d1 : decide ((i : Int) < (m0 : Int)) = false := by simp; omega
          have BF := hide (bnext B1.out HO.out.live.bel (Nat.le_refl _))
          clear HO
          go_wp2_with fail
          go_ret
          exact ⟨rfl, BF.out⟩
end Go.Proofs.Ytpddmimacjknfaa
