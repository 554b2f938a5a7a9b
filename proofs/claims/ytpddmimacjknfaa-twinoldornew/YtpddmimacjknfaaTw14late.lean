import Derived.Test.YtpddmimacjknfaaTw13
namespace Go.Proofs.Ytpddmimacjknfaa
open Go.RowKit Go.QK
set_option maxRecDepth 100000

set_option maxHeartbeats 32000000 in
theorem law_late (k : Int) (f : Nat) (s : Int) (l : Loss) (la : Option Addr) (lc : Nat) (a : Option Addr) (m c : Nat) (w : World) (hL : LossAt w l la lc) (hkl : l.keep.length ≤ 17592186044415) (hlow : l.keep ≠ [] → ∀ ad, la = some ad → ad.block < w.heap.size) (hF : FallsAt w a m) (hm : m ≤ maxLen) (hfell : bring s 12 = 11) :
    Calls Try.prog 5 #[.int .i64 k, .int .u8 (f : Int), .agg #[.int .i64 s, .slice la l.keep.length lc, .int .i64 l.torn, .int .i64 l.off], .slice a m c] w fun e w' => e = .returned (.bool true) ∧ Below w.heap.size w w' := by
  obtain ⟨w1, hw1⟩ : ∃ w1, w1 = w.alloc (.cells #[.int .i64 s, .slice la l.keep.length lc, .int .i64 l.torn, .int .i64 l.off] 46) := ⟨_, rfl⟩
  have b1 : Below w.heap.size w w1 := by rw [hw1]; exact alloc_below _ _
  have c1 : Cells w1 w.heap.size [.int .i64 s, .slice la l.keep.length lc, .int .i64 l.torn, .int .i64 l.off] := by rw [hw1]; exact Cells.new w #[.int .i64 s, .slice la l.keep.length lc, .int .i64 l.torn, .int .i64 l.off] 46
  have HW := hide hw1
  have B1 := hide b1
  have C1 := hide c1
  have F1 := hide (hF.below b1)
  have LL1 := hide (hL.below' b1)
  have LO1 := hide (fun q ad e => Nat.lt_of_lt_of_le (hlow q ad e) b1.size)
  have KF := first_any w1
  have HKP := hide (fun f w => page_any f w)
  have HKO := hide (fun w => homeOf_any k w)
  have HST := hide (fun w => step_any s l.torn l.off la l.keep.length lc w)
  have hjj := bring_lt k 4 (by omega)
  have hst := bring_lt s 12 (by omega)
  have HLO := hide hL.ok
  have HKL := hide hkl
  have HM := hide hm
  have hm2 : (m : Int) ≤ 9223372036854775807 := by unfold maxLen at hm; omega
  have hfell' := hide hfell
  obtain ⟨j, hj⟩ : ∃ j, j = bring k 4 := ⟨_, rfl⟩
  obtain ⟨st, hstq⟩ : ∃ st, st = bring s 12 := ⟨_, rfl⟩
  rw [← hj] at HKO hjj
  rw [← hstq] at HST hst hfell'
  obtain ⟨H, hH⟩ : ∃ H, H = 5 + 2 * j := ⟨_, rfl⟩
  rw [← hH] at HKO
  have HH := hide hH
  have hH11 : H ≤ 11 := by omega
  have hH5 : 5 ≤ H := by omega
  clear hw1 b1 c1 hF hL hlow hkl hm hfell hj hstq hH
  go_enter Try.func5, Try.ntmps5
  go_upto_region 1 with fail
  rw [← HW.out]
  clear HW
  obtain ⟨P, hP⟩ : ∃ P, P = w.heap.size := ⟨_, rfl⟩
  rw [← hP] at C1 ⊢
  have HP := hide hP
  clear hP
  go_wp2_with fail
  refine KF.mono ?_
  rintro e w2 ⟨rfl, b2⟩
  have C2 := hide (C1.out.below b2)
  have F2 := hide (F1.out.below b2)
  have LL2 := hide (LL1.out.below' b2)
  have LO2 := hide (fun q ad e => Nat.lt_of_lt_of_le (LO1.out q ad e) b2.size)
  have BB2 := hide (bnext B1.out b2 (Nat.le_refl _))
  clear KF b2 C1 F1 LL1 LO1 B1
  have KS := store_any w2
  go_wp2_with fail
  refine KS.mono ?_
  rintro e w3 ⟨d, S, g, rfl, L3, SH⟩
  have L3 := hide L3
  have SH := hide SH
  clear KS
  go_wp2_with fail
  refine (HKO.out w3).mono ?_
  rintro e w4 ⟨rfl, hw4⟩
  obtain rfl : w3 = w4 := hw4.symm
  clear hw4 HKO
  have hcv : ((H : Int) % 256) = (H : Int) := by omega
  go_wp2_with fail
  refine (HKP.out H w3).mono ?_
  rintro e w4 ⟨gw, rfl, hgw, o4, b4⟩
  have AW4 := hide (Apart.new L3.out.dev o4 hgw)
  have L4 := hide (L3.out.below b4)
  clear L3 o4 b4 hgw hcv
  go_wp2_with fail
  refine (HKP.out f w4).mono ?_
  rintro e w5 ⟨gb, rfl, hgb, o5, b5⟩
  have AB5 := hide (Apart.new L4.out.dev o5 hgb)
  have AW5 := hide (AW4.out.below b5)
  have L5 := hide (L4.out.below b5)
  have C5 := hide (C2.out.below L5.out.bel)
  clear L4 AW4 o5 b5 hgb
  have hWL := pageB_length H
  have hBL := pageB_length f
  obtain ⟨W, hW⟩ : ∃ W, W = pageB H := ⟨_, rfl⟩
  obtain ⟨B, hB⟩ : ∃ B, B = pageB f := ⟨_, rfl⟩
  rw [← hW] at AW5 hWL
  rw [← hB] at AB5 hBL
  have HBA := hide (show AllB B by rw [hB]; exact pageB_allB _)
  have SW := hide (SH.out.write j hjj st (by omega) l HLO.out B hBL HBA.out)
  rw [← HH.out, ← hW] at SW
  have HWL := hide hWL
  have HBL := hide hBL
  clear hW hB hWL hBL
  go_upto_region 9 with fail
  have DR : Below w5.heap.size w5 w5.drew := (Below.refl _ _).drew
  refine wp_region_held_drew (S := fun wq => wq.cell? ⟨P, 0, none⟩ = some (.int .i64 s) ∧ wq.cell? ⟨P, 1, none⟩ = some (.slice la l.keep.length lc) ∧ wq.cell? ⟨P, 2, none⟩ = some (.int .i64 l.torn) ∧ wq.cell? ⟨P, 3, none⟩ = some (.int .i64 l.off)) (by kernel_rfl) ⟨(C5.out.get 0 _ rfl).1, (C5.out.get 1 _ rfl).1, (C5.out.get 2 _ rfl).1, (C5.out.get 3 _ rfl).1⟩ (fun hS => ?_)
  have L6 := hide (L5.out.below DR)
  have AB6 := hide (AB5.out.below DR)
  have AW6 := hide (AW5.out.below DR)
  clear DR L5 AB5 AW5 C5
  generalize w5.drew = w6 at *
  refine take_at 0 (some 39) (v := ?_) rfl rfl (by kernel_rfl) (by kernel_rfl) (by kernel_rfl) (fun _ _ _ h => h) ⟨by rfl, ?_⟩ hS ?_
  rotate_left
  · intro wq hSw; go_simp; try rfl
  simp only [Act.put, List.setIfInBounds_toArray, List.set_cons_zero, List.set_cons_succ]
  refine take_at 1 (some 40) (v := ?_) rfl rfl (by kernel_rfl) (by kernel_rfl) (by kernel_rfl) (fun _ _ _ h => h) ⟨by rfl, ?_⟩ hS ?_
  rotate_left
  · intro wq hSw; obtain ⟨y0, y1, y2, y3⟩ := hSw; go_simp; try rfl
  simp only [Act.put, List.setIfInBounds_toArray, List.set_cons_zero, List.set_cons_succ]
  refine take_at 3 (some 42) (v := ?_) rfl rfl (by kernel_rfl) (by kernel_rfl) (by kernel_rfl) (fun _ _ _ h => h) ⟨by rfl, ?_⟩ hS ?_
  rotate_left
  · intro wq hSw; go_simp; try rfl
  simp only [Act.put, List.setIfInBounds_toArray, List.set_cons_zero, List.set_cons_succ]
  refine take_at 4 (some 43) (v := ?_) rfl rfl (by kernel_rfl) (by kernel_rfl) (by kernel_rfl) (fun _ _ _ h => h) ⟨by rfl, ?_⟩ hS ?_
  rotate_left
  · intro wq hSw; obtain ⟨y0, y1, y2, y3⟩ := hSw; go_simp; try rfl
  simp only [Act.put, List.setIfInBounds_toArray, List.set_cons_zero, List.set_cons_succ]
  refine wpAnyH_ready (rs := [2]) (by kernel_rfl) (by simp) ?_
  refine AllReadyH.cons rfl (fun K hK => ?_) AllReadyH.nil
  go_simp
  go_wp2_with fail
  refine (HST.out w6).mono ?_
  rintro e w7 ⟨rfl, b7⟩
  have L7 := hide (L6.out.below b7)
  have AB7 := hide (AB6.out.below b7)
  have AW7 := hide (AW6.out.below b7)
  have C7 := hide (C2.out.below L7.out.bel)
  have hsz := L7.out.size
  have KA := arm_any L7.out.dev (st : Int) (by omega) l la lc (LL2.out.below' L7.out.bel) (fun q ad e r => by have := LO2.out q ad e; have := L7.out.far _ r; omega) HKL.out
  clear L6 AB6 AW6 b7
  go_wp2_with fail
  refine hK.out _ _ ⟨(C7.out.get 0 _ rfl).1, (C7.out.get 1 _ rfl).1, (C7.out.get 2 _ rfl).1, (C7.out.get 3 _ rfl).1⟩ (fun hS => ?_)
  clear hK K
  (try simp only [Act.put, List.setIfInBounds_toArray, List.set_cons_zero, List.set_cons_succ])
  refine wpAnyH_ready (rs := [5]) (by kernel_rfl) (by simp) ?_
  refine AllReadyH.cons rfl (fun K hK => ?_) AllReadyH.nil
  go_simp
  go_wp2_with fail
  refine KA.mono ?_
  rintro e w8 ⟨S8, rfl, p8, s8⟩
  have L8 := hide (L7.out.step p8 s8)
  have AB8 := hide (AB7.out.step s8)
  have AW8 := hide (AW7.out.step s8)
  have C8 := hide (C2.out.below L8.out.bel)
  clear L7 AB7 AW7 C7 KA p8 s8 hsz
  go_wp2_with fail
  refine hK.out _ _ ⟨(C8.out.get 0 _ rfl).1, (C8.out.get 1 _ rfl).1, (C8.out.get 2 _ rfl).1, (C8.out.get 3 _ rfl).1⟩ (fun hS => ?_)
  clear hK K
  (try simp only [Act.put, List.setIfInBounds_toArray, List.set_cons_zero, List.set_cons_succ])
  obtain ⟨SWF, -, q1, q2⟩ := SW.out
  obtain ⟨m1, m2, m3, m4⟩ := SWF (by have := hfell'.out; omega)
  refine wpAnyH_done (by kernel_rfl) ?_ _
  clear hS SW SWF
  have KW := write_twin L8.out.dev 2 (H : Int) (some ⟨gb, 0, none⟩) B 1024 AB8.out.bytes (fun ad e => by cases e; exact AB8.out.out) (by rw [HBL.out]; decide) HBA.out (by rw [q1]; decide) (by omega)
  rw [m1, HBL.out] at KW
  generalize (g.arm (st : Int) l).twD 2 (H : Int) B = g9 at *
  have M2 := hide m2
  have M3 := hide m3
  have M4 := hide m4
  clear m1 m2 m3 m4 q1 q2 C8
  go_wp2_with fail
  refine KW.mono ?_
  rintro e w9 ⟨S9, v9, rfl, t9, p9, s9⟩
  have L9 := hide (L8.out.step p9 s9)
  have AB9 := hide (AB8.out.step s9)
  have AW9 := hide (AW8.out.step s9)
  clear L8 AB8 AW8 p9 s9 KW
  have C9 := (C2.out.below L9.out.bel)
  obtain ⟨y0, -⟩ := C9.get 0 _ rfl
  obtain ⟨y1, -⟩ := C9.get 1 _ rfl
  obtain ⟨y2, -⟩ := C9.get 2 _ rfl
  obtain ⟨y3, -⟩ := C9.get 3 _ rfl
  clear C9
  rcases t9 with ⟨_, rfl⟩ | ⟨q, _⟩
  rotate_left
  · exact absurd rfl q
  have d1 : decide ((st : Int) ≥ 1) = true := by have := hfell'.out; simp; omega
  have d1' : decide ((1 : Int) ≤ (st : Int)) = true := by have := hfell'.out; simp; omega
  have d2 : decide ((st : Int) ≤ 10) = false := by have := hfell'.out; simp; omega
  go_wp2_with fail
  refine (HST.out w9).mono ?_
  rintro e w10 ⟨rfl, b10⟩
  have L10 := hide (L9.out.below b10)
  have AB10 := hide (AB9.out.below b10)
  have AW10 := hide (AW9.out.below b10)
  have C10 := (C2.out.below L10.out.bel)
  obtain ⟨z0, -⟩ := C10.get 0 _ rfl
  obtain ⟨z1, -⟩ := C10.get 1 _ rfl
  obtain ⟨z2, -⟩ := C10.get 2 _ rfl
  obtain ⟨z3, -⟩ := C10.get 3 _ rfl
  clear C10 L9 AB9 AW9 b10 y0 y1 y2 y3
  go_wp2_with fail
  refine (HST.out w10).mono ?_
  rintro e w11 ⟨rfl, b11⟩
  have L11 := hide (L10.out.below b11)
  have AB11 := hide (AB10.out.below b11)
  have AW11 := hide (AW10.out.below b11)
  clear L10 AB10 AW10 b11 z0 z1 z2 z3
  have KD := down_any L11.out.dev
  rw [M2.out] at KD
  go_wp2_with fail
  refine KD.mono ?_
  rintro e w12 ⟨rfl, hw12⟩
  obtain rfl : w11 = w12 := hw12.symm
  clear hw12 KD
  have KU := up_any L11.out.dev
  go_wp2_with fail
  refine KU.mono ?_
  rintro e w12 ⟨rfl, p12, k12⟩
  have s12 : Step w11 S9 w12 S9 := Step.of_keep k12
  have L12 := hide (L11.out.step p12 s12)
  have AB12 := hide (AB11.out.step s12)
  have AW12 := hide (AW11.out.step s12)
  have HC12 := hide (show g9.up.calls ≤ 50 from M4.out)
  have HL0 := hide (show g9.up.left = 0 from rfl)
  generalize g9.up = g12 at *
  clear KU p12 k12 s12 L11 AB11 AW11 M2 M4
  have R12 := hide (show Rnd w2 d gw gb H (fun i => sector g.img i) W B False True m false 0 w12 S9 g12 from ⟨L12.out, M3.out, nofun, HL0.out, by have := HC12.out; omega, by decide, fun _ => ⟨Nat.zero_le _, by decide⟩, AB12.out, AW12.out⟩)
  have HLIE := hide (show Lie 2 H 13 by rw [HH.out]; exact lie13 j hjj)
  clear L12 AB12 AW12 M3 HL0 HC12 HKP HLO HKL LL2 LO2
  go_wp2_with fail
  go_loopw [16, 17] (fun dv iv wr => ∃ (dn : Bool) (i : Nat) (Sr : Nat → Prop) (gr : Dev), dv = .bool dn ∧ iv = .int .i64 (i : Int) ∧ Rnd w2 d gw gb H (fun i => sector g.img i) W B False True m dn i wr Sr gr) (fun dv iv _ => match dv with | .bool true => 0 | _ => 30 - (intOf iv).toNat)
  case atStart => exact ⟨false, 0, S9, g12, rfl, rfl, R12.out⟩
  case round =>
    obtain ⟨dn, i, Sr, gr, rfl, rfl, hR⟩ := hrel
    have HR := hide hR
    clear hR R12
    cases dn with
    | false =>
      obtain ⟨hi1, hi2⟩ := HR.out.i2 rfl
      by_cases him : i < m
      · have d3 : decide ((i : Int) < (m : Int)) = true := by simp; omega
        by_cases hi20 : i < 20
        · have d4 : decide ((i : Int) < 20) = true := by simp; omega
          obtain ⟨bk, o, si, li, lai, lci, rfl, hfa⟩ := F2.out i him
          have FA := hide (hfa.below HR.out.live.bel)
          obtain ⟨u0, u1, u2, u3, -, -, -, -⟩ := FA.out
          have HSI := hide (fun w => step_any si li.torn li.off lai li.keep.length lci w)
          have hsi := bring_lt si 12 (by omega)
          obtain ⟨sti, hsti⟩ : ∃ x, x = bring si 12 := ⟨_, rfl⟩
          rw [← hsti] at HSI hsi
          have HFA2 := hide hfa
          clear hsti hfa
          go_wp2_with fail
          refine (HSI.out wr).mono ?_
          rintro e w13 ⟨rfl, b13⟩
          have L13 := hide (HR.out.live.below b13)
          have AB13 := hide (HR.out.ab.below b13)
          have AW13 := hide (HR.out.aw.below b13)
          have FB := hide (FA.out.below b13)
          obtain ⟨x0, x1, x2, x3, hls, hlw, hsh, -⟩ := FB.out
          have hsz := L13.out.size
          have KA := arm_any L13.out.dev (sti : Int) (by omega) li lai lci hls (fun q ad e r => by have := HFA2.out.low q ad e; have := L13.out.far _ r; omega) hsh
          obtain ⟨a1, a2, a3⟩ := HR.out.half.arm sti (by omega) li hls.ok
          generalize gr.arm (sti : Int) li = g13 at *
          have HA1 := hide a1
          have HA2 := hide a2
          have HA3 := hide a3
          clear a1 a2 a3 hls hlw hsh b13 FA FB u0 u1 u2 u3 HSI HFA2 hsz
          go_wp2_with fail
          refine KA.mono ?_
          rintro e w14 ⟨S14, rfl, p14, s14⟩
          have L14 := hide (L13.out.step p14 s14)
          have AB14 := hide (AB13.out.step s14)
          have AW14 := hide (AW13.out.step s14)
          clear KA L13 AB13 AW13 p14 s14 x0 x1 x2 x3
          have KFN := finish_twin L14.out.dev 2 (by rw [HA1.out.run.pend]; decide) (by have := HA3.out; have := HR.out.calls; have := HR.out.i1; omega)
          have HCL := hide (show g13.calls ≤ 50 + 5 * i by rw [HA3.out]; exact HR.out.calls)
          rcases HA1.out.finish HLIE.out HBL.out HBA.out with ⟨e1, e2, e3⟩ | ⟨e1, e2, e3, e4, e5, e6⟩
          · rw [e1] at KFN
            generalize g13.fnD 2 = g15 at *
            generalize g13.fnB 2 = fb at *
            have E2 := hide e2
            have E3 := hide e3
            clear e1 e2 e3 HA1 HA2 HA3 HR
            go_wp2_with fail
            refine KFN.mono ?_
            rintro e w15 ⟨S15, v15, rfl, t15, p15, s15⟩
            rcases t15 with ⟨_, rfl⟩ | ⟨q, _⟩
            rotate_left
            · exact absurd rfl q
            have L15 := hide (L14.out.step p15 s15)
            have AB15 := hide (AB14.out.step s15)
            have AW15 := hide (AW14.out.step s15)
            have KU := up_any L15.out.dev
            clear L14 AB14 AW14 p15 s15 KFN
            go_wp2_with fail
            refine KU.mono ?_
            rintro e w16 ⟨rfl, p16, k16⟩
            have s16 : Step w15 S15 w16 S15 := Step.of_keep k16
            have NXT := hide (show Rnd w2 d gw gb H (fun i => sector g.img i) W B False True m true (i + 1) w16 S15 g15.up from ⟨L15.out.step p16 s16, E2.out.up.half, fun _ => E2.out.up, rfl, by show g15.calls ≤ _; have := E3.out; have := HCL.out; omega, by omega, nofun, AB15.out.step s16, AW15.out.step s16⟩)
            clear KU p16 k16 s16 L15 AB15 AW15
            go_wp2_with fail
            go_roundw
            case rel => exact ⟨true, i + 1, S15, g15.up, rfl, by go_num, NXT.out⟩
            case measure => simp [intOf]; try omega
          · rw [e1] at KFN
            have hst0 : (((sti : Nat) : Int) == 0) = false := by have := HA2.out; simp; omega
            generalize g13.fnD 2 = g15 at *
            generalize g13.fnB 2 = fb at *
            have E3 := hide e3
            have E4 := hide e4
            have E6 := hide e6
            clear e1 e2 e3 e4 e5 e6 HA1 HA2 HA3 HR
            go_wp2_with fail
            refine KFN.mono ?_
            rintro e w15 ⟨S15, v15, rfl, t15, p15, s15⟩
            rcases t15 with ⟨q, _⟩ | ⟨_, t15⟩
            · exact absurd q (by decide)
            obtain ⟨eb15, rfl, _, c15⟩ := t15
            have KT := told_yes finishS 40 eb15 w15 c15 (by decide)
            have L15 := hide (L14.out.step p15 s15)
            have AB15 := hide (AB14.out.step s15)
            have AW15 := hide (AW14.out.step s15)
            have KD := down_any L15.out.dev
            rw [E3.out] at KD
            have KU := up_any L15.out.dev
            clear L14 AB14 AW14 p15 s15 KFN c15
            go_wp2_with fail
            refine KT.mono ?_
            rintro e w16 ⟨rfl, hw16⟩
            obtain rfl : w15 = w16 := hw16.symm
            clear hw16 KT
            go_wp2_with fail
            refine KD.mono ?_
            rintro e w16 ⟨rfl, hw16⟩
            obtain rfl : w15 = w16 := hw16.symm
            clear hw16 KD
            go_wp2_with fail
            refine KU.mono ?_
            rintro e w16 ⟨rfl, p16, k16⟩
            have s16 : Step w15 S15 w16 S15 := Step.of_keep k16
            have NXT := hide (show Rnd w2 d gw gb H (fun i => sector g.img i) W B False True m false (i + 1) w16 S15 g15.up from ⟨L15.out.step p16 s16, E4.out, nofun, rfl, by show g15.calls ≤ _; have := E6.out; have := HCL.out; omega, by omega, fun _ => ⟨by omega, by omega⟩, AB15.out.step s16, AW15.out.step s16⟩)
            clear KU p16 k16 s16 L15 AB15 AW15
            go_wp2_with fail
            go_roundw
            case rel => exact ⟨false, i + 1, S15, g15.up, rfl, by go_num, NXT.out⟩
            case measure => simp [intOf]; omega
        · have d4 : decide ((i : Int) < 20) = false := by simp; omega
          have L14 := hide HR.out.live
          have AB14 := hide HR.out.ab
          have AW14 := hide HR.out.aw
          have HA1 := hide HR.out.half
          have HA2 := hide HR.out.left
          have HA3 := hide (show gr.calls = gr.calls from rfl)
          have KFN := finish_twin L14.out.dev 2 (by rw [HA1.out.run.pend]; decide) (by have := HA3.out; have := HR.out.calls; have := HR.out.i1; omega)
          have HCL := hide (show gr.calls ≤ 50 + 5 * i by rw [HA3.out]; exact HR.out.calls)
          rcases HA1.out.finish HLIE.out HBL.out HBA.out with ⟨e1, e2, e3⟩ | ⟨e1, e2, e3, e4, e5, e6⟩
          · rw [e1] at KFN
            generalize gr.fnD 2 = g15 at *
            generalize gr.fnB 2 = fb at *
            have E2 := hide e2
            have E3 := hide e3
            clear e1 e2 e3 HA1 HA2 HA3 HR
            go_wp2_with fail
            refine KFN.mono ?_
            rintro e w15 ⟨S15, v15, rfl, t15, p15, s15⟩
            rcases t15 with ⟨_, rfl⟩ | ⟨q, _⟩
            rotate_left
            · exact absurd rfl q
            have L15 := hide (L14.out.step p15 s15)
            have AB15 := hide (AB14.out.step s15)
            have AW15 := hide (AW14.out.step s15)
            have KU := up_any L15.out.dev
            clear L14 AB14 AW14 p15 s15 KFN
            go_wp2_with fail
            refine KU.mono ?_
            rintro e w16 ⟨rfl, p16, k16⟩
            have s16 : Step w15 S15 w16 S15 := Step.of_keep k16
            have NXT := hide (show Rnd w2 d gw gb H (fun i => sector g.img i) W B False True m true (i + 1) w16 S15 g15.up from ⟨L15.out.step p16 s16, E2.out.up.half, fun _ => E2.out.up, rfl, by show g15.calls ≤ _; have := E3.out; have := HCL.out; omega, by omega, nofun, AB15.out.step s16, AW15.out.step s16⟩)
            clear KU p16 k16 s16 L15 AB15 AW15
            go_wp2_with fail
            go_roundw
            case rel => exact ⟨true, i + 1, S15, g15.up, rfl, by go_num, NXT.out⟩
            case measure => simp [intOf]; try omega
          · exact absurd HA2.out e2
      · have d3 : decide ((i : Int) < (m : Int)) = false := by simp; omega
        have L14 := hide HR.out.live
        have AB14 := hide HR.out.ab
        have AW14 := hide HR.out.aw
        have HA1 := hide HR.out.half
        have HA2 := hide HR.out.left
        have HA3 := hide (show gr.calls = gr.calls from rfl)
        have KFN := finish_twin L14.out.dev 2 (by rw [HA1.out.run.pend]; decide) (by have := HA3.out; have := HR.out.calls; have := HR.out.i1; omega)
        have HCL := hide (show gr.calls ≤ 50 + 5 * i by rw [HA3.out]; exact HR.out.calls)
        rcases HA1.out.finish HLIE.out HBL.out HBA.out with ⟨e1, e2, e3⟩ | ⟨e1, e2, e3, e4, e5, e6⟩
        · rw [e1] at KFN
          generalize gr.fnD 2 = g15 at *
          generalize gr.fnB 2 = fb at *
          have E2 := hide e2
          have E3 := hide e3
          clear e1 e2 e3 HA1 HA2 HA3 HR
          go_wp2_with fail
          refine KFN.mono ?_
          rintro e w15 ⟨S15, v15, rfl, t15, p15, s15⟩
          rcases t15 with ⟨_, rfl⟩ | ⟨q, _⟩
          rotate_left
          · exact absurd rfl q
          have L15 := hide (L14.out.step p15 s15)
          have AB15 := hide (AB14.out.step s15)
          have AW15 := hide (AW14.out.step s15)
          have KU := up_any L15.out.dev
          clear L14 AB14 AW14 p15 s15 KFN
          go_wp2_with fail
          refine KU.mono ?_
          rintro e w16 ⟨rfl, p16, k16⟩
          have s16 : Step w15 S15 w16 S15 := Step.of_keep k16
          have NXT := hide (show Rnd w2 d gw gb H (fun i => sector g.img i) W B False True m true (i + 1) w16 S15 g15.up from ⟨L15.out.step p16 s16, E2.out.up.half, fun _ => E2.out.up, rfl, by show g15.calls ≤ _; have := E3.out; have := HCL.out; omega, by omega, nofun, AB15.out.step s16, AW15.out.step s16⟩)
          clear KU p16 k16 s16 L15 AB15 AW15
          go_wp2_with fail
          go_roundw
          case rel => exact ⟨true, i + 1, S15, g15.up, rfl, by go_num, NXT.out⟩
          case measure => simp [intOf]; try omega
        · exact absurd HA2.out e2
    | true =>
      have HWH := hide (HR.out.whole rfl)
      have HC := hide HR.out.calls
      have L20 := hide HR.out.live
      have AB20 := hide HR.out.ab
      have AW20 := hide HR.out.aw
      have hi1 := HR.out.i1
      clear HR
      have RR := HWH.out.run.read (f := H) (by omega)
      have KR := read_twin L20.out.dev (H : Int) (by rw [HWH.out.run.pend]; decide)
      rw [RR.1, RR.2] at KR
      have cvW := fun (w' : World) (S' : Nat → Prop) (h : Apart w' S' gw W) => h.conv 1024
      have cvB := fun (w' : World) (S' : Nat → Prop) (h : Apart w' S' gb B) => h.conv 1024
      have cvXW := fun (w' : World) (S' : Nat → Prop) (q : Nat) (h : Apart w' S' q W) => h.conv 1024
      have cvXB := fun (w' : World) (S' : Nat → Prop) (q : Nat) (h : Apart w' S' q B) => h.conv 1024
      simp only [HWL.out] at cvW cvXW
      simp only [HBL.out] at cvB cvXB
      generalize strOf W = SW at *
      generalize strOf B = SB at *
      have HCW := hide cvW
      have HCB := hide cvB
      have HCXW := hide cvXW
      have HCXB := hide cvXB
      have ROW := hide (show Rows4 H gr by
        have q := HWH.out
        rw [HH.out] at q ⊢
        exact q.rows SH.out hjj)
      have FQ := hide (HWH.out.run.finish_quiet (A := 2) HLIE.out (p := sector gr.img H ++ sector gr.img (H + 1)) ⟨by rcases HWH.out.st with q | q; exact q.1.1; exact q.1.1, rfl⟩)
      have GP := hide HWH.out.run.pend
      clear cvW cvB cvXW cvXB RR
      rcases HWH.out.st with ⟨⟨-, qx⟩, hc⟩ | ⟨⟨-, qx⟩, hc⟩
      · exact hc.elim
      · rw [qx] at KR
        clear qx hc HWH
        go_wp2_with fail
        refine KR.mono ?_
        rintro e w21 ⟨v21, x21, rfl, t21, o21, b21⟩
        rcases t21 with ⟨_, rfl⟩ | ⟨q, _⟩
        rotate_left
        · exact absurd rfl q
        rcases o21 with ⟨q, _⟩ | ⟨_, _, gx, rfl, hgx, o21⟩
        · exact absurd rfl q
        have AX21 := hide (Apart.new L20.out.dev o21 hgx)
        have L21 := hide (L20.out.below b21)
        have AB21 := hide (AB20.out.below b21)
        have AW21 := hide (AW20.out.below b21)
        have ccx := HCXB.out w21 Sr gx AX21.out
        have ccw := HCW.out w21 Sr AW21.out
        have ccb := HCB.out w21 Sr AB21.out
        clear KR o21 hgx b21 L20 AB20 AW20
        clear ccx ccw ccb
        have CC := C2.out.below L21.out.bel
        obtain ⟨y0, -⟩ := CC.get 0 _ rfl
        obtain ⟨y1, -⟩ := CC.get 1 _ rfl
        obtain ⟨y2, -⟩ := CC.get 2 _ rfl
        obtain ⟨y3, -⟩ := CC.get 3 _ rfl
        have ccx := HCXB.out w21 Sr gx AX21.out
        have ccw := HCW.out w21 Sr AW21.out
        have ccb := HCB.out w21 Sr AB21.out
        clear CC
        by_cases hs : SB.toList = SW.toList
        · have KC := calls_any L21.out.dev
          go_wp2_with fail
          refine KC.mono ?_
          rintro e w24 ⟨rfl, hw24⟩
          obtain rfl : w21 = w24 := hw24.symm
          clear hw24 KC ccx ccw ccb
          have FQ2 : gr.fnE 2 = 0 ∧ gr.fnD 2 = gr ∧ gr.fnB 2 = false := FQ.out
          have KG := finish_twin L21.out.dev 2 (by rw [GP.out]; decide) (by have := HC.out; omega)
          rw [FQ2.1, FQ2.2.1, FQ2.2.2] at KG
          clear FQ2
          go_wp2_with fail
          refine KG.mono ?_
          rintro e w24 ⟨S24, v24, rfl, t24, p24, s24⟩
          rcases t24 with ⟨_, rfl⟩ | ⟨q, _⟩
          rotate_left
          · exact absurd rfl q
          have L24 := hide (L21.out.step p24 s24)
          have KC2 := calls_any L24.out.dev
          have KO := others_any L24.out.dev H ROW.out
          clear L21 AX21 AB21 AW21 p24 s24 KG
          go_wp2_with fail
          refine KC2.mono ?_
          rintro e w25 ⟨rfl, hw25⟩
          obtain rfl : w24 = w25 := hw25.symm
          clear hw25 KC2
          go_wp2_with fail
          refine KO.mono ?_
          rintro e w25 ⟨rfl, b25⟩
          have L25 := hide (L24.out.below b25)
          clear KO L24 b25
          go_wp2_with fail
          go_ret
          exact ⟨by simp, bnext BB2.out L25.out.bel (Nat.le_refl _)⟩
        · have KC := calls_any L21.out.dev
          go_wp2_with fail
          refine KC.mono ?_
          rintro e w24 ⟨rfl, hw24⟩
          obtain rfl : w21 = w24 := hw24.symm
          clear hw24 KC ccx ccw ccb
          have FQ2 : gr.fnE 2 = 0 ∧ gr.fnD 2 = gr ∧ gr.fnB 2 = false := FQ.out
          have KG := finish_twin L21.out.dev 2 (by rw [GP.out]; decide) (by have := HC.out; omega)
          rw [FQ2.1, FQ2.2.1, FQ2.2.2] at KG
          clear FQ2
          go_wp2_with fail
          refine KG.mono ?_
          rintro e w24 ⟨S24, v24, rfl, t24, p24, s24⟩
          rcases t24 with ⟨_, rfl⟩ | ⟨q, _⟩
          rotate_left
          · exact absurd rfl q
          have L24 := hide (L21.out.step p24 s24)
          have KC2 := calls_any L24.out.dev
          have KO := others_any L24.out.dev H ROW.out
          clear L21 AX21 AB21 AW21 p24 s24 KG
          go_wp2_with fail
          refine KC2.mono ?_
          rintro e w25 ⟨rfl, hw25⟩
          obtain rfl : w24 = w25 := hw25.symm
          clear hw25 KC2
          go_wp2_with fail
          refine KO.mono ?_
          rintro e w25 ⟨rfl, b25⟩
          have L25 := hide (L24.out.below b25)
          clear KO L24 b25
          go_wp2_with fail
          go_ret
          exact ⟨by simp, bnext BB2.out L25.out.bel (Nat.le_refl _)⟩
end Go.Proofs.Ytpddmimacjknfaa
