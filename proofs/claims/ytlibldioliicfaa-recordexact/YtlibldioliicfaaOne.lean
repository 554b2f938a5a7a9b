import Derived.Test.YtlibldioliicfaaAwake
import Derived.Test.YtlibldioliicfaaTh6
namespace Go.Proofs.Ytlibldioliicfaa
open Go.RowKit Go.QK
set_option maxRecDepth 100000

theorem slice_to (a : Option Addr) (n c k : Nat) (ki : Int) (w : World) (hk : ki = (k : Int)) (h2 : k ≤ c) : (Instr.slice 22 (.slice a n c) none (some (.int .i64 ki)) none).run Try.prog w = .ok (.slice a k c) w := by
  subst hk
  go_simp
theorem numE (n : Nat) (w : World) : Calls Try.prog 9 #[.int .i64 (n : Int)] w fun e w' => e = .returned (.int .i64 (n : Int)) ∧ w' = w := num_any n w

set_option maxHeartbeats 4000000 in
theorem one_small (a0 : Option Addr) (L : List Nat) (cap : Nat) (w : World) (hs : Bytes w a0 L) (hc : L.length ≤ cap) (ha : a0 = none → cap = 0) (hL : L.length ≤ 2000) (hb : AllB L) :
    Calls Try.prog 3 #[.slice a0 L.length cap] w fun e w' => e = .returned (.bool true) ∧ Below w.heap.size w w' := by
  obtain ⟨l, hl⟩ : ∃ l, l = L := ⟨_, rfl⟩
  have hsl : Bytes w a0 l := by rw [hl]; exact hs
  have hbl : AllB l := by rw [hl]; exact hb
  have hll : l.length ≤ 2000 := by rw [hl]; exact hL
  have hl2 : L.length = l.length := by rw [hl]
  have hcl : l.length ≤ cap := by omega
  have HD := hide (fun w' h => decode_any a0 l cap w' h hcl ha (by omega) hbl)
  have HO := hide (fun h => one_form (l := l) hbl h)
  have HE := hide (fun h => dec_err (l := l) h)
  generalize decM l = dm at *
  obtain ⟨r, er⟩ := dm
  have HS := hide hsl
  have HBL := hide hbl
  have hg : decide ((2000 : Int) < (L.length : Int)) = false := by simp; omega
  clear hs hsl hl hbl hb
  rw [hl2]
  rw [hl2] at hg
  clear hl2 hL hc ha
  have LEN := hide hll
  go_enter Try.func3, Try.ntmps3
  go_wp2_with fail
  refine (awake_any _).mono ?_
  rintro e w1 ⟨rfl, b1⟩
  have S1 := hide (Seen.below HS.out b1)
  have B1 := hide b1
  clear b1 HS
  go_wp2_with fail
  refine (HD.out _ S1.out).mono ?_
  rintro e w2 ⟨v2, rfl, o2, b2⟩
  have S2 := hide (Seen.below S1.out b2)
  have B2 := hide (bnext B1.out b2 (Nat.le_refl _))
  obtain ⟨la, da, lc, dc, rfl, ll, dl⟩ := o2.lies
  clear o2 b2 S1 B1
  have HO := hide (fun h => HO.out h)
  have LL := hide ll
  have DL := hide dl
  clear ll dl
  (try simp only at HO HE)
  obtain ⟨q0, q1, q2, q3, q4, q5, q6, q7, q8, q9, q10, q11, q12, q13, q14, q15, q16⟩ := r
  have hr : ∃ r : RecM, r = ⟨q0, q1, q2, q3, q4, q5, q6, q7, q8, q9, q10, q11, q12, q13, q14, q15, q16⟩ := ⟨_, rfl⟩
  go_upto_region 6 with (refine wpList_store36 (RBox.new _ _ _) rfl rfl rfl rfl rfl ?_; intro w3 R3 k3)
  have b3 := newBox k3
  have S3 := hide (Seen.below S2.out b3)
  have B3 := hide (bnext B2.out b3 (Nat.le_refl _))
  have L3 := hide (LL.out.below b3)
  have D3 := hide (DL.out.below b3)
  have R3 := hide R3
  generalize w2.heap.size = b3x at *
  clear b3 k3 S2 B2 LL DL
  go_wp2_with fail
  refine (numE er _).mono ?_
  rintro e w' ⟨rfl, hw⟩
  obtain rfl : w3 = w' := hw.symm
  by_cases he : er = 0
  · subst he
    obtain ⟨g1, g2, g3, g4⟩ := HO.out rfl
    have z0 : ((0 : Nat) : Int) = 0 := rfl
    have ENC := hide (fun w' a b => encode_any ⟨q0, q1, q2, q3, q4, q5, q6, q7, q8, q9, q10, q11, q12, q13, q14, q15, q16⟩ la da lc dc w' a b g2)
    have CHK := hide (fun w' a b => check_any ⟨q0, q1, q2, q3, q4, q5, q6, q7, q8, q9, q10, q11, q12, q13, q14, q15, q16⟩ la da lc dc w' a b)
    have henc : encB ⟨q0, q1, q2, q3, q4, q5, q6, q7, q8, q9, q10, q11, q12, q13, q14, q15, q16⟩ = l := by unfold encB; rw [if_pos g1]; exact g4
    rw [henc] at ENC
    rw [g1] at ENC CHK
    simp only [recC] at ENC CHK
    (try simp only at g3)
    subst g3
    clear g1 g2 g4 henc hr
    go_wp2_with (refine wpList_load36 R3.out rfl rfl ?_)
    refine (ENC.out _ L3.out D3.out).mono ?_
    rintro e w4 ⟨v4, rfl, o4, b4⟩
    obtain ⟨a4, c4, rfl, s4, _⟩ := ownB_form o4
    have T4 := hide s4
    have S4 := hide (Seen.below S3.out b4)
    have B4 := hide (bnext B3.out b4 (Nat.le_refl _))
    have L4 := hide (L3.out.below b4)
    have D4 := hide (D3.out.below b4)
    have R4 := hide (R3.out.below b4)
    clear o4 s4 b4 S3 B3 L3 D3 R3 ENC
    go_wp2_with fail
    refine (numE 0 _).mono ?_
    rintro e w' ⟨rfl, hw⟩
    obtain rfl : w4 = w' := hw.symm
    go_wp2_with (refine wpList_load36g R4.out rfl rfl rfl ?_)
    refine (CHK.out _ L4.out D4.out).mono ?_
    rintro e w5 ⟨rfl, b5⟩
    have T5 := hide (Seen.below T4.out b5)
    have S5 := hide (Seen.below S4.out b5)
    have B5 := hide (bnext B4.out b5 (Nat.le_refl _))
    have R5 := hide (R4.out.below b5)
    clear b5 T4 S4 B4 L4 D4 R4 CHK
    have k0 := (R5.out.cells.get 0 _ rfl).1
    go_wp2_with fail
    refine (numE 0 _).mono ?_
    rintro e w' ⟨rfl, hw⟩
    obtain rfl : w5 = w' := hw.symm
    have SM := same_any a4 a0 l l c4 cap w5 T5.out S5.out HBL.out HBL.out
    rw [decide_eq_true rfl] at SM
    have SM := hide SM
    go_wp2_with fail
    refine SM.out.mono ?_
    rintro e w' ⟨rfl, hw⟩
    obtain rfl : w5 = w' := hw.symm
    go_wp2_with fail
    go_ret
    exact ⟨rfl, B5.out⟩
  · have he1 : ¬ ((er : Int) = 0) := by omega
    have hz := HE.out he
    simp only [zeroR, RecM.mk.injEq] at hz
    obtain ⟨rfl, rfl, rfl, rfl, rfl, rfl, rfl, rfl, rfl, rfl, rfl, rfl, rfl, rfl, rfl, rfl, rfl⟩ := hz
    have SM := hide (fun w' => Same_true zeroR la da none none lc dc 0 0 w' (.inl rfl) (.inl rfl) (.inl rfl) (.inl rfl) (by decide) (by decide))
    simp only [recC, zeroR] at SM
    clear HO HE hr
    go_wp2_with (refine wpList_load36 R3.out rfl rfl ?_)
    refine (SM.out _).mono ?_
    rintro e w4 ⟨rfl, b4⟩
    have B4 := hide (bnext B3.out b4 (Nat.le_refl _))
    clear b4
    go_wp2_with fail
    go_ret
    exact ⟨rfl, B4.out⟩

set_option maxHeartbeats 4000000 in
theorem one_big (a0 : Option Addr) (L : List Nat) (cap : Nat) (w : World) (hs : Bytes w a0 L) (hc : L.length ≤ cap) (ha : a0 = none → cap = 0) (hL : 2000 < L.length) (hb : AllB L) :
    Calls Try.prog 3 #[.slice a0 L.length cap] w fun e w' => e = .returned (.bool true) ∧ Below w.heap.size w w' := by
  obtain ⟨l, hl⟩ : ∃ l, l = L.take 2000 := ⟨_, rfl⟩
  have hsl : Bytes w a0 l := by rw [hl]; exact Bytes.take hs 2000
  have hbl : AllB l := by rw [hl]; exact hb.take 2000
  have hll : l.length ≤ 2000 := by rw [hl]; rw [List.length_take]; omega
  have hl2 : l.length = 2000 := by rw [hl, List.length_take]; omega
  have hcl : l.length ≤ cap := by omega
  have SL := hide (fun w => slice_to a0 L.length cap 2000 2000 w rfl (by omega))
  have HD := hide (fun w' h => decode_any a0 l cap w' h hcl ha (by omega) hbl)
  rw [hl2] at HD
  have HO := hide (fun h => one_form (l := l) hbl h)
  have HE := hide (fun h => dec_err (l := l) h)
  generalize decM l = dm at *
  obtain ⟨r, er⟩ := dm
  have HS := hide hsl
  have HBL := hide hbl
  have hg : decide ((2000 : Int) < (L.length : Int)) = true := by simp; omega
  clear hs hsl hl hbl hb
  clear hL hc ha
  have LEN := hide hll
  go_enter Try.func3, Try.ntmps3
  go_wp2_with fail
  refine (awake_any _).mono ?_
  rintro e w1 ⟨rfl, b1⟩
  have S1 := hide (Seen.below HS.out b1)
  have B1 := hide b1
  clear b1 HS
  have sl := SL.out w1
  go_wp2_with fail
  refine (HD.out _ S1.out).mono ?_
  rintro e w2 ⟨v2, rfl, o2, b2⟩
  have S2 := hide (Seen.below S1.out b2)
  have B2 := hide (bnext B1.out b2 (Nat.le_refl _))
  obtain ⟨la, da, lc, dc, rfl, ll, dl⟩ := o2.lies
  clear o2 b2 S1 B1
  have HO := hide (fun h => HO.out h)
  have LL := hide ll
  have DL := hide dl
  clear ll dl
  (try simp only at HO HE)
  obtain ⟨q0, q1, q2, q3, q4, q5, q6, q7, q8, q9, q10, q11, q12, q13, q14, q15, q16⟩ := r
  have hr : ∃ r : RecM, r = ⟨q0, q1, q2, q3, q4, q5, q6, q7, q8, q9, q10, q11, q12, q13, q14, q15, q16⟩ := ⟨_, rfl⟩
  go_upto_region 6 with (refine wpList_store36 (RBox.new _ _ _) rfl rfl rfl rfl rfl ?_; intro w3 R3 k3)
  have b3 := newBox k3
  have S3 := hide (Seen.below S2.out b3)
  have B3 := hide (bnext B2.out b3 (Nat.le_refl _))
  have L3 := hide (LL.out.below b3)
  have D3 := hide (DL.out.below b3)
  have R3 := hide R3
  generalize w2.heap.size = b3x at *
  clear b3 k3 S2 B2 LL DL
  go_wp2_with fail
  refine (numE er _).mono ?_
  rintro e w' ⟨rfl, hw⟩
  obtain rfl : w3 = w' := hw.symm
  by_cases he : er = 0
  · subst he
    obtain ⟨g1, g2, g3, g4⟩ := HO.out rfl
    have z0 : ((0 : Nat) : Int) = 0 := rfl
    have ENC := hide (fun w' a b => encode_any ⟨q0, q1, q2, q3, q4, q5, q6, q7, q8, q9, q10, q11, q12, q13, q14, q15, q16⟩ la da lc dc w' a b g2)
    have CHK := hide (fun w' a b => check_any ⟨q0, q1, q2, q3, q4, q5, q6, q7, q8, q9, q10, q11, q12, q13, q14, q15, q16⟩ la da lc dc w' a b)
    have henc : encB ⟨q0, q1, q2, q3, q4, q5, q6, q7, q8, q9, q10, q11, q12, q13, q14, q15, q16⟩ = l := by unfold encB; rw [if_pos g1]; exact g4
    rw [henc] at ENC
    rw [g1] at ENC CHK
    simp only [recC] at ENC CHK
    (try simp only at g3)
    subst g3
    clear g1 g2 g4 henc hr
    go_wp2_with (refine wpList_load36 R3.out rfl rfl ?_)
    refine (ENC.out _ L3.out D3.out).mono ?_
    rintro e w4 ⟨v4, rfl, o4, b4⟩
    obtain ⟨a4, c4, rfl, s4, _⟩ := ownB_form o4
    have T4 := hide s4
    have S4 := hide (Seen.below S3.out b4)
    have B4 := hide (bnext B3.out b4 (Nat.le_refl _))
    have L4 := hide (L3.out.below b4)
    have D4 := hide (D3.out.below b4)
    have R4 := hide (R3.out.below b4)
    clear o4 s4 b4 S3 B3 L3 D3 R3 ENC
    go_wp2_with fail
    refine (numE 0 _).mono ?_
    rintro e w' ⟨rfl, hw⟩
    obtain rfl : w4 = w' := hw.symm
    go_wp2_with (refine wpList_load36g R4.out rfl rfl rfl ?_)
    refine (CHK.out _ L4.out D4.out).mono ?_
    rintro e w5 ⟨rfl, b5⟩
    have T5 := hide (Seen.below T4.out b5)
    have S5 := hide (Seen.below S4.out b5)
    have B5 := hide (bnext B4.out b5 (Nat.le_refl _))
    have R5 := hide (R4.out.below b5)
    clear b5 T4 S4 B4 L4 D4 R4 CHK
    have k0 := (R5.out.cells.get 0 _ rfl).1
    go_wp2_with fail
    refine (numE 0 _).mono ?_
    rintro e w' ⟨rfl, hw⟩
    obtain rfl : w5 = w' := hw.symm
    have SM := same_any a4 a0 l l c4 cap w5 T5.out S5.out HBL.out HBL.out
    rw [decide_eq_true rfl] at SM
    rw [hl2] at SM
    have SM := hide SM
    go_wp2_with fail
    refine SM.out.mono ?_
    rintro e w' ⟨rfl, hw⟩
    obtain rfl : w5 = w' := hw.symm
    go_wp2_with fail
    go_ret
    exact ⟨rfl, B5.out⟩
  · have he1 : ¬ ((er : Int) = 0) := by omega
    have hz := HE.out he
    simp only [zeroR, RecM.mk.injEq] at hz
    obtain ⟨rfl, rfl, rfl, rfl, rfl, rfl, rfl, rfl, rfl, rfl, rfl, rfl, rfl, rfl, rfl, rfl, rfl⟩ := hz
    have SM := hide (fun w' => Same_true zeroR la da none none lc dc 0 0 w' (.inl rfl) (.inl rfl) (.inl rfl) (.inl rfl) (by decide) (by decide))
    simp only [recC, zeroR] at SM
    clear HO HE hr
    go_wp2_with (refine wpList_load36 R3.out rfl rfl ?_)
    refine (SM.out _).mono ?_
    rintro e w4 ⟨rfl, b4⟩
    have B4 := hide (bnext B3.out b4 (Nat.le_refl _))
    clear b4
    go_wp2_with fail
    go_ret
    exact ⟨rfl, B4.out⟩

theorem OneForm_any (a0 : Option Addr) (L : List Nat) (cap : Nat) (w : World) (hs : Bytes w a0 L) (hc : L.length ≤ cap) (ha : a0 = none → cap = 0) (hb : AllB L) :
    Calls Try.prog 3 #[.slice a0 L.length cap] w fun e w' => e = .returned (.bool true) ∧ Below w.heap.size w w' := by
  by_cases h : L.length ≤ 2000
  · exact one_small a0 L cap w hs hc ha h hb
  · exact one_big a0 L cap w hs hc ha (by omega) hb
end Go.Proofs.Ytlibldioliicfaa
