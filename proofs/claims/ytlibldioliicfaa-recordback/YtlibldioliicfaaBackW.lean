import Derived.Test.YtlibldioliicfaaCutP
import Derived.Test.YtlibldioliicfaaOwnW
namespace Go.Proofs.Ytlibldioliicfaa
open Go.RowKit Go.QK
set_option maxRecDepth 100000
theorem chk23 {r : RecM} (h1 : 1 ≤ r.kind) (h8 : r.kind ≤ 8) (h : ¬ okB r = true) : chkE r = 23 := by
  unfold chkE
  rw [if_pos (fromB_iff.2 ⟨h1, h8⟩), if_neg h]
theorem encB_bad {r : RecM} (h : chkE r = 23) : encB r = [] := by unfold encB; rw [h]; rfl
theorem bad_delta {r : RecM} (h : hDelta r.kind = false) (hd : r.delta ≠ 0) : ¬ okB r = true := by
  intro q
  simp only [okB, Bool.and_eq_true] at q
  obtain ⟨⟨_, h7⟩, _⟩ := q
  rw [h] at h7
  simp at h7
  exact hd h7
theorem bad_tx {r : RecM} (h : hTx r.kind = false) (hd : r.tx ≠ 0) : ¬ okB r = true := by
  intro q
  simp only [okB, Bool.and_eq_true] at q
  obtain ⟨⟨⟨⟨⟨⟨⟨_, h2⟩, _⟩, _⟩, _⟩, _⟩, _⟩, _⟩ := q
  rw [h] at h2
  exact hd (oneB_no h2)
theorem bad_grp {r : RecM} (h : hFirst r.kind = false) (hd : r.grp ≠ 0) : ¬ okB r = true := by
  intro q
  simp only [okB, Bool.and_eq_true] at q
  obtain ⟨⟨⟨_, h6⟩, _⟩, _⟩ := q
  rw [h] at h6
  simp [firstB] at h6
  omega
/-- A record that came out, as a variable's content may be taken on. -/
theorem RecOut.open {B : Nat} {w : World} {v : Value} {r : RecM} (h : RecOut B w v r) : ∃ (la da : Option Addr) (lc dc : Nat), v = .agg (recC r la lc da dc) ∧ Lies w la (liveCs r.live) ∧ Lies w da (dirtyCs r.dirty) ∧ (la = none → lc = 0 ∧ r.live.length = 0) ∧ (da = none → dc = 0 ∧ r.dirty.length = 0) := by
  obtain ⟨la, da, lc, dc, e, h1, h2, _⟩ := h
  obtain ⟨a1, c1, e1, l1, n1, _, z1, _⟩ := GRow.lies h1
  obtain ⟨a2, c2, e2, l2, n2, _, z2, _⟩ := GRow.lies h2
  cases e1
  cases e2
  exact ⟨la, da, lc, dc, e, l1, l2, fun q => by have := z1 q; omega, fun q => by have := z2 q; omega⟩
set_option maxHeartbeats 8000000 in
theorem back_walk (r : RecM) (la da : Option Addr) (lc dc : Nat) (other : Int) (w : World) (hl : Lies w la (liveCs r.live)) (hd : Lies w da (dirtyCs r.dirty)) (hlc : r.live.length ≤ lc) (hdc : r.dirty.length ≤ dc) (hf : Fits r) :
    Calls Try.prog 5 #[.agg (recC r la lc da dc), .int .i64 other] w fun e w' => e = .returned (.bool true) ∧ Below w.heap.size w w' := by
  have KC := hide (fun w' => cut_any r la da lc dc w' hlc hdc)
  have hfc : Fits (cutR r) := hf
  have KM := hide (fun w' a b => made_any (cutR r) la da lc dc w' a b hfc)
  have LC := hide (hl.takeL 100)
  have DC := hide (hd.takeD 100)
  obtain ⟨lsn, kind, tx, prev, wp, wi, sp, si, delta, id, grp, lo, hi, val, live, dirty, next⟩ := r
  simp only [recC, cutR] at *
  generalize hL2 : List.take 100 live = L2 at *
  generalize hD2 : List.take 100 dirty = D2 at *
  clear hL2 hD2
  have B0 := alloc_below w (.cells #[.int .i64 lsn, .int .i64 kind, .int .i64 tx, .int .i64 prev, .int .i64 wp, .int .i64 wi, .int .i64 sp, .int .i64 si, .int .i64 delta, .int .i64 id, .int .i64 grp, .int .i64 lo, .int .i64 hi, .int .i64 val, .slice la live.length lc, .slice da dirty.length dc, .int .i64 next] 36)
  have R0 := RBox.new w #[.int .i64 lsn, .int .i64 kind, .int .i64 tx, .int .i64 prev, .int .i64 wp, .int .i64 wi, .int .i64 sp, .int .i64 si, .int .i64 delta, .int .i64 id, .int .i64 grp, .int .i64 lo, .int .i64 hi, .int .i64 val, .slice la live.length lc, .slice da dirty.length dc, .int .i64 next] 36
  generalize hw0 : w.alloc (.cells #[.int .i64 lsn, .int .i64 kind, .int .i64 tx, .int .i64 prev, .int .i64 wp, .int .i64 wi, .int .i64 sp, .int .i64 si, .int .i64 delta, .int .i64 id, .int .i64 grp, .int .i64 lo, .int .i64 hi, .int .i64 val, .slice la live.length lc, .slice da dirty.length dc, .int .i64 next] 36) = w0 at *
  have R0 := hide R0
  have HB0 := hide B0
  have LC := hide (LC.out.below B0)
  have DC := hide (DC.out.below B0)
  clear hl hd hlc hdc hf hfc B0
  go_enter Try.func5, Try.ntmps5
  go_upto_region 1 with fail
  clear hw0
  generalize Value.agg #[.int .i64 lsn, .int .i64 kind, .int .i64 tx, .int .i64 prev, .int .i64 wp, .int .i64 wi, .int .i64 sp, .int .i64 si, .int .i64 delta, .int .i64 id, .int .i64 grp, .int .i64 lo, .int .i64 hi, .int .i64 val, .slice la live.length lc, .slice da dirty.length dc, .int .i64 next] = va
  go_wp2_with fail
  refine (awake_any _).mono ?_
  rintro e w1 ⟨rfl, b1⟩
  have R1 := hide (R0.out.below b1)
  have B1 := hide (bnext HB0.out b1 (Nat.le_refl _))
  have LC1 := hide (LC.out.below b1)
  have DC1 := hide (DC.out.below b1)
  clear b1 R0 HB0 LC DC
  go_wp2_with (refine wpList_load36 R1.out rfl rfl ?_)
  refine (KC.out _).mono ?_
  rintro e w2 ⟨rfl, b2⟩
  have B2 := hide (bnext B1.out b2 (Nat.le_refl _))
  have LC2 := hide (LC1.out.below b2)
  have DC2 := hide (DC1.out.below b2)
  clear b2 R1 B1 LC1 DC1 KC
  go_wp2_with fail
  refine (KM.out _ LC2.out DC2.out).mono ?_
  rintro e w3 ⟨v3, r3, rfl, o3, ok3, f3, b3⟩
  have B3 := hide (bnext B2.out b3 (Nat.le_refl _))
  obtain ⟨la3, da3, lc3, dc3, rfl, l3, d3, nl3, nd3⟩ := o3.open
  have hin := okB_in (chkE_ok ok3).2
  have hl32 := hin.ll
  have hd16 := hin.dl
  have hkd := (chkE_ok ok3).1
  have H502 := hide (bytes_502 ok3 f3)
  have HBACK := hide (back ok3 f3)
  have HALL := hide (show AllB (bytesR r3) from allB_forms _)
  have henc : encB r3 = bytesR r3 := by unfold encB; rw [if_pos ok3]
  have henc0 : encB (noLsn r3) = bytesR r3 := by unfold encB; rw [if_pos (chkE0 ok3)]; rfl
  have f30 : Fits (noLsn r3) := f3
  have KE := fun w' a b => encode_any r3 la3 da3 lc3 dc3 w' a b f3
  have KE0 := fun w' la' da' lc' dc' a b => encode_any (noLsn r3) la' da' lc' dc' w' a b f30
  have KK := fun w' a b => check_any r3 la3 da3 lc3 dc3 w' a b
  have KO := fun w' a b => Own_any r3 la3 da3 lc3 dc3 w' a b nl3 nd3 (by omega) (by omega)
  have KS := fun w' la' da' lc' dc' la'' da'' lc'' dc'' a b c d => Same_true (noLsn r3) la' da' la'' da'' lc' dc' lc'' dc'' w' a b c d (show r3.live.length ≤ 1000000 by omega) (show r3.dirty.length ≤ 1000000 by omega)
  rw [henc, ok3] at KE
  rw [henc0, chkE0 ok3] at KE0
  rw [ok3] at KK
  generalize bytesR r3 = bs at *
  have FF := hide f3
  have OKK := hide ok3
  obtain ⟨s0, s1, s2, s3, s4, s5, s6, s7, s8, s9, s10, s11, s12, s13, s14, s15, s16⟩ := r3
  simp only [recC, noLsn] at *
  have L3 := hide l3
  have D3 := hide d3
  have KE := hide KE
  have KE0 := hide KE0
  have KK := hide KK
  have KO := hide KO
  have KS := hide KS
  clear b3 B2 LC2 DC2 KM o3 l3 d3 ok3 f3 f30 henc henc0 hin nl3 nd3
  go_upto_region 4 with (refine wpList_store36 (RBox.new _ _ _) rfl rfl rfl rfl rfl ?_; intro w4 R4 k4)
  have b4 := newBox k4
  have B4 := hide (bnext B3.out b4 (Nat.le_refl _))
  have L4 := hide (L3.out.below b4)
  have D4 := hide (D3.out.below b4)
  have R4 := hide R4
  generalize w3.heap.size = b5 at *
  clear b4 k4 B3 L3 D3
  go_wp2_with (refine wpList_load36 R4.out rfl rfl ?_)
  refine (KE.out _ L4.out D4.out).mono ?_
  rintro e w5 ⟨v5, rfl, o5, b5x⟩
  obtain ⟨a5, c5, rfl, s5, n5, lc5, mc5⟩ := ownB_form o5
  have b5xx := b5x
  have B5 := hide (bnext B4.out b5x (Nat.le_refl _))
  have L5 := hide (L4.out.below b5x)
  have D5 := hide (D4.out.below b5x)
  have R5 := hide (R4.out.below b5x)
  clear b5x B4 L4 D4 R4
  have T5 := hide s5
  clear o5 s5
  have KD := decode_any a5 bs c5 w5 T5.out lc5 n5 (by have := H502.out; omega) HALL.out
  rw [HBACK.out] at KD
  have KD := hide KD
  go_wp2_with fail
  refine KD.out.mono ?_
  rintro e w6 ⟨v6, rfl, o6, b6⟩
  obtain ⟨la6, da6, lc6, dc6, rfl, l6, d6, _⟩ := o6.open
  have b6x := b6
  have B6 := hide (bnext B5.out b6 (Nat.le_refl _))
  have L6 := hide (L5.out.below b6)
  have D6 := hide (D5.out.below b6)
  have R6 := hide (R5.out.below b6)
  clear b6 B5 L5 D5 R5
  have T6 := hide (Seen.below T5.out b6x)
  have X6 := hide l6
  have Y6 := hide d6
  simp only [recC] at *
  clear l6 d6 o6 KD T5
  go_upto_region 6 with (refine wpList_store36 (RBox.new _ _ _) rfl rfl rfl rfl rfl ?_; intro w7 R8 k7)
  have b7 := newBox k7
  have b7x := b7
  have B7 := hide (bnext B6.out b7 (Nat.le_refl _))
  have L7 := hide (L6.out.below b7)
  have D7 := hide (D6.out.below b7)
  have R7 := hide (R6.out.below b7)
  have X7 := hide (X6.out.below b7)
  have Y7 := hide (Y6.out.below b7)
  clear b7 B6 L6 D6 R6 X6 Y6
  have T7 := hide (Seen.below T6.out b7x)
  have Q7 := hide R8
  generalize w6.heap.size = b8 at *
  clear k7 T6 R8
  obtain ⟨g2, g502⟩ := H502.out
  have hlt2 : decide ((bs.length : Int) < 2) = false := by simp; omega
  have hgt5 : decide ((502 : Int) < (bs.length : Int)) = false := by simp; omega
  have z0 : ((0 : Nat) : Int) = 0 := rfl
  go_wp2_with (refine wpList_load36 R7.out rfl rfl ?_)
  refine (KK.out _ L7.out D7.out).mono ?_
  rintro e w8 ⟨rfl, b8x⟩
  have b8xx := b8x
  have B8 := hide (bnext B7.out b8x (Nat.le_refl _))
  have L8 := hide (L7.out.below b8x)
  have D8 := hide (D7.out.below b8x)
  have R8 := hide (R7.out.below b8x)
  have X8 := hide (X7.out.below b8x)
  have Y8 := hide (Y7.out.below b8x)
  have Q8 := hide (Q7.out.below b8x)
  clear b8x B7 L7 D7 R7 X7 Y7 Q7
  have T8 := hide (Seen.below T7.out b8xx)
  clear T7
  go_wp2_with fail
  refine (numN 0 _).mono ?_
  rintro e w' ⟨rfl, hw⟩
  obtain rfl : w8 = w' := hw.symm
  go_wp2_with fail
  refine (numN 0 _).mono ?_
  rintro e w' ⟨rfl, hw⟩
  obtain rfl : w8 = w' := hw.symm
  go_wp2_with fail
  refine (numN 0 _).mono ?_
  rintro e w' ⟨rfl, hw⟩
  obtain rfl : w8 = w' := hw.symm
  go_wp2_with (refine wpList_load36 R8.out rfl rfl ?_)
  refine (KO.out _ L8.out D8.out).mono ?_
  rintro e w9 ⟨v9, rfl, o9, b9⟩
  obtain ⟨la9, da9, lc9, dc9, rfl, l9, d9, _⟩ := o9.open
  have b9x := b9
  have B9 := hide (bnext B8.out b9 (Nat.le_refl _))
  have L9 := hide (L8.out.below b9)
  have D9 := hide (D8.out.below b9)
  have R9 := hide (R8.out.below b9)
  have X9 := hide (X8.out.below b9)
  have Y9 := hide (Y8.out.below b9)
  have Q9 := hide (Q8.out.below b9)
  clear b9 B8 L8 D8 R8 X8 Y8 Q8
  have T9 := hide (Seen.below T8.out b9x)
  have U9 := hide l9
  have V9 := hide d9
  simp only [recC] at *
  clear l9 d9 o9 T8
  go_upto_region 9 with (refine wpList_store36 (RBox.new _ _ _) rfl rfl rfl rfl rfl ?_; intro w10 R10 k10)
  have b10 := (newBox k10).setCell (p := ⟨w9.heap.size, 0, none⟩) (Nat.le_refl _) (.int .i64 0)
  have c0 := R10.cells.get 0 _ rfl
  obtain ⟨c0, f0⟩ := c0
  have P10 := R10.setCell 0 (.int .i64 0)
  simp only [List.setIfInBounds_toArray, List.set_cons_zero] at P10
  have P11 := hide P10
  go_upto_region 10 with fail
  generalize hw11 : w10.setCell ⟨w9.heap.size, 0, none⟩ (.int .i64 0) = w11 at *
  have b10x := b10
  have B11 := hide (bnext B9.out b10 (Nat.le_refl _))
  have L11 := hide (L9.out.below b10)
  have D11 := hide (D9.out.below b10)
  have R11 := hide (R9.out.below b10)
  have X11 := hide (X9.out.below b10)
  have Y11 := hide (Y9.out.below b10)
  have Q11 := hide (Q9.out.below b10)
  have U11 := hide (U9.out.below b10)
  have V11 := hide (V9.out.below b10)
  clear b10 B9 L9 D9 R9 X9 Y9 Q9 U9 V9
  have T11 := hide (Seen.below T9.out b10x)
  generalize w9.heap.size = bx10 at *
  clear hw11 c0 f0 k10 R10 P10 T9
  go_wp2_with (first | refine wpList_load36 Q11.out rfl rfl ?_ | refine wpList_load36 P11.out rfl rfl ?_)
  refine (KS.out _ la6 da6 lc6 dc6 la9 da9 lc9 dc9 X11.out Y11.out U11.out V11.out).mono ?_
  rintro e w12 ⟨rfl, b12⟩
  have b12x := b12
  have B12 := hide (bnext B11.out b12 (Nat.le_refl _))
  have L12 := hide (L11.out.below b12)
  have D12 := hide (D11.out.below b12)
  have R12 := hide (R11.out.below b12)
  have U12 := hide (U11.out.below b12)
  have V12 := hide (V11.out.below b12)
  have P12 := hide (P11.out.below b12)
  clear b12 B11 L11 D11 R11 U11 V11 P11
  have T12 := hide (Seen.below T11.out b12x)
  clear T11
  go_wp2_with (refine wpList_load36 P12.out rfl rfl ?_)
  refine (KE0.out _ la9 da9 lc9 dc9 U12.out V12.out).mono ?_
  rintro e w13 ⟨v13, rfl, o13, b13⟩
  obtain ⟨a13, c13, rfl, s13x, _⟩ := ownB_form o13
  have b13x := b13
  have B13 := hide (bnext B12.out b13 (Nat.le_refl _))
  have L13 := hide (L12.out.below b13)
  have D13 := hide (D12.out.below b13)
  have R13 := hide (R12.out.below b13)
  clear b13 B12 L12 D12 R12
  have T13 := hide (Seen.below T12.out b13x)
  have SM := same_any a5 a13 bs bs c5 c13 w13 T13.out s13x HALL.out HALL.out
  rw [decide_eq_true rfl] at SM
  have SM := hide SM
  clear o13 s13x T12
  go_wp2_with fail
  refine (numN 0 _).mono ?_
  rintro e w' ⟨rfl, hw⟩
  obtain rfl : w13 = w' := hw.symm
  go_wp2_with fail
  refine SM.out.mono ?_
  rintro e w' ⟨rfl, hw⟩
  obtain rfl : w13 = w' := hw.symm
  go_wp2_with (refine wpList_load36 R13.out rfl rfl ?_)
  refine (KO.out _ L13.out D13.out).mono ?_
  rintro e w14 ⟨v14, rfl, o14, b14⟩
  obtain ⟨la14, da14, lc14, dc14, rfl, l14, d14, _⟩ := o14.open
  have b14x := b14
  have B14 := hide (bnext B13.out b14 (Nat.le_refl _))
  have R14 := hide (R13.out.below b14)
  clear b14 B13 R13
  have U14 := hide l14
  have V14 := hide d14
  simp only [recC] at *
  clear l14 d14 o14 T13 SM
  go_upto_region 16 with (refine wpList_store36 (RBox.new _ _ _) rfl rfl rfl rfl rfl ?_; intro w15 R15 k15)
  have b15 := newBox k15
  have q1 := ((R14.out.below b15).cells.get 1 _ rfl).1
  have B15 := hide (bnext B14.out b15 (Nat.le_refl _))
  have Z15 := hide R15
  have LT15 := hide R14.out.lt
  have FF := FF.out
  unfold Fits at FF
  simp only at FF
  generalize hbz : w14.heap.size = bz at *
  have EQ := hide hbz
  have BZ := hide b15
  clear hbz k15 b15 R14 R15 KO KE KE0 KK KS B15 LT15
  rcases kinds5 hkd.1 hkd.2 with q | q | q | q | q
  · subst q
    have c0 := Z15.out.cells.get 8 _ rfl
    obtain ⟨c0, f0⟩ := c0
    have Z16 := Z15.out.setCell 8 (.int .i64 1)
    simp only [List.setIfInBounds_toArray, List.set_cons_zero, List.set_cons_succ] at Z16
    have b16 : Below w14.heap.size w14 (w15.setCell ⟨bz, 8, none⟩ (.int .i64 1)) := (BZ.out.setCell (p := ⟨bz, 8, none⟩) (Nat.le_refl _) (.int .i64 1)).mono (by rw [EQ.out]; exact Nat.le_refl _)
    have U16 := hide (U14.out.below b16)
    have V16 := hide (V14.out.below b16)
    have B16 := hide (bnext B14.out b16 (Nat.le_refl _))
    have OKz : chkE ⟨s0, 1, s2, s3, s4, s5, s6, s7, 1, s9, s10, s11, s12, s13, s14, s15, s16⟩ = 23 := chk23 (by simp) (by simp) (bad_delta (by rfl) (by simp))
    have FZ : Fits ⟨s0, 1, s2, s3, s4, s5, s6, s7, 1, s9, s10, s11, s12, s13, s14, s15, s16⟩ := by
      unfold Fits
      simp only
      omega
    have Z16 := hide Z16
    go_upto_region 26 with fail
    generalize w15.setCell ⟨bz, 8, none⟩ (.int .i64 1) = w16 at *
    have KE := encode_any ⟨s0, 1, s2, s3, s4, s5, s6, s7, 1, s9, s10, s11, s12, s13, s14, s15, s16⟩ la14 da14 lc14 dc14 w16 U16.out V16.out FZ
    rw [encB_bad OKz, OKz] at KE
    simp only [recC] at KE
    have KE := hide KE
    clear c0 f0 b16 q1 Z15
    go_wp2_with (refine wpList_load36 Z16.out rfl rfl ?_)
    refine KE.out.mono ?_
    rintro e w17 ⟨v17, rfl, o17, b17⟩
    obtain ⟨a17, c17, rfl, _⟩ := ownB_form o17
    have Z17 := hide (Z16.out.below b17)
    have KK := check_any ⟨s0, 1, s2, s3, s4, s5, s6, s7, 1, s9, s10, s11, s12, s13, s14, s15, s16⟩ la14 da14 lc14 dc14 w17 (U16.out.below b17) (V16.out.below b17)
    rw [OKz] at KK
    simp only [recC] at KK
    have KK := hide KK
    have B17 := hide (bnext B16.out b17 (Nat.le_refl _))
    clear o17 b17 Z16 KE
    go_wp2_with (refine wpList_load36 Z17.out rfl rfl ?_)
    refine KK.out.mono ?_
    rintro e w18 ⟨rfl, b18⟩
    have B18 := hide (bnext B17.out b18 (Nat.le_refl _))
    clear b18 KK
    have z23 : ((23 : Nat) : Int) = 23 := rfl
    go_wp2_with fail
    refine (numN 23 _).mono ?_
    rintro e w' ⟨rfl, hw⟩
    obtain rfl : w18 = w' := hw.symm
    go_wp2_with fail
    refine (numN 23 _).mono ?_
    rintro e w' ⟨rfl, hw⟩
    obtain rfl : w18 = w' := hw.symm
    go_wp2_with fail
    go_ret
    exact ⟨rfl, B18.out⟩
  · subst q
    have c0 := Z15.out.cells.get 2 _ rfl
    obtain ⟨c0, f0⟩ := c0
    go_wp2_with fail
    refine (rest_any other 1 1000 _ (by omega) (by omega) (by omega)).mono ?_
    rintro e w' ⟨x, rfl, hx, hw⟩
    obtain rfl : w15 = w' := hw.symm
    have Z16 := Z15.out.setCell 2 (.int .i64 x)
    simp only [List.setIfInBounds_toArray, List.set_cons_zero, List.set_cons_succ] at Z16
    have b16 : Below w14.heap.size w14 (w15.setCell ⟨bz, 2, none⟩ (.int .i64 x)) := (BZ.out.setCell (p := ⟨bz, 2, none⟩) (Nat.le_refl _) (.int .i64 x)).mono (by rw [EQ.out]; exact Nat.le_refl _)
    have U16 := hide (U14.out.below b16)
    have V16 := hide (V14.out.below b16)
    have B16 := hide (bnext B14.out b16 (Nat.le_refl _))
    have OKz : chkE ⟨s0, 2, x, s3, s4, s5, s6, s7, s8, s9, s10, s11, s12, s13, s14, s15, s16⟩ = 23 := chk23 (by simp) (by simp) (bad_tx (by rfl) (by simp only; omega))
    have FZ : Fits ⟨s0, 2, x, s3, s4, s5, s6, s7, s8, s9, s10, s11, s12, s13, s14, s15, s16⟩ := by
      unfold Fits
      simp only
      omega
    have Z16 := hide Z16
    go_upto_region 26 with fail
    generalize w15.setCell ⟨bz, 2, none⟩ (.int .i64 x) = w16 at *
    have KE := encode_any ⟨s0, 2, x, s3, s4, s5, s6, s7, s8, s9, s10, s11, s12, s13, s14, s15, s16⟩ la14 da14 lc14 dc14 w16 U16.out V16.out FZ
    rw [encB_bad OKz, OKz] at KE
    simp only [recC] at KE
    have KE := hide KE
    clear c0 f0 b16 q1 Z15
    go_wp2_with (refine wpList_load36 Z16.out rfl rfl ?_)
    refine KE.out.mono ?_
    rintro e w17 ⟨v17, rfl, o17, b17⟩
    obtain ⟨a17, c17, rfl, _⟩ := ownB_form o17
    have Z17 := hide (Z16.out.below b17)
    have KK := check_any ⟨s0, 2, x, s3, s4, s5, s6, s7, s8, s9, s10, s11, s12, s13, s14, s15, s16⟩ la14 da14 lc14 dc14 w17 (U16.out.below b17) (V16.out.below b17)
    rw [OKz] at KK
    simp only [recC] at KK
    have KK := hide KK
    have B17 := hide (bnext B16.out b17 (Nat.le_refl _))
    clear o17 b17 Z16 KE
    go_wp2_with (refine wpList_load36 Z17.out rfl rfl ?_)
    refine KK.out.mono ?_
    rintro e w18 ⟨rfl, b18⟩
    have B18 := hide (bnext B17.out b18 (Nat.le_refl _))
    clear b18 KK
    have z23 : ((23 : Nat) : Int) = 23 := rfl
    go_wp2_with fail
    refine (numN 23 _).mono ?_
    rintro e w' ⟨rfl, hw⟩
    obtain rfl : w18 = w' := hw.symm
    go_wp2_with fail
    refine (numN 23 _).mono ?_
    rintro e w' ⟨rfl, hw⟩
    obtain rfl : w18 = w' := hw.symm
    go_wp2_with fail
    go_ret
    exact ⟨rfl, B18.out⟩
  · rcases q with q | q
    · subst q
      have c0 := Z15.out.cells.get 10 _ rfl
      obtain ⟨c0, f0⟩ := c0
      go_wp2_with fail
      refine (rest_any other 1 1000 _ (by omega) (by omega) (by omega)).mono ?_
      rintro e w' ⟨x, rfl, hx, hw⟩
      obtain rfl : w15 = w' := hw.symm
      have Z16 := Z15.out.setCell 10 (.int .i64 x)
      simp only [List.setIfInBounds_toArray, List.set_cons_zero, List.set_cons_succ] at Z16
      have b16 : Below w14.heap.size w14 (w15.setCell ⟨bz, 10, none⟩ (.int .i64 x)) := (BZ.out.setCell (p := ⟨bz, 10, none⟩) (Nat.le_refl _) (.int .i64 x)).mono (by rw [EQ.out]; exact Nat.le_refl _)
      have U16 := hide (U14.out.below b16)
      have V16 := hide (V14.out.below b16)
      have B16 := hide (bnext B14.out b16 (Nat.le_refl _))
      have OKz : chkE ⟨s0, 3, s2, s3, s4, s5, s6, s7, s8, s9, x, s11, s12, s13, s14, s15, s16⟩ = 23 := chk23 (by simp) (by simp) (bad_grp (by rfl) (by simp only; omega))
      have FZ : Fits ⟨s0, 3, s2, s3, s4, s5, s6, s7, s8, s9, x, s11, s12, s13, s14, s15, s16⟩ := by
        unfold Fits
        simp only
        omega
      have Z16 := hide Z16
      go_upto_region 26 with fail
      generalize w15.setCell ⟨bz, 10, none⟩ (.int .i64 x) = w16 at *
      have KE := encode_any ⟨s0, 3, s2, s3, s4, s5, s6, s7, s8, s9, x, s11, s12, s13, s14, s15, s16⟩ la14 da14 lc14 dc14 w16 U16.out V16.out FZ
      rw [encB_bad OKz, OKz] at KE
      simp only [recC] at KE
      have KE := hide KE
      clear c0 f0 b16 q1 Z15
      go_wp2_with (refine wpList_load36 Z16.out rfl rfl ?_)
      refine KE.out.mono ?_
      rintro e w17 ⟨v17, rfl, o17, b17⟩
      obtain ⟨a17, c17, rfl, _⟩ := ownB_form o17
      have Z17 := hide (Z16.out.below b17)
      have KK := check_any ⟨s0, 3, s2, s3, s4, s5, s6, s7, s8, s9, x, s11, s12, s13, s14, s15, s16⟩ la14 da14 lc14 dc14 w17 (U16.out.below b17) (V16.out.below b17)
      rw [OKz] at KK
      simp only [recC] at KK
      have KK := hide KK
      have B17 := hide (bnext B16.out b17 (Nat.le_refl _))
      clear o17 b17 Z16 KE
      go_wp2_with (refine wpList_load36 Z17.out rfl rfl ?_)
      refine KK.out.mono ?_
      rintro e w18 ⟨rfl, b18⟩
      have B18 := hide (bnext B17.out b18 (Nat.le_refl _))
      clear b18 KK
      have z23 : ((23 : Nat) : Int) = 23 := rfl
      go_wp2_with fail
      refine (numN 23 _).mono ?_
      rintro e w' ⟨rfl, hw⟩
      obtain rfl : w18 = w' := hw.symm
      go_wp2_with fail
      refine (numN 23 _).mono ?_
      rintro e w' ⟨rfl, hw⟩
      obtain rfl : w18 = w' := hw.symm
      go_wp2_with fail
      go_ret
      exact ⟨rfl, B18.out⟩
    · subst q
      have c0 := Z15.out.cells.get 10 _ rfl
      obtain ⟨c0, f0⟩ := c0
      go_wp2_with fail
      refine (rest_any other 1 1000 _ (by omega) (by omega) (by omega)).mono ?_
      rintro e w' ⟨x, rfl, hx, hw⟩
      obtain rfl : w15 = w' := hw.symm
      have Z16 := Z15.out.setCell 10 (.int .i64 x)
      simp only [List.setIfInBounds_toArray, List.set_cons_zero, List.set_cons_succ] at Z16
      have b16 : Below w14.heap.size w14 (w15.setCell ⟨bz, 10, none⟩ (.int .i64 x)) := (BZ.out.setCell (p := ⟨bz, 10, none⟩) (Nat.le_refl _) (.int .i64 x)).mono (by rw [EQ.out]; exact Nat.le_refl _)
      have U16 := hide (U14.out.below b16)
      have V16 := hide (V14.out.below b16)
      have B16 := hide (bnext B14.out b16 (Nat.le_refl _))
      have OKz : chkE ⟨s0, 4, s2, s3, s4, s5, s6, s7, s8, s9, x, s11, s12, s13, s14, s15, s16⟩ = 23 := chk23 (by simp) (by simp) (bad_grp (by rfl) (by simp only; omega))
      have FZ : Fits ⟨s0, 4, s2, s3, s4, s5, s6, s7, s8, s9, x, s11, s12, s13, s14, s15, s16⟩ := by
        unfold Fits
        simp only
        omega
      have Z16 := hide Z16
      go_upto_region 26 with fail
      generalize w15.setCell ⟨bz, 10, none⟩ (.int .i64 x) = w16 at *
      have KE := encode_any ⟨s0, 4, s2, s3, s4, s5, s6, s7, s8, s9, x, s11, s12, s13, s14, s15, s16⟩ la14 da14 lc14 dc14 w16 U16.out V16.out FZ
      rw [encB_bad OKz, OKz] at KE
      simp only [recC] at KE
      have KE := hide KE
      clear c0 f0 b16 q1 Z15
      go_wp2_with (refine wpList_load36 Z16.out rfl rfl ?_)
      refine KE.out.mono ?_
      rintro e w17 ⟨v17, rfl, o17, b17⟩
      obtain ⟨a17, c17, rfl, _⟩ := ownB_form o17
      have Z17 := hide (Z16.out.below b17)
      have KK := check_any ⟨s0, 4, s2, s3, s4, s5, s6, s7, s8, s9, x, s11, s12, s13, s14, s15, s16⟩ la14 da14 lc14 dc14 w17 (U16.out.below b17) (V16.out.below b17)
      rw [OKz] at KK
      simp only [recC] at KK
      have KK := hide KK
      have B17 := hide (bnext B16.out b17 (Nat.le_refl _))
      clear o17 b17 Z16 KE
      go_wp2_with (refine wpList_load36 Z17.out rfl rfl ?_)
      refine KK.out.mono ?_
      rintro e w18 ⟨rfl, b18⟩
      have B18 := hide (bnext B17.out b18 (Nat.le_refl _))
      clear b18 KK
      have z23 : ((23 : Nat) : Int) = 23 := rfl
      go_wp2_with fail
      refine (numN 23 _).mono ?_
      rintro e w' ⟨rfl, hw⟩
      obtain rfl : w18 = w' := hw.symm
      go_wp2_with fail
      refine (numN 23 _).mono ?_
      rintro e w' ⟨rfl, hw⟩
      obtain rfl : w18 = w' := hw.symm
      go_wp2_with fail
      go_ret
      exact ⟨rfl, B18.out⟩
  · rcases q with q | q | q
    · subst q
      have c0 := Z15.out.cells.get 8 _ rfl
      obtain ⟨c0, f0⟩ := c0
      have Z16 := Z15.out.setCell 8 (.int .i64 1)
      simp only [List.setIfInBounds_toArray, List.set_cons_zero, List.set_cons_succ] at Z16
      have b16 : Below w14.heap.size w14 (w15.setCell ⟨bz, 8, none⟩ (.int .i64 1)) := (BZ.out.setCell (p := ⟨bz, 8, none⟩) (Nat.le_refl _) (.int .i64 1)).mono (by rw [EQ.out]; exact Nat.le_refl _)
      have U16 := hide (U14.out.below b16)
      have V16 := hide (V14.out.below b16)
      have B16 := hide (bnext B14.out b16 (Nat.le_refl _))
      have OKz : chkE ⟨s0, 5, s2, s3, s4, s5, s6, s7, 1, s9, s10, s11, s12, s13, s14, s15, s16⟩ = 23 := chk23 (by simp) (by simp) (bad_delta (by rfl) (by simp))
      have FZ : Fits ⟨s0, 5, s2, s3, s4, s5, s6, s7, 1, s9, s10, s11, s12, s13, s14, s15, s16⟩ := by
        unfold Fits
        simp only
        omega
      have Z16 := hide Z16
      go_upto_region 26 with fail
      generalize w15.setCell ⟨bz, 8, none⟩ (.int .i64 1) = w16 at *
      have KE := encode_any ⟨s0, 5, s2, s3, s4, s5, s6, s7, 1, s9, s10, s11, s12, s13, s14, s15, s16⟩ la14 da14 lc14 dc14 w16 U16.out V16.out FZ
      rw [encB_bad OKz, OKz] at KE
      simp only [recC] at KE
      have KE := hide KE
      clear c0 f0 b16 q1 Z15
      go_wp2_with (refine wpList_load36 Z16.out rfl rfl ?_)
      refine KE.out.mono ?_
      rintro e w17 ⟨v17, rfl, o17, b17⟩
      obtain ⟨a17, c17, rfl, _⟩ := ownB_form o17
      have Z17 := hide (Z16.out.below b17)
      have KK := check_any ⟨s0, 5, s2, s3, s4, s5, s6, s7, 1, s9, s10, s11, s12, s13, s14, s15, s16⟩ la14 da14 lc14 dc14 w17 (U16.out.below b17) (V16.out.below b17)
      rw [OKz] at KK
      simp only [recC] at KK
      have KK := hide KK
      have B17 := hide (bnext B16.out b17 (Nat.le_refl _))
      clear o17 b17 Z16 KE
      go_wp2_with (refine wpList_load36 Z17.out rfl rfl ?_)
      refine KK.out.mono ?_
      rintro e w18 ⟨rfl, b18⟩
      have B18 := hide (bnext B17.out b18 (Nat.le_refl _))
      clear b18 KK
      have z23 : ((23 : Nat) : Int) = 23 := rfl
      go_wp2_with fail
      refine (numN 23 _).mono ?_
      rintro e w' ⟨rfl, hw⟩
      obtain rfl : w18 = w' := hw.symm
      go_wp2_with fail
      refine (numN 23 _).mono ?_
      rintro e w' ⟨rfl, hw⟩
      obtain rfl : w18 = w' := hw.symm
      go_wp2_with fail
      go_ret
      exact ⟨rfl, B18.out⟩
    · subst q
      have c0 := Z15.out.cells.get 8 _ rfl
      obtain ⟨c0, f0⟩ := c0
      have Z16 := Z15.out.setCell 8 (.int .i64 1)
      simp only [List.setIfInBounds_toArray, List.set_cons_zero, List.set_cons_succ] at Z16
      have b16 : Below w14.heap.size w14 (w15.setCell ⟨bz, 8, none⟩ (.int .i64 1)) := (BZ.out.setCell (p := ⟨bz, 8, none⟩) (Nat.le_refl _) (.int .i64 1)).mono (by rw [EQ.out]; exact Nat.le_refl _)
      have U16 := hide (U14.out.below b16)
      have V16 := hide (V14.out.below b16)
      have B16 := hide (bnext B14.out b16 (Nat.le_refl _))
      have OKz : chkE ⟨s0, 6, s2, s3, s4, s5, s6, s7, 1, s9, s10, s11, s12, s13, s14, s15, s16⟩ = 23 := chk23 (by simp) (by simp) (bad_delta (by rfl) (by simp))
      have FZ : Fits ⟨s0, 6, s2, s3, s4, s5, s6, s7, 1, s9, s10, s11, s12, s13, s14, s15, s16⟩ := by
        unfold Fits
        simp only
        omega
      have Z16 := hide Z16
      go_upto_region 26 with fail
      generalize w15.setCell ⟨bz, 8, none⟩ (.int .i64 1) = w16 at *
      have KE := encode_any ⟨s0, 6, s2, s3, s4, s5, s6, s7, 1, s9, s10, s11, s12, s13, s14, s15, s16⟩ la14 da14 lc14 dc14 w16 U16.out V16.out FZ
      rw [encB_bad OKz, OKz] at KE
      simp only [recC] at KE
      have KE := hide KE
      clear c0 f0 b16 q1 Z15
      go_wp2_with (refine wpList_load36 Z16.out rfl rfl ?_)
      refine KE.out.mono ?_
      rintro e w17 ⟨v17, rfl, o17, b17⟩
      obtain ⟨a17, c17, rfl, _⟩ := ownB_form o17
      have Z17 := hide (Z16.out.below b17)
      have KK := check_any ⟨s0, 6, s2, s3, s4, s5, s6, s7, 1, s9, s10, s11, s12, s13, s14, s15, s16⟩ la14 da14 lc14 dc14 w17 (U16.out.below b17) (V16.out.below b17)
      rw [OKz] at KK
      simp only [recC] at KK
      have KK := hide KK
      have B17 := hide (bnext B16.out b17 (Nat.le_refl _))
      clear o17 b17 Z16 KE
      go_wp2_with (refine wpList_load36 Z17.out rfl rfl ?_)
      refine KK.out.mono ?_
      rintro e w18 ⟨rfl, b18⟩
      have B18 := hide (bnext B17.out b18 (Nat.le_refl _))
      clear b18 KK
      have z23 : ((23 : Nat) : Int) = 23 := rfl
      go_wp2_with fail
      refine (numN 23 _).mono ?_
      rintro e w' ⟨rfl, hw⟩
      obtain rfl : w18 = w' := hw.symm
      go_wp2_with fail
      refine (numN 23 _).mono ?_
      rintro e w' ⟨rfl, hw⟩
      obtain rfl : w18 = w' := hw.symm
      go_wp2_with fail
      go_ret
      exact ⟨rfl, B18.out⟩
    · subst q
      have c0 := Z15.out.cells.get 8 _ rfl
      obtain ⟨c0, f0⟩ := c0
      have Z16 := Z15.out.setCell 8 (.int .i64 1)
      simp only [List.setIfInBounds_toArray, List.set_cons_zero, List.set_cons_succ] at Z16
      have b16 : Below w14.heap.size w14 (w15.setCell ⟨bz, 8, none⟩ (.int .i64 1)) := (BZ.out.setCell (p := ⟨bz, 8, none⟩) (Nat.le_refl _) (.int .i64 1)).mono (by rw [EQ.out]; exact Nat.le_refl _)
      have U16 := hide (U14.out.below b16)
      have V16 := hide (V14.out.below b16)
      have B16 := hide (bnext B14.out b16 (Nat.le_refl _))
      have OKz : chkE ⟨s0, 7, s2, s3, s4, s5, s6, s7, 1, s9, s10, s11, s12, s13, s14, s15, s16⟩ = 23 := chk23 (by simp) (by simp) (bad_delta (by rfl) (by simp))
      have FZ : Fits ⟨s0, 7, s2, s3, s4, s5, s6, s7, 1, s9, s10, s11, s12, s13, s14, s15, s16⟩ := by
        unfold Fits
        simp only
        omega
      have Z16 := hide Z16
      go_upto_region 26 with fail
      generalize w15.setCell ⟨bz, 8, none⟩ (.int .i64 1) = w16 at *
      have KE := encode_any ⟨s0, 7, s2, s3, s4, s5, s6, s7, 1, s9, s10, s11, s12, s13, s14, s15, s16⟩ la14 da14 lc14 dc14 w16 U16.out V16.out FZ
      rw [encB_bad OKz, OKz] at KE
      simp only [recC] at KE
      have KE := hide KE
      clear c0 f0 b16 q1 Z15
      go_wp2_with (refine wpList_load36 Z16.out rfl rfl ?_)
      refine KE.out.mono ?_
      rintro e w17 ⟨v17, rfl, o17, b17⟩
      obtain ⟨a17, c17, rfl, _⟩ := ownB_form o17
      have Z17 := hide (Z16.out.below b17)
      have KK := check_any ⟨s0, 7, s2, s3, s4, s5, s6, s7, 1, s9, s10, s11, s12, s13, s14, s15, s16⟩ la14 da14 lc14 dc14 w17 (U16.out.below b17) (V16.out.below b17)
      rw [OKz] at KK
      simp only [recC] at KK
      have KK := hide KK
      have B17 := hide (bnext B16.out b17 (Nat.le_refl _))
      clear o17 b17 Z16 KE
      go_wp2_with (refine wpList_load36 Z17.out rfl rfl ?_)
      refine KK.out.mono ?_
      rintro e w18 ⟨rfl, b18⟩
      have B18 := hide (bnext B17.out b18 (Nat.le_refl _))
      clear b18 KK
      have z23 : ((23 : Nat) : Int) = 23 := rfl
      go_wp2_with fail
      refine (numN 23 _).mono ?_
      rintro e w' ⟨rfl, hw⟩
      obtain rfl : w18 = w' := hw.symm
      go_wp2_with fail
      refine (numN 23 _).mono ?_
      rintro e w' ⟨rfl, hw⟩
      obtain rfl : w18 = w' := hw.symm
      go_wp2_with fail
      go_ret
      exact ⟨rfl, B18.out⟩
  · subst q
    have c0 := Z15.out.cells.get 8 _ rfl
    obtain ⟨c0, f0⟩ := c0
    have Z16 := Z15.out.setCell 8 (.int .i64 1)
    simp only [List.setIfInBounds_toArray, List.set_cons_zero, List.set_cons_succ] at Z16
    have b16 : Below w14.heap.size w14 (w15.setCell ⟨bz, 8, none⟩ (.int .i64 1)) := (BZ.out.setCell (p := ⟨bz, 8, none⟩) (Nat.le_refl _) (.int .i64 1)).mono (by rw [EQ.out]; exact Nat.le_refl _)
    have U16 := hide (U14.out.below b16)
    have V16 := hide (V14.out.below b16)
    have B16 := hide (bnext B14.out b16 (Nat.le_refl _))
    have OKz : chkE ⟨s0, 8, s2, s3, s4, s5, s6, s7, 1, s9, s10, s11, s12, s13, s14, s15, s16⟩ = 23 := chk23 (by simp) (by simp) (bad_delta (by rfl) (by simp))
    have FZ : Fits ⟨s0, 8, s2, s3, s4, s5, s6, s7, 1, s9, s10, s11, s12, s13, s14, s15, s16⟩ := by
      unfold Fits
      simp only
      omega
    have Z16 := hide Z16
    go_upto_region 26 with fail
    generalize w15.setCell ⟨bz, 8, none⟩ (.int .i64 1) = w16 at *
    have KE := encode_any ⟨s0, 8, s2, s3, s4, s5, s6, s7, 1, s9, s10, s11, s12, s13, s14, s15, s16⟩ la14 da14 lc14 dc14 w16 U16.out V16.out FZ
    rw [encB_bad OKz, OKz] at KE
    simp only [recC] at KE
    have KE := hide KE
    clear c0 f0 b16 q1 Z15
    go_wp2_with (refine wpList_load36 Z16.out rfl rfl ?_)
    refine KE.out.mono ?_
    rintro e w17 ⟨v17, rfl, o17, b17⟩
    obtain ⟨a17, c17, rfl, _⟩ := ownB_form o17
    have Z17 := hide (Z16.out.below b17)
    have KK := check_any ⟨s0, 8, s2, s3, s4, s5, s6, s7, 1, s9, s10, s11, s12, s13, s14, s15, s16⟩ la14 da14 lc14 dc14 w17 (U16.out.below b17) (V16.out.below b17)
    rw [OKz] at KK
    simp only [recC] at KK
    have KK := hide KK
    have B17 := hide (bnext B16.out b17 (Nat.le_refl _))
    clear o17 b17 Z16 KE
    go_wp2_with (refine wpList_load36 Z17.out rfl rfl ?_)
    refine KK.out.mono ?_
    rintro e w18 ⟨rfl, b18⟩
    have B18 := hide (bnext B17.out b18 (Nat.le_refl _))
    clear b18 KK
    have z23 : ((23 : Nat) : Int) = 23 := rfl
    go_wp2_with fail
    refine (numN 23 _).mono ?_
    rintro e w' ⟨rfl, hw⟩
    obtain rfl : w18 = w' := hw.symm
    go_wp2_with fail
    refine (numN 23 _).mono ?_
    rintro e w' ⟨rfl, hw⟩
    obtain rfl : w18 = w' := hw.symm
    go_wp2_with fail
    go_ret
    exact ⟨rfl, B18.out⟩
end Go.Proofs.Ytlibldioliicfaa
