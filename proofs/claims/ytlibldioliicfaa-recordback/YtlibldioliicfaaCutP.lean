import Derived.Test.YtlibldioliicfaaMade
import Derived.Test.YtlibldioliicfaaAwake
import Derived.Test.YtlibldioliicfaaTh5
namespace Go.Proofs.Ytlibldioliicfaa
open Go.RowKit Go.QK
set_option maxRecDepth 100000
theorem slice_to' (a : Option Addr) (n c k : Nat) (ki : Int) (w : World) (hk : ki = (k : Int)) (h2 : k ≤ c) : (Instr.slice 22 (.slice a n c) none (some (.int .i64 ki)) none).run Try.prog w = .ok (.slice a k c) w := by
  subst hk
  go_simp
theorem numN (n : Nat) (w : World) : Calls Try.prog 9 #[.int .i64 (n : Int)] w fun e w' => e = .returned (.int .i64 (n : Int)) ∧ w' = w := num_any n w
set_option maxHeartbeats 4000000 in
theorem cut_walk (r : RecM) (la da : Option Addr) (lc dc : Nat) (at0 : Int) (am : Option Addr) (M : List Nat) (mc : Nat) (w : World) (hl : Lies w la (liveCs r.live)) (hd : Lies w da (dirtyCs r.dirty)) (hlc : r.live.length ≤ lc) (hdc : r.dirty.length ≤ dc) (hf : Fits r)
    (hm : Bytes w am M) (ham : am = none → mc = 0) (hmb : AllB M) (hml : M.length ≤ 140737488351232) :
    Calls Try.prog 4 #[.agg (recC r la lc da dc), .int .i64 at0, .slice am M.length mc] w fun e w' => e = .returned (.bool true) ∧ Below w.heap.size w w' := by
  have KC := hide (fun w' => cut_any r la da lc dc w' hlc hdc)
  have hfc : Fits (cutR r) := hf
  have KM := hide (fun w' a b => made_any (cutR r) la da lc dc w' a b hfc)
  have LC := hide (hl.takeL 100)
  have DC := hide (hd.takeD 100)
  obtain ⟨lsn, kind, tx, prev, wp, wi, sp, si, delta, id, grp, lo, hi, val, live, dirty, next⟩ := r
  simp only [recC, cutR] at *
  generalize hL2 : List.take 100 live = L2 at *
  generalize hD2 : List.take 100 dirty = D2 at *
  clear hL2 hD2
  have B0 := alloc_below w (.cells #[.int .i64 lsn, .int .i64 kind, .int .i64 tx, .int .i64 prev, .int .i64 wp, .int .i64 wi, .int .i64 sp, .int .i64 si, .int .i64 delta, .int .i64 id, .int .i64 grp, .int .i64 lo, .int .i64 hi, .int .i64 val, .slice la live.length lc, .slice da dirty.length dc, .int .i64 next] 36)
  have R0 := RBox.new w #[.int .i64 lsn, .int .i64 kind, .int .i64 tx, .int .i64 prev, .int .i64 wp, .int .i64 wi, .int .i64 sp, .int .i64 si, .int .i64 delta, .int .i64 id, .int .i64 grp, .int .i64 lo, .int .i64 hi, .int .i64 val, .slice la live.length lc, .slice da dirty.length dc, .int .i64 next] 36
  have S0 := Seen.below hm B0
  generalize hw0 : w.alloc (.cells #[.int .i64 lsn, .int .i64 kind, .int .i64 tx, .int .i64 prev, .int .i64 wp, .int .i64 wi, .int .i64 sp, .int .i64 si, .int .i64 delta, .int .i64 id, .int .i64 grp, .int .i64 lo, .int .i64 hi, .int .i64 val, .slice la live.length lc, .slice da dirty.length dc, .int .i64 next] 36) = w0 at *
  have R0 := hide R0
  have HB0 := hide B0
  have S0 := hide S0
  have LC := hide (LC.out.below B0)
  have DC := hide (DC.out.below B0)
  clear hl hd hlc hdc hf hfc hm B0
  go_enter Try.func4, Try.ntmps4
  go_upto_region 1 with fail
  clear hw0
  generalize Value.agg #[.int .i64 lsn, .int .i64 kind, .int .i64 tx, .int .i64 prev, .int .i64 wp, .int .i64 wi, .int .i64 sp, .int .i64 si, .int .i64 delta, .int .i64 id, .int .i64 grp, .int .i64 lo, .int .i64 hi, .int .i64 val, .slice la live.length lc, .slice da dirty.length dc, .int .i64 next] = va
  go_wp2_with fail
  refine (awake_any _).mono ?_
  rintro e w1 ⟨rfl, b1⟩
  have R1 := hide (R0.out.below b1)
  have B1 := hide (bnext HB0.out b1 (Nat.le_refl _))
  have S1 := hide (Seen.below S0.out b1)
  have LC1 := hide (LC.out.below b1)
  have DC1 := hide (DC.out.below b1)
  clear b1 R0 HB0 S0 LC DC
  go_wp2_with (refine wpList_load36 R1.out rfl rfl ?_)
  refine (KC.out _).mono ?_
  rintro e w2 ⟨rfl, b2⟩
  have B2 := hide (bnext B1.out b2 (Nat.le_refl _))
  have S2 := hide (Seen.below S1.out b2)
  have LC2 := hide (LC1.out.below b2)
  have DC2 := hide (DC1.out.below b2)
  clear b2 R1 B1 S1 LC1 DC1 KC
  go_wp2_with fail
  refine (KM.out _ LC2.out DC2.out).mono ?_
  rintro e w3 ⟨v3, r3, rfl, o3, ok3, f3, b3⟩
  have B3 := hide (bnext B2.out b3 (Nat.le_refl _))
  have S3 := hide (Seen.below S2.out b3)
  obtain ⟨la3, da3, lc3, dc3, rfl, l3, d3⟩ := o3.lies
  have KE := encode_any r3 la3 da3 lc3 dc3 w3 l3 d3 f3
  have henc : encB r3 = bytesR r3 := by unfold encB; rw [if_pos ok3]
  rw [henc, ok3] at KE
  have KE := hide KE
  have H502 := hide (bytes_502 ok3 f3)
  have HCUT := hide (fun k hk => cut_short ok3 f3 (k := k) hk)
  have HMORE := hide (fun m hm => more ok3 f3 (m := m) hm)
  have HALL := hide (show AllB (bytesR r3) from allB_forms _)
  generalize bytesR r3 = bs at *
  clear b3 B2 S2 LC2 DC2 KM o3 l3 d3 ok3 f3 henc
  go_wp2_with fail
  refine KE.out.mono ?_
  rintro e w4 ⟨v4, rfl, o4, b4⟩
  obtain ⟨a4, c4, rfl, s4, n4, lc4, mc4⟩ := ownB_form o4
  have B4 := hide (bnext B3.out b4 (Nat.le_refl _))
  have S4 := hide (Seen.below S3.out b4)
  have T4 := hide s4
  clear b4 B3 S3 KE o4 s4
  obtain ⟨g2, g502⟩ := H502.out
  have z0 : ((0 : Nat) : Int) = 0 := rfl
  have hne : ((bs.length : Int) == 0) = false := beq_eq_false_iff_ne.2 (by omega)
  go_wp2_with fail
  refine (numN 0 _).mono ?_
  rintro e w' ⟨rfl, hw⟩
  obtain rfl : w4 = w' := hw.symm
  have e1 : IntKind.i64.wrap ((bs.length : Int) - 1) = (bs.length : Int) - 1 := by rw [IntKind.wrap_i64]; omega
  go_wp2_with fail
  refine (rest_any at0 0 ((bs.length : Int) - 1) _ (by omega) (by omega) (by omega)).mono ?_
  rintro e w' ⟨ki, rfl, hk, hw⟩
  obtain rfl : w4 = w' := hw.symm
  obtain ⟨k, rfl⟩ := Int.eq_ofNat_of_zero_le hk.1
  have hkl : k < bs.length := by omega
  have sl := fun w => slice_to' a4 bs.length c4 k (k : Int) w rfl (by omega)
  have htl : (bs.take k).length = k := by rw [List.length_take]; omega
  have KD := decode_any a4 (bs.take k) c4 w4 (Bytes.take T4.out k) (by omega) n4 (by omega) (HALL.out.take k)
  rw [HCUT.out k hkl, htl] at KD
  have KD := hide KD
  clear htl
  go_wp2_with fail
  refine KD.out.mono ?_
  rintro e w5 ⟨v5, rfl, o5, b5⟩
  obtain ⟨la5, da5, lc5, dc5, rfl, _⟩ := o5
  have B5 := hide (bnext B4.out b5 (Nat.le_refl _))
  have S5 := hide (Seen.below S4.out b5)
  have T5 := hide (Seen.below T4.out b5)
  clear b5 B4 S4 T4 KD
  go_upto_region 8 with (refine wpList_store36 (RBox.new _ _ _) rfl rfl rfl rfl rfl ?_; intro w6 R6 k6)
  have b6 := newBox k6
  have B6 := hide (bnext B5.out b6 (Nat.le_refl _))
  have S6 := hide (Seen.below S5.out b6)
  have T6 := hide (Seen.below T5.out b6)
  generalize w5.heap.size = bx at *
  clear b6 k6 R6 B5 S5 T5
  go_wp2_with fail
  refine (num_any 20 _).mono ?_
  rintro e w' ⟨rfl, hw⟩
  obtain rfl : w6 = w' := hw.symm
  by_cases hM : M.length = 0
  · have hm0 : ((M.length : Int) == 0) = true := beq_iff_eq.2 (by omega)
    go_upto_region 12 with fail
    have b6 := alloc_below w6 (.cells #[.int .u8 0] 5)
    have B6b := hide (bnext B6.out b6 (Nat.le_refl _))
    have S6b := hide (bytes_lit w6 [0] (by simp))
    have T6b := hide (Seen.below T6.out b6)
    have hgen : ∃ q, q = w6.alloc (.cells #[.int .u8 0] 5) := ⟨_, rfl⟩
    obtain ⟨w6b, hw6b⟩ := hgen
    have S6b : Hid (Bytes w6b (some ⟨w6.heap.size, 0, none⟩) [0]) := by rw [hw6b]; exact S6b
    rw [← hw6b] at B6b T6b ⊢
    clear hw6b b6
    have A0 := Owns.nil .u8 5 w6b w6b.heap.size
    go_wp2_with (at_builtin; refine append_own Try.underlying22 info5 rfl (.const (.slice none 0 0)) (.tmp 51) rfl w6b.heap.size (.slice none 0 0) [] rfl A0 a4 bs.length c4 (ints bs) (by simp) rfl T6b.out n4 ?c1 ?c2 ?c3 ?_)
    case c1 => unfold maxLen; simp; omega
    case c2 => simp; omega
    case c3 => exact Nat.le_refl _
    intro v7 w7 own7 hg7 hv7
    have b7 : Below w6b.heap.size w6b w7 := (Below.refl _ _).grown hg7 (Nat.le_refl _) nofun
    have own7 : OwnB w7 w6b.heap.size v7 bs := by simpa using own7
    have S7 := Seen.below S6b.out b7
    have B7 := bnext B6b.out b7 (Nat.le_refl _)
    have hb7 : w6b.heap.size ≤ w7.heap.size := b7.size
    go_wp2_with (at_builtin; refine append_own Try.underlying22 info5 rfl (.tmp 52) (.tmp 53) rfl w6b.heap.size v7 (ints bs) rfl own7 (some ⟨w6.heap.size, 0, none⟩) 1 1 (ints [0]) (by simp) rfl S7 nofun ?d1 ?d2 ?d3 ?_)
    case d1 => unfold maxLen; simp; omega
    case d2 => simp; omega
    case d3 => exact hb7
    intro v8 w8 own8 hg8 hv8
    have b8 : Below w6b.heap.size w6b w8 := b7.grown hg8 hb7 (fun g q => (World.ownsRow.lt own7 g q).1)
    have own8 : OwnB w8 w6b.heap.size v8 (bs ++ [0]) := by unfold OwnB; rw [ints_append]; exact own8
    obtain ⟨a8, c8, e8, s8, n8, lc8, mc8⟩ := ownB_form own8
    have B8 := hide (bnext B6b.out b8 (Nat.le_refl _))
    have KD8 := decode_any a8 (bs ++ [0]) c8 w8 s8 lc8 n8 (by rw [List.length_append]; simp; omega) (HALL.out.append (allB_of rfl))
    rw [HMORE.out [0] (by simp)] at KD8
    have KD8 := hide KD8
    obtain ⟨len8, hlen8⟩ : ∃ n, n = (bs ++ [0]).length := ⟨_, rfl⟩
    rw [← hlen8] at KD8 e8
    rw [e8]
    clear own7 own8 hg7 hg8 hv7 hv8 b7 b8 S7 B7 s8 lc8 hlen8 e8
    go_wp2_with fail
    refine KD8.out.mono ?_
    rintro e w9 ⟨v9, rfl, o9, b9⟩
    obtain ⟨la9, da9, lc9, dc9, rfl, _⟩ := o9
    have B9 := hide (bnext B8.out b9 (Nat.le_refl _))
    clear b9 B8 KD8
    go_upto_region 13 with (refine wpList_store36 (RBox.new _ _ _) rfl rfl rfl rfl rfl ?_; intro w10 R10 k10)
    have b10 := newBox k10
    have B10 := hide (bnext B9.out b10 (Nat.le_refl _))
    generalize w9.heap.size = by9 at *
    clear b10 k10 R10 B9
    go_wp2_with fail
    refine (num_any 21 _).mono ?_
    rintro e w' ⟨rfl, hw⟩
    obtain rfl : w10 = w' := hw.symm
    go_wp2_with fail
    go_ret
    exact ⟨rfl, B10.out⟩
  · have hm0 : ((M.length : Int) == 0) = false := beq_eq_false_iff_ne.2 (by omega)
    have hMne : M ≠ [] := fun q => hM (by rw [q]; rfl)
    have HNE := hide hMne
    clear hMne
    have hMne := HNE.out
    clear hMne
    have A0 := Owns.nil .u8 5 w6 w6.heap.size
    go_wp2_with (at_builtin; refine append_own Try.underlying22 info5 rfl (.const (.slice none 0 0)) (.tmp 51) rfl w6.heap.size (.slice none 0 0) [] rfl A0 a4 bs.length c4 (ints bs) (by simp) rfl T6.out n4 ?c1 ?c2 ?c3 ?_)
    case c1 => unfold maxLen; simp; omega
    case c2 => simp; omega
    case c3 => exact Nat.le_refl _
    intro v7 w7 own7 hg7 hv7
    have b7 : Below w6.heap.size w6 w7 := (Below.refl _ _).grown hg7 (Nat.le_refl _) nofun
    have own7 : OwnB w7 w6.heap.size v7 bs := by simpa using own7
    have S7 := Seen.below S6.out b7
    have B7 := bnext B6.out b7 (Nat.le_refl _)
    have hb7 : w6.heap.size ≤ w7.heap.size := b7.size
    go_wp2_with (at_builtin; refine append_own Try.underlying22 info5 rfl (.tmp 52) (.tmp 53) rfl w6.heap.size v7 (ints bs) rfl own7 am M.length mc (ints M) (by simp) rfl S7 ham ?d1 ?d2 ?d3 ?_)
    case d1 => unfold maxLen; simp; omega
    case d2 => simp; omega
    case d3 => exact hb7
    intro v8 w8 own8 hg8 hv8
    have b8 : Below w6.heap.size w6 w8 := b7.grown hg8 hb7 (fun g q => (World.ownsRow.lt own7 g q).1)
    have own8 : OwnB w8 w6.heap.size v8 (bs ++ M) := by unfold OwnB; rw [ints_append]; exact own8
    obtain ⟨a8, c8, e8, s8, n8, lc8, mc8⟩ := ownB_form own8
    have B8 := hide (bnext B6.out b8 (Nat.le_refl _))
    have KD8 := decode_any a8 (bs ++ M) c8 w8 s8 lc8 n8 (by rw [List.length_append]; omega) (HALL.out.append hmb)
    rw [HMORE.out M HNE.out] at KD8
    have KD8 := hide KD8
    obtain ⟨len8, hlen8⟩ : ∃ n, n = (bs ++ M).length := ⟨_, rfl⟩
    rw [← hlen8] at KD8 e8
    rw [e8]
    clear own7 own8 hg7 hg8 hv7 hv8 b7 b8 S7 B7 s8 lc8 hlen8 e8
    go_wp2_with fail
    refine KD8.out.mono ?_
    rintro e w9 ⟨v9, rfl, o9, b9⟩
    obtain ⟨la9, da9, lc9, dc9, rfl, _⟩ := o9
    have B9 := hide (bnext B8.out b9 (Nat.le_refl _))
    clear b9 B8 KD8
    go_upto_region 13 with (refine wpList_store36 (RBox.new _ _ _) rfl rfl rfl rfl rfl ?_; intro w10 R10 k10)
    have b10 := newBox k10
    have B10 := hide (bnext B9.out b10 (Nat.le_refl _))
    generalize w9.heap.size = by9 at *
    clear b10 k10 R10 B9
    go_wp2_with fail
    refine (num_any 21 _).mono ?_
    rintro e w' ⟨rfl, hw⟩
    obtain rfl : w10 = w' := hw.symm
    go_wp2_with fail
    go_ret
    exact ⟨rfl, B10.out⟩
end Go.Proofs.Ytlibldioliicfaa
