import Derived.Test.YtlibldioliicfaaBig2
namespace Go.Proofs.Ytlibldioliicfaa
open Go.RowKit Go.QK
set_option maxRecDepth 100000

theorem bytes_lit (w : World) (l : List Nat) (hl : l.length ≤ 1000) : Bytes (w.alloc (.cells ((ints l).map (Value.int .u8)).toArray 5)) (some ⟨w.heap.size, 0, none⟩) l := by
  obtain ⟨a, c, e, s, _⟩ := ownB_form (lit_own w l hl)
  cases e
  exact s
theorem wE1 (w : World) : Calls Try.prog 11 #[.agg #[.int .i64 301, .int .i64 5, .int .i64 5, .int .i64 300, .int .i64 0, .int .i64 0, .int .i64 0, .int .i64 0, .int .i64 0, .int .i64 0, .int .i64 0, .int .i64 0, .int .i64 0, .int .i64 0, .slice none 0 0, .slice none 0 0, .int .i64 0]] w fun e w' => ∃ v, e = .returned (.tuple #[v, .int .i64 0]) ∧ OwnB w' w.heap.size v [5, 5, 172, 2] ∧ Below w.heap.size w w' := by
  have := encode_any rA none none 0 0 w (.inl rfl) (.inl rfl) fitsA
  rw [vA1, vA3] at this
  exact this
theorem wD1 (w : World) : Calls Try.prog 8 #[.slice (some ⟨w.heap.size, 0, none⟩) 4 4] (w.alloc (.cells #[.int .u8 5, .int .u8 5, .int .u8 172, .int .u8 2] 5)) fun e w' => ∃ v, e = .returned (.tuple #[v, .int .i64 0]) ∧ RecOut w.heap.size w' v rA0 ∧ Below w.heap.size w w' := by
  have := decode_any (some ⟨w.heap.size, 0, none⟩) [5, 5, 172, 2] 4 (w.alloc (.cells #[.int .u8 5, .int .u8 5, .int .u8 172, .int .u8 2] 5)) (bytes_lit w [5, 5, 172, 2] (by simp)) (by simp) nofun (by simp) (allB_of rfl)
  rw [vA4] at this
  refine this.mono ?_
  rintro e w' ⟨v, q1, q2, q3⟩
  exact ⟨v, q1, RecOut.mono q2 (by simp), bnext (alloc_below _ _) q3 (Nat.le_refl _)⟩
theorem wD2 (w : World) : Calls Try.prog 8 #[.slice (some ⟨w.heap.size, 0, none⟩) 9 9] (w.alloc (.cells #[.int .u8 8, .int .u8 6, .int .u8 1, .int .u8 5, .int .u8 9, .int .u8 2, .int .u8 1, .int .u8 0, .int .u8 4] 5)) fun e w' => ∃ v, e = .returned (.tuple #[v, .int .i64 0]) ∧ RecOut w.heap.size w' v rP ∧ Below w.heap.size w w' := by
  have := decode_any (some ⟨w.heap.size, 0, none⟩) [8, 6, 1, 5, 9, 2, 1, 0, 4] 9 (w.alloc (.cells #[.int .u8 8, .int .u8 6, .int .u8 1, .int .u8 5, .int .u8 9, .int .u8 2, .int .u8 1, .int .u8 0, .int .u8 4] 5)) (bytes_lit w [8, 6, 1, 5, 9, 2, 1, 0, 4] (by simp)) (by simp) nofun (by simp) (allB_of rfl)
  rw [vP4] at this
  refine this.mono ?_
  rintro e w' ⟨v, q1, q2, q3⟩
  exact ⟨v, q1, RecOut.mono q2 (by simp), bnext (alloc_below _ _) q3 (Nat.le_refl _)⟩
theorem wE2 (w : World) (b c : Nat) (h1 : Lies w (some ⟨b, 0, none⟩) (liveCs [⟨5, 9, false, true⟩])) (h2 : Lies w (some ⟨c, 0, none⟩) (dirtyCs [⟨0, 4⟩])) : Calls Try.prog 11 #[.agg #[.int .i64 0, .int .i64 8, .int .i64 0, .int .i64 0, .int .i64 0, .int .i64 0, .int .i64 0, .int .i64 0, .int .i64 0, .int .i64 0, .int .i64 0, .int .i64 0, .int .i64 0, .int .i64 0, .slice (some ⟨b, 0, none⟩) 1 1, .slice (some ⟨c, 0, none⟩) 1 1, .int .i64 6]] w fun e w' => ∃ v, e = .returned (.tuple #[v, .int .i64 0]) ∧ OwnB w' w.heap.size v [8, 6, 1, 5, 9, 2, 1, 0, 4] ∧ Below w.heap.size w w' := by
  have := encode_any rP (some ⟨b, 0, none⟩) (some ⟨c, 0, none⟩) 1 1 w h1 h2 fitsP
  rw [vP1, vP3] at this
  exact this
theorem wC1 (w : World) : Calls Try.prog 12 #[.agg #[.int .i64 0, .int .i64 5, .int .i64 5, .int .i64 300, .int .i64 0, .int .i64 0, .int .i64 0, .int .i64 0, .int .i64 0, .int .i64 0, .int .i64 0, .int .i64 0, .int .i64 0, .int .i64 0, .slice none 0 0, .slice none 0 0, .int .i64 0]] w fun e w' => e = .returned (.int .i64 0) ∧ Below w.heap.size w w' := by
  have := check_any rA0 none none 0 0 w (.inl rfl) (.inl rfl)
  rw [vA2] at this
  exact this
theorem wC2 (w : World) : Calls Try.prog 12 #[.agg #[.int .i64 0, .int .i64 0, .int .i64 0, .int .i64 0, .int .i64 0, .int .i64 0, .int .i64 0, .int .i64 0, .int .i64 0, .int .i64 0, .int .i64 0, .int .i64 0, .int .i64 0, .int .i64 0, .slice none 0 0, .slice none 0 0, .int .i64 0]] w fun e w' => e = .returned (.int .i64 70) ∧ Below w.heap.size w w' := by
  have := check_any zeroR none none 0 0 w (.inl rfl) (.inl rfl)
  rw [vZ] at this
  exact this
theorem wC3 (w : World) : Calls Try.prog 12 #[.agg #[.int .i64 0, .int .i64 1, .int .i64 0, .int .i64 0, .int .i64 0, .int .i64 0, .int .i64 0, .int .i64 0, .int .i64 0, .int .i64 0, .int .i64 0, .int .i64 0, .int .i64 0, .int .i64 0, .slice none 0 0, .slice none 0 0, .int .i64 0]] w fun e w' => e = .returned (.int .i64 23) ∧ Below w.heap.size w w' := by
  have := check_any rZ1 none none 0 0 w (.inl rfl) (.inl rfl)
  rw [vZ1] at this
  exact this
theorem wS1 (w : World) (la da : Option Addr) (lc dc : Nat) : Calls Try.prog 10 #[.agg (recC rA0 la lc da dc), .agg #[.int .i64 0, .int .i64 5, .int .i64 5, .int .i64 300, .int .i64 0, .int .i64 0, .int .i64 0, .int .i64 0, .int .i64 0, .int .i64 0, .int .i64 0, .int .i64 0, .int .i64 0, .int .i64 0, .slice none 0 0, .slice none 0 0, .int .i64 0]] w fun e w' => e = .returned (.bool true) ∧ Below w.heap.size w w' :=
  Same_true rA0 la da none none lc dc 0 0 w (.inl rfl) (.inl rfl) (.inl rfl) (.inl rfl) (by decide) (by decide)
theorem wS2 (w : World) (la da : Option Addr) (lc dc b c : Nat) (h1 : Lies w la (liveCs [⟨5, 9, false, true⟩])) (h2 : Lies w da (dirtyCs [⟨0, 4⟩])) (h3 : Lies w (some ⟨b, 0, none⟩) (liveCs [⟨5, 9, false, true⟩])) (h4 : Lies w (some ⟨c, 0, none⟩) (dirtyCs [⟨0, 4⟩])) : Calls Try.prog 10 #[.agg (recC rP la lc da dc), .agg #[.int .i64 0, .int .i64 8, .int .i64 0, .int .i64 0, .int .i64 0, .int .i64 0, .int .i64 0, .int .i64 0, .int .i64 0, .int .i64 0, .int .i64 0, .int .i64 0, .int .i64 0, .int .i64 0, .slice (some ⟨b, 0, none⟩) 1 1, .slice (some ⟨c, 0, none⟩) 1 1, .int .i64 6]] w fun e w' => e = .returned (.bool true) ∧ Below w.heap.size w w' :=
  Same_true rP la da (some ⟨b, 0, none⟩) (some ⟨c, 0, none⟩) lc dc 1 1 w h1 h2 h3 h4 (by decide) (by decide)

theorem wM1 (w : World) (a : Option Addr) (c : Nat) (h : Bytes w a [5, 5, 172, 2]) : Calls Try.prog 13 #[.slice a 4 c, .slice (some ⟨w.heap.size, 0, none⟩) 4 4] (w.alloc (.cells #[.int .u8 5, .int .u8 5, .int .u8 172, .int .u8 2] 5)) fun e w' => e = .returned (.bool true) ∧ w' = w.alloc (.cells #[.int .u8 5, .int .u8 5, .int .u8 172, .int .u8 2] 5) := by
  have := same_any a (some ⟨w.heap.size, 0, none⟩) [5, 5, 172, 2] [5, 5, 172, 2] c 4 (w.alloc (.cells #[.int .u8 5, .int .u8 5, .int .u8 172, .int .u8 2] 5)) (Seen.below h (alloc_below _ _)) (bytes_lit w [5, 5, 172, 2] (by simp)) (allB_of rfl) (allB_of rfl)
  rw [decide_eq_true rfl] at this
  exact this
theorem wM2 (w : World) (a : Option Addr) (c : Nat) (h : Bytes w a [8, 6, 1, 5, 9, 2, 1, 0, 4]) : Calls Try.prog 13 #[.slice a 9 c, .slice (some ⟨w.heap.size, 0, none⟩) 9 9] (w.alloc (.cells #[.int .u8 8, .int .u8 6, .int .u8 1, .int .u8 5, .int .u8 9, .int .u8 2, .int .u8 1, .int .u8 0, .int .u8 4] 5)) fun e w' => e = .returned (.bool true) ∧ w' = w.alloc (.cells #[.int .u8 8, .int .u8 6, .int .u8 1, .int .u8 5, .int .u8 9, .int .u8 2, .int .u8 1, .int .u8 0, .int .u8 4] 5) := by
  have := same_any a (some ⟨w.heap.size, 0, none⟩) [8, 6, 1, 5, 9, 2, 1, 0, 4] [8, 6, 1, 5, 9, 2, 1, 0, 4] c 9 (w.alloc (.cells #[.int .u8 8, .int .u8 6, .int .u8 1, .int .u8 5, .int .u8 9, .int .u8 2, .int .u8 1, .int .u8 0, .int .u8 4] 5)) (Seen.below h (alloc_below _ _)) (bytes_lit w [8, 6, 1, 5, 9, 2, 1, 0, 4] (by simp)) (allB_of rfl) (allB_of rfl)
  rw [decide_eq_true rfl] at this
  exact this

set_option maxHeartbeats 8000000 in
theorem awake_any (w : World) : Calls Try.prog 7 #[] w fun e w' => e = .returned (.bool true) ∧ Below w.heap.size w w' := by
  go_enter Try.func7, Try.ntmps7
  go_upto_region 2 with (refine wpList_store36 (RBox.new _ _ _) rfl rfl rfl rfl rfl ?_; intro w1 A1 k1)
  have B1 := hide (newBox k1)
  have A1 := hide A1
  clear k1
  go_wp2_with (refine wpList_load36 A1.out rfl rfl ?_)
  refine (wE1 _).mono ?_
  rintro e w2 ⟨v2, rfl, o2, b2⟩
  obtain ⟨a2, c2, rfl, s2, _⟩ := ownB_form o2
  have S2 := hide s2
  have A2 := hide (A1.out.below b2)
  have B2 := hide (bnext B1.out b2 (Nat.le_refl _))
  clear o2 s2 b2 A1 B1
  go_wp2_with fail
  refine (wD1 _).mono ?_
  rintro e w3 ⟨v3, rfl, o3, b3⟩
  obtain ⟨la3, da3, lc3, dc3, rfl, l3, d3⟩ := o3.lies
  have S3 := hide (Seen.below S2.out b3)
  have A3 := hide (A2.out.below b3)
  have B3 := hide (bnext B2.out b3 (Nat.le_refl _))
  clear o3 b3 S2 A2 B2 l3 d3
  go_upto_region 4 with (refine wpList_store36 (RBox.new _ _ _) rfl rfl rfl rfl rfl ?_; intro w4 X4 k4)
  have b4 := newBox k4
  have S4 := hide (Seen.below S3.out b4)
  have A4 := hide (A3.out.below b4)
  have B4 := hide (bnext B3.out b4 (Nat.le_refl _))
  have X4 := hide X4
  have G3 := hide A3.out.lt
  generalize w3.heap.size = b3 at *
  clear b4 k4 S3 A3 B3
  have b5a := alloc_below w4 (.cells #[.int .i64 5, .int .i64 9, .bool false, .bool true] 63)
  have b5b := bnext b5a (alloc_below (w4.alloc (.cells #[.int .i64 5, .int .i64 9, .bool false, .bool true] 63)) (.cells #[.int .i64 0, .int .i64 4] 65)) (Nat.le_refl _)
  have l5 := (lies_lit w4 #[.int .i64 5, .int .i64 9, .bool false, .bool true] 63).below (alloc_below _ (.cells #[.int .i64 0, .int .i64 4] 65))
  have d5 := lies_lit (w4.alloc (.cells #[.int .i64 5, .int .i64 9, .bool false, .bool true] 63)) #[.int .i64 0, .int .i64 4] 65
  have sz5 : (w4.alloc (.cells #[.int .i64 5, .int .i64 9, .bool false, .bool true] 63)).heap.size = w4.heap.size + 1 := by simp
  have sz6 : ((w4.alloc (.cells #[.int .i64 5, .int .i64 9, .bool false, .bool true] 63)).alloc (.cells #[.int .i64 0, .int .i64 4] 65)).heap.size = w4.heap.size + 2 := by simp
  rw [sz5] at d5
  have L5 := hide l5
  have D5 := hide d5
  have B5B := hide b5b
  have N5 := RBox.new ((w4.alloc (.cells #[.int .i64 5, .int .i64 9, .bool false, .bool true] 63)).alloc (.cells #[.int .i64 0, .int .i64 4] 65)) #[.int .i64 0, .int .i64 0, .int .i64 0, .int .i64 0, .int .i64 0, .int .i64 0, .int .i64 0, .int .i64 0, .int .i64 0, .int .i64 0, .int .i64 0, .int .i64 0, .int .i64 0, .int .i64 0, .slice none 0 0, .slice none 0 0, .int .i64 0] 36
  rw [sz6] at N5
  have N5 := hide N5
  have SZ6 := hide sz6
  clear l5 d5 b5a b5b sz5 sz6
  go_upto_region 5 with (refine wpList_store36 N5.out rfl rfl rfl rfl rfl ?_; intro w5 P5 k5)
  rw [← SZ6.out] at k5
  have b5 := newBox k5
  have L5 := hide (L5.out.below b5)
  have D5 := hide (D5.out.below b5)
  have bb5 := bnext B5B.out b5 (Nat.le_refl _)
  have S5 := hide (Seen.below S4.out bb5)
  have A5 := hide (A4.out.below bb5)
  have X5 := hide (X4.out.below bb5)
  have B5 := hide (bnext B4.out bb5 (Nat.le_refl _))
  have P5 := hide P5
  have G4 := hide A4.out.lt
  have G5 := hide (show w.heap.size < w4.heap.size + 1 by have := A4.out.lt; omega)
  have G6 := hide (show w.heap.size < w4.heap.size + 2 by have := A4.out.lt; omega)
  generalize w4.heap.size + 2 = b6 at *
  generalize w4.heap.size + 1 = b6' at *
  generalize w4.heap.size = b4 at *
  clear bb5 b5 k5 B5B SZ6 S4 A4 X4 B4
  go_wp2_with (refine wpList_load36 P5.out rfl rfl ?_)
  refine (wE2 _ _ _ L5.out D5.out).mono ?_
  rintro e w6 ⟨v6, rfl, o6, b6x⟩
  obtain ⟨a6, c6, rfl, s6, _⟩ := ownB_form o6
  have T6 := hide s6
  have S6 := hide (Seen.below S5.out b6x)
  have A6 := hide (A5.out.below b6x)
  have X6 := hide (X5.out.below b6x)
  have P6 := hide (P5.out.below b6x)
  have L6 := hide (L5.out.below b6x)
  have D6 := hide (D5.out.below b6x)
  have B6 := hide (bnext B5.out b6x (Nat.le_refl _))
  clear o6 s6 b6x S5 A5 X5 P5 L5 D5 B5
  go_wp2_with fail
  refine (wD2 _).mono ?_
  rintro e w7 ⟨v7, rfl, o7, b7⟩
  obtain ⟨la7, da7, lc7, dc7, rfl, h7, i7, _⟩ := o7
  have GL := hide (show ∀ ad, la7 = some ad → ¬ ad.block = w.heap.size from fun ad q e => by have := (World.ownsRow.lt h7 ad.block (by rw [q]; rfl)).1; have := A6.out.lt; omega)
  have GD := hide (show ∀ ad, da7 = some ad → ¬ ad.block = w.heap.size from fun ad q e => by have := (World.ownsRow.lt i7 ad.block (by rw [q]; rfl)).1; have := A6.out.lt; omega)
  obtain ⟨a71, c71, e71, l7, _⟩ := GRow.lies h7
  obtain ⟨a72, c72, e72, d7, _⟩ := GRow.lies i7
  cases e71
  cases e72
  have LL7 := hide l7
  have DD7 := hide d7
  have T7 := hide (Seen.below T6.out b7)
  have S7 := hide (Seen.below S6.out b7)
  have A7 := hide (A6.out.below b7)
  have X7 := hide (X6.out.below b7)
  have P7 := hide (P6.out.below b7)
  have L7 := hide (L6.out.below b7)
  have D7 := hide (D6.out.below b7)
  have B7 := hide (bnext B6.out b7 (Nat.le_refl _))
  clear h7 i7 b7 l7 d7 T6 S6 A6 X6 P6 L6 D6 B6
  go_upto_region 7 with (refine wpList_store36 (RBox.new _ _ _) rfl rfl rfl rfl rfl ?_; intro w8 Y8 k8)
  have b8 := newBox k8
  have LL8 := hide (LL7.out.below b8)
  have DD8 := hide (DD7.out.below b8)
  have T8 := hide (Seen.below T7.out b8)
  have S8 := hide (Seen.below S7.out b8)
  have A8 := hide (A7.out.below b8)
  have X8 := hide (X7.out.below b8)
  have P8 := hide (P7.out.below b8)
  have L8 := hide (L7.out.below b8)
  have D8 := hide (D7.out.below b8)
  have B8 := hide (bnext B7.out b8 (Nat.le_refl _))
  have Y8 := hide Y8
  have G7 := hide A7.out.lt
  generalize w7.heap.size = b7 at *
  clear b8 k8 LL7 DD7 T7 S7 A7 X7 P7 L7 D7 B7
  have NUM := fun x w => num_any x w
  go_wp2_with fail
  refine (NUM 0 _).mono ?_
  rintro e w' ⟨rfl, hw⟩
  obtain rfl : w8 = w' := hw.symm
  go_wp2_with fail
  refine (NUM 0 _).mono ?_
  rintro e w' ⟨rfl, hw⟩
  obtain rfl : w8 = w' := hw.symm
  go_wp2_with fail
  refine (NUM 0 _).mono ?_
  rintro e w' ⟨rfl, hw⟩
  obtain rfl : w8 = w' := hw.symm
  go_wp2_with fail
  refine (NUM 0 _).mono ?_
  rintro e w' ⟨rfl, hw⟩
  obtain rfl : w8 = w' := hw.symm
  go_wp2_with fail
  refine (wM1 _ _ _ S8.out).mono ?_
  rintro e w9 ⟨rfl, hw9⟩
  have b9 : Below w8.heap.size w8 w9 := by rw [hw9]; exact alloc_below _ _
  have LL9 := hide (LL8.out.below b9)
  have DD9 := hide (DD8.out.below b9)
  have A9 := hide (A8.out.below b9)
  have X9 := hide (X8.out.below b9)
  have P9 := hide (P8.out.below b9)
  have L9 := hide (L8.out.below b9)
  have D9 := hide (D8.out.below b9)
  have Y9 := hide (Y8.out.below b9)
  have T9 := hide (Seen.below T8.out b9)
  have S9 := hide (Seen.below S8.out b9)
  have B9 := hide (bnext B8.out b9 (Nat.le_refl _))
  clear b9 LL8 DD8 A8 X8 P8 L8 D8 Y8 B8 T8 S8
  clear hw9
  go_wp2_with fail
  refine (wM2 _ _ _ T9.out).mono ?_
  rintro e w10 ⟨rfl, hw10⟩
  have b10 : Below w9.heap.size w9 w10 := by rw [hw10]; exact alloc_below _ _
  have LL10 := hide (LL9.out.below b10)
  have DD10 := hide (DD9.out.below b10)
  have A10 := hide (A9.out.below b10)
  have X10 := hide (X9.out.below b10)
  have P10 := hide (P9.out.below b10)
  have L10 := hide (L9.out.below b10)
  have D10 := hide (D9.out.below b10)
  have Y10 := hide (Y9.out.below b10)
  have T10 := hide (Seen.below T9.out b10)
  have S10 := hide (Seen.below S9.out b10)
  have B10 := hide (bnext B9.out b10 (Nat.le_refl _))
  clear b10 LL9 DD9 A9 X9 P9 L9 D9 Y9 B9 T9 S9
  clear hw10
  have c0 := (A10.out.cells.get 0 _ rfl).1
  have f0 := (A10.out.cells.get 0 _ rfl).2
  have k11 := (Keep.refl (fun k => k = w.heap.size) w10).setCell (fun _ => rfl) (.int .i64 0) (j := 0)
  have A11 := A10.out.setCell 0 (.int .i64 0)
  simp only [List.setIfInBounds_toArray, List.set_cons_zero] at A11
  have A11 := hide A11
  have X11 := hide (X10.out.keep k11 (by have := G3.out; omega))
  have P11 := hide (P10.out.keep k11 (by have := G6.out; omega))
  have Y11 := hide (Y10.out.keep k11 (by have := G7.out; omega))
  have L11 := hide (L10.out.keep k11 (fun ad q => by have := G4.out; cases q; simp; omega))
  have D11 := hide (D10.out.keep k11 (fun ad q => by have := G5.out; cases q; simp; omega))
  have LL11 := hide (LL10.out.keep k11 GL.out)
  have DD11 := hide (DD10.out.keep k11 GD.out)
  have B11 := hide (B10.out.trans (k11.below B10.out.size (fun k hk q => by omega)))
  go_upto_region 10 with fail
  generalize w10.setCell ⟨w.heap.size, 0, none⟩ (.int .i64 0) = w11 at *
  clear c0 f0 k11 A10 X10 P10 Y10 L10 D10 LL10 DD10 B10 S10 T10
  go_wp2_with (first | refine wpList_load36 X11.out rfl rfl ?_ | refine wpList_load36 A11.out rfl rfl ?_)
  refine (wS1 _ _ _ _ _).mono ?_
  rintro e w12 ⟨rfl, b12⟩
  have LL12 := hide (LL11.out.below b12)
  have DD12 := hide (DD11.out.below b12)
  have A12 := hide (A11.out.below b12)
  have X12 := hide (X11.out.below b12)
  have P12 := hide (P11.out.below b12)
  have L12 := hide (L11.out.below b12)
  have D12 := hide (D11.out.below b12)
  have Y12 := hide (Y11.out.below b12)
  have B12 := hide (bnext B11.out b12 (Nat.le_refl _))
  clear b12 LL11 DD11 A11 X11 P11 L11 D11 Y11 B11
  go_wp2_with (first | refine wpList_load36g Y12.out rfl rfl rfl ?_ | refine wpList_load36g P12.out rfl rfl rfl ?_)
  refine (wS2 _ _ _ _ _ _ _ LL12.out DD12.out L12.out D12.out).mono ?_
  rintro e w13 ⟨rfl, b13⟩
  have LL13 := hide (LL12.out.below b13)
  have DD13 := hide (DD12.out.below b13)
  have A13 := hide (A12.out.below b13)
  have X13 := hide (X12.out.below b13)
  have P13 := hide (P12.out.below b13)
  have L13 := hide (L12.out.below b13)
  have D13 := hide (D12.out.below b13)
  have Y13 := hide (Y12.out.below b13)
  have B13 := hide (bnext B12.out b13 (Nat.le_refl _))
  clear b13 LL12 DD12 A12 X12 P12 L12 D12 Y12 B12
  go_wp2_with (refine wpList_load36g A13.out rfl rfl rfl ?_)
  refine (wC1 _).mono ?_
  rintro e w14 ⟨rfl, b14⟩
  have LL14 := hide (LL13.out.below b14)
  have DD14 := hide (DD13.out.below b14)
  have A14 := hide (A13.out.below b14)
  have X14 := hide (X13.out.below b14)
  have P14 := hide (P13.out.below b14)
  have L14 := hide (L13.out.below b14)
  have D14 := hide (D13.out.below b14)
  have Y14 := hide (Y13.out.below b14)
  have B14 := hide (bnext B13.out b14 (Nat.le_refl _))
  clear b14 LL13 DD13 A13 X13 P13 L13 D13 Y13 B13
  go_wp2_with fail
  refine (NUM 0 _).mono ?_
  rintro e w' ⟨rfl, hw⟩
  obtain rfl : w14 = w' := hw.symm
  go_wp2_with fail
  refine (wC2 _).mono ?_
  rintro e w15 ⟨rfl, b15⟩
  have LL15 := hide (LL14.out.below b15)
  have DD15 := hide (DD14.out.below b15)
  have A15 := hide (A14.out.below b15)
  have X15 := hide (X14.out.below b15)
  have P15 := hide (P14.out.below b15)
  have L15 := hide (L14.out.below b15)
  have D15 := hide (D14.out.below b15)
  have Y15 := hide (Y14.out.below b15)
  have B15 := hide (bnext B14.out b15 (Nat.le_refl _))
  clear b15 LL14 DD14 A14 X14 P14 L14 D14 Y14 B14
  go_wp2_with fail
  refine (NUM 70 _).mono ?_
  rintro e w' ⟨rfl, hw⟩
  obtain rfl : w15 = w' := hw.symm
  go_wp2_with fail
  refine (wC3 _).mono ?_
  rintro e w16 ⟨rfl, b16⟩
  have LL16 := hide (LL15.out.below b16)
  have DD16 := hide (DD15.out.below b16)
  have A16 := hide (A15.out.below b16)
  have X16 := hide (X15.out.below b16)
  have P16 := hide (P15.out.below b16)
  have L16 := hide (L15.out.below b16)
  have D16 := hide (D15.out.below b16)
  have Y16 := hide (Y15.out.below b16)
  have B16 := hide (bnext B15.out b16 (Nat.le_refl _))
  clear b16 LL15 DD15 A15 X15 P15 L15 D15 Y15 B15
  go_wp2_with fail
  refine (NUM 23 _).mono ?_
  rintro e w' ⟨rfl, hw⟩
  obtain rfl : w16 = w' := hw.symm
  go_wp2_with fail
  go_ret
  exact ⟨rfl, B16.out⟩
end Go.Proofs.Ytlibldioliicfaa
