import Derived.Test.YtcnlcmdppkdmmaaBox
namespace Go.Proofs.Ytcnlcmdppkdmmaa
open Go.RowKit Quota

set_option maxHeartbeats 400000 in
theorem worst_any (base : Int) (xs : List Int) (a : Option Addr) (cap : Nat) (w : World) (h0 : I64 base) (hs : Seen w a xs) (hx : All xs) (hl : xs.length ≤ 1000000) :
    Calls Try.prog 66 #[.int .i64 base, .slice a xs.length cap] w fun e w' => e = .returned (.tuple #[rng (loW base xs) (hiW base xs), .int .i64 (erW base xs)]) ∧ Below w.heap.size w w' := by
  obtain ⟨k1, k2⟩ := worst_128 base xs h0 hx hl
  go_enter Try.func66, Try.ntmps66
  go_wp2_with fail
  refine (widen_any base _ h0).mono ?_
  rintro e w1 ⟨rfl, h1⟩
  have BR := Box.below (Box.new w (.int .i64 0) (.int .i64 0) 23) h1
  have b1 := below1 h1
  clear h1
  go_wp2_with fail
  refine (widen_any base _ h0).mono ?_
  rintro e w2 ⟨rfl, h2⟩
  have BR := Box.below BR h2
  have b2 := b1.trans (h2.mono b1.size)
  clear h2 b1
  go_wp2_with fail
  go_loopw [19, 9] (fun i n wr => ∃ k : Nat, k ≤ xs.length ∧ i = .int .i64 k ∧ Below w.heap.size w wr ∧ Box wr w.heap.size (.int .i64 0) (.int .i64 0) ∧ Box wr w2.heap.size (.int .u64 (hiOf (base + lows (xs.take k)))) (.int .u64 (loOf (base + lows (xs.take k)))) ∧ Box wr (w2.heap.size + 1) (.int .u64 (hiOf (base + highs (xs.take k)))) (.int .u64 (loOf (base + highs (xs.take k))))) (fun i _ _ => xs.length - (intOf i).toNat)
  case atStart =>
    refine ⟨0, Nat.zero_le _, rfl, (b2.alloc b2.size _).alloc (by simp; exact Nat.le_succ_of_le b2.size) _, (BR.alloc _).alloc _, ?_, ?_⟩
    · simp only [List.take_zero, lows, Int.add_zero]; exact (Box.new _ _ _ _).alloc _
    · simp only [List.take_zero, highs, Int.add_zero]
      have := Box.new (w2.alloc (.cells #[.int .u64 (hiOf base), .int .u64 (loOf base)] 106)) (.int .u64 (hiOf base)) (.int .u64 (loOf base)) 106
      simpa using this
  case round =>
    obtain ⟨k, hk, rfl, hb, XR, XL, XH⟩ := hrel
    have HR : Hid _ := XR
    have HL : Hid _ := XL
    have HH : Hid _ := XH
    have hne : w.heap.size < w2.heap.size := BR.1
    obtain ⟨zl, c0, c1, f0, f1⟩ := XL
    obtain ⟨zh, d0, d1, g0, g1⟩ := XH
    obtain ⟨zr, e0, e1, t0, t1⟩ := XR
    by_cases hlt : k < xs.length
    · have hi := all_get hx k hlt
      rcases hs.below hb with hn | ⟨b, off, rfl, hbl, hcell⟩
      · simp [hn] at hlt
      · have hck := hcell k hlt
        clear hcell
        by_cases hneg : xs[k] < 0
        · have HS : Hid _ := lows_neg xs k hlt hneg
          generalize xs[k] = x at *
          generalize hg : base + lows (xs.take k) = s at *
          generalize hg2 : base + highs (xs.take k) = t at *
          have HG : Hid _ := hg
          have HG2 : Hid _ := hg2
          clear hg hg2
          go_wp2_with fail
          refine (plus_any s x _ hi).mono ?_
          rintro e w3 ⟨rfl, h3⟩
          have YL := Box.below HL.out h3
          have YH := Box.below HH.out h3
          have YR := Box.below HR.out h3
          have HYL : Hid _ := YL
          clear c0 c1 f0 f1 d0 d1 g0 g1 e0 e1 t0 t1
          obtain ⟨zl, c0, c1, f0, f1⟩ := YL
          go_wp2_with fail
          go_roundw
          case rel =>
            refine ⟨k + 1, by omega, by go_num, ?_, ?_, ?_, ?_⟩
            · exact (((hb.trans (h3.mono hb.size)).setCell (Nat.le_of_lt hne) _).setCell (Nat.le_of_lt hne) _)
            · exact (YR.other (by omega)).other (by omega)
            · rw [HS.out.1, show base + (lows (xs.take k) + x) = s + x by rw [← HG.out]; omega]; exact Box.set HYL.out _ _
            · rw [HS.out.2, HG2.out]; exact (YH.other (by omega)).other (by omega)
          case measure => simp [intOf]; omega
        · have HS : Hid _ := lows_pos xs k hlt hneg
          generalize xs[k] = x at *
          generalize hg : base + lows (xs.take k) = s at *
          generalize hg2 : base + highs (xs.take k) = t at *
          have HG : Hid _ := hg
          have HG2 : Hid _ := hg2
          clear hg hg2
          go_wp2_with fail
          refine (plus_any t x _ hi).mono ?_
          rintro e w3 ⟨rfl, h3⟩
          have YL := Box.below HL.out h3
          have YH := Box.below HH.out h3
          have YR := Box.below HR.out h3
          have HYH : Hid _ := YH
          clear c0 c1 f0 f1 d0 d1 g0 g1 e0 e1 t0 t1
          obtain ⟨zh, d0, d1, g0, g1⟩ := YH
          go_wp2_with fail
          go_roundw
          case rel =>
            refine ⟨k + 1, by omega, by go_num, ?_, ?_, ?_, ?_⟩
            · exact (((hb.trans (h3.mono hb.size)).setCell (Nat.le_succ_of_le (Nat.le_of_lt hne)) _).setCell (Nat.le_succ_of_le (Nat.le_of_lt hne)) _)
            · exact (YR.other (by omega)).other (by omega)
            · rw [HS.out.1, HG.out]; exact (YL.other (by omega)).other (by omega)
            · rw [HS.out.2, show base + (highs (xs.take k) + x) = t + x by rw [← HG2.out]; omega]; exact Box.set HYH.out _ _
          case measure => simp [intOf]; omega
    · have hek : k = xs.length := by omega
      subst hek
      rw [List.take_length] at c0 c1 d0 d1 HL HH
      by_cases q1 : I64 (base + lows xs)
      · by_cases q2 : I64 (base + highs xs)
        · have HF : Hid (loW base xs = base + lows xs ∧ hiW base xs = base + highs xs ∧ erW base xs = 0) := by
            have : okW base xs = true := by simp [okW, fitB_true.2 q1, fitB_true.2 q2]
            exact ⟨by simp [loW, this], by simp [hiW, this], by simp [erW, this]⟩
          go_wp2_with fail
          refine (narrow_yes _ _ q1).mono ?_
          rintro e w3 ⟨rfl, h3⟩
          have YH := Box.below HH.out h3
          have YR := Box.below HR.out h3
          clear c0 c1 f0 f1 d0 d1 g0 g1 e0 e1 t0 t1
          have HYR : Hid _ := YR
          obtain ⟨zh, d0, d1, g0, g1⟩ := YH
          go_wp2_with fail
          refine (narrow_yes _ _ q2).mono ?_
          rintro e w4 ⟨rfl, h4⟩
          have ZR := Box.below YR h4
          clear d0 d1 g0 g1
          obtain ⟨zr, e0, e1, t0, t1⟩ := ZR
          go_wp2_with fail
          refine bodyPost_ret (v := .tuple #[rng (base + lows xs) (base + highs xs), .int .i64 0]) ?_ rfl ⟨?_, ?_⟩
          · simp [results, Try.results66, go_sem, e0, e1]
          · rw [HF.out.1, HF.out.2.1, HF.out.2.2]
          · exact (((hb.trans (h3.mono hb.size)).trans (h4.mono (Nat.le_trans hb.size h3.size))).setCell (Nat.le_refl _) _).setCell (Nat.le_refl _) _
        · have HF : Hid (loW base xs = 0 ∧ hiW base xs = 0 ∧ erW base xs = 10) := by
            have : okW base xs = false := by simp [okW, fitB_false.2 q2]
            exact ⟨by simp [loW, this], by simp [hiW, this], by simp [erW, this]⟩
          go_wp2_with fail
          refine (narrow_yes _ _ q1).mono ?_
          rintro e w3 ⟨rfl, h3⟩
          have YH := Box.below HH.out h3
          have YR := Box.below HR.out h3
          clear c0 c1 f0 f1 d0 d1 g0 g1 e0 e1 t0 t1
          have HYR : Hid _ := YR
          obtain ⟨zh, d0, d1, g0, g1⟩ := YH
          go_wp2_with fail
          refine (narrow_no _ _ q2 k2).mono ?_
          rintro e w4 ⟨rfl, h4⟩
          have ZR := Box.below YR h4
          clear d0 d1 g0 g1
          obtain ⟨zr, e0, e1, t0, t1⟩ := ZR
          go_wp2_with fail
          refine bodyPost_ret (v := .tuple #[rng 0 0, .int .i64 10]) ?_ rfl ⟨?_, ?_⟩
          · simp [results, Try.results66, go_sem, e0, e1]
          · rw [HF.out.1, HF.out.2.1, HF.out.2.2]
          · exact (((hb.trans (h3.mono hb.size)).trans (h4.mono (Nat.le_trans hb.size h3.size))).setCell (Nat.le_refl _) _).setCell (Nat.le_refl _) _
      · have HF : Hid (loW base xs = 0 ∧ hiW base xs = 0 ∧ erW base xs = 10) := by
          have : okW base xs = false := by simp [okW, fitB_false.2 q1]
          exact ⟨by simp [loW, this], by simp [hiW, this], by simp [erW, this]⟩
        go_wp2_with fail
        refine (narrow_no _ _ q1 k1).mono ?_
        rintro e w3 ⟨rfl, h3⟩
        have YR := Box.below HR.out h3
        clear c0 c1 f0 f1 d0 d1 g0 g1 e0 e1 t0 t1
        obtain ⟨zr, e0, e1, t0, t1⟩ := YR
        go_wp2_with fail
        refine bodyPost_ret (v := .tuple #[rng 0 0, .int .i64 10]) ?_ rfl ⟨?_, ?_⟩
        · simp [results, Try.results66, go_sem, e0, e1]
        · rw [HF.out.1, HF.out.2.1, HF.out.2.2]
        · exact ((hb.trans (h3.mono hb.size)).setCell (Nat.le_refl _) _).setCell (Nat.le_refl _) _
end Go.Proofs.Ytcnlcmdppkdmmaa
