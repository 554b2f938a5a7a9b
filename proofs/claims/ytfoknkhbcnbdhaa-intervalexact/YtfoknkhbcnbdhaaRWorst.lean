import Derived.Test.YtfoknkhbcnbdhaaRSum
namespace Go.Proofs.Ytfoknkhbcnbdhaa
open Go.RowKit Quota

theorem Owns.below {w w' : World} {B : Nat} {v : Value} {xs : List Int} (h : Owns w B v xs) (hb : Below w.heap.size w w') : Owns w' B v xs := by
  refine ⟨h.1, ?_⟩
  rcases h.2 with k | ⟨g, cap, cur, e, hbg, hg, rest⟩
  · exact .inl k
  · have hlt := (World.ownsRow.lt h g (by rw [e]; rfl)).2
    exact .inr ⟨g, cap, cur, e, hbg, (hb.block g hlt).trans hg, rest⟩

theorem Box.under {w w' : World} {B b : Nat} {x y : Value} (h : Box w b x y) (hlt : b < B) (hb : Below B w w') : Box w' b x y := by
  obtain ⟨h0, h1, h2, h3, h4⟩ := h
  exact ⟨Nat.lt_of_lt_of_le h0 hb.size, (hb.cell (p := ⟨b, 0, none⟩) hlt).trans h1, (hb.cell (p := ⟨b, 1, none⟩) hlt).trans h2, (hb.frozen (p := ⟨b, 0, none⟩) hlt).trans h3, (hb.frozen (p := ⟨b, 1, none⟩) hlt).trans h4⟩

theorem all_cons {x : Int} {xs : List Int} (h0 : I64 x) (h : All xs) : All (x :: xs) := fun y hy => by
  rcases List.mem_cons.1 hy with e | e
  · rw [e]; exact h0
  · exact h y e

set_option maxHeartbeats 1000000 in
theorem rworst_any (base : Int) (xs : List Int) (a : Option Addr) (cap : Nat) (w : World) (h0 : I64 base) (hs : Seen w a xs) (hx : All xs) (hl : xs.length ≤ 50000) :
    Calls Try.prog 40 #[.int .i64 base, .slice a xs.length cap] w fun e w' => e = .returned (.tuple #[rng (loW base xs) (hiW base xs), .int .i64 (erW base xs)]) ∧ Below w.heap.size w w' := by
  have hln := negs_len xs
  have han := all_negs hx
  have ib : isum (base :: negs xs) = base + lows xs := by rw [isum, isum_negs]
  have ih : isum (base :: poss xs) = base + highs xs := by rw [isum, isum_poss]
  have IB : Hid (isum (base :: negs xs) = base + lows xs) := ib
  have IH : Hid (isum (base :: poss xs) = base + highs xs) := ih
  have A1 : Hid (All (base :: negs xs)) := all_cons h0 han.1
  have A2 : Hid (All (base :: poss xs)) := all_cons h0 han.2
  clear ib ih han
  have B0 := Box.new w (.int .i64 0) (.int .i64 0) 24
  have O0 := Owns.lit (w.alloc (.cells #[.int .i64 0, .int .i64 0] 24)) base (w.heap.size + 1) (by simp)
  have O1 : Hid (Owns ((w.alloc (.cells #[.int .i64 0, .int .i64 0] 24)).alloc (.cells #[.int .i64 base] 2)) (w.heap.size + 1) (.slice (some ⟨w.heap.size + 1, 0, none⟩) 1 1) [base]) := by
    simpa [Hid] using O0
  have g0 : Below w.heap.size w ((w.alloc (.cells #[.int .i64 0, .int .i64 0] 24)).alloc (.cells #[.int .i64 base] 2)) := ((Below.refl _ _).alloc (Nat.le_refl _) _).alloc (by simp) _
  have B1 := B0.alloc (.cells #[.int .i64 base] 2)
  have hs1 := hs.below g0
  clear B0 O0
  have HB1 : Hid _ := B1
  clear B1
  go_enter Try.func40, Try.ntmps40
  go_wp2_with fail
  refine (signed_true xs a cap _ hs1 (by omega)).mono ?_
  rintro e w1 ⟨v1, rfl, o1, h1⟩
  obtain ⟨a1, c1, rfl, s1, n1, k1⟩ := o1.seen
  have O2 : Hid (Owns w1 (w.heap.size + 1) (.slice (some ⟨w.heap.size + 1, 0, none⟩) 1 1) [base]) := Owns.below O1.out h1
  have B2 := Box.below HB1.out h1
  have g1 := g0.trans (h1.mono g0.size)
  have z1 : w.heap.size + 1 ≤ w1.heap.size := by have := h1.size; simp at this; omega
  clear o1 O1 HB1 g0 h1 hs1
  have HB2 : Hid (Box w1 w.heap.size (.int .i64 0) (.int .i64 0)) := B2
  clear B2
  go_wp2_with (at_builtin; refine append_own rfl (.tmp 12) (.tmp 14) rfl (w.heap.size + 1) _ [base] rfl O2.out a1 (negs xs).length c1 (negs xs) rfl rfl s1 n1 ?c1 ?c2 ?_)
  case c1 => first | omega | (simp; omega)
  case c2 => exact z1
  intro v2 w2 o2 r2
  replace o2 : Owns w2 (w.heap.size + 1) v2 (base :: negs xs) := by simpa using o2
  have b2 : Below (w.heap.size + 1) w1 w2 := grown_below O2.out z1 r2
  have g2 := g1.trans (b2.mono (by omega))
  have B3 : Hid (Box w2 w.heap.size (.int .i64 0) (.int .i64 0)) := Box.under HB2.out (by omega) b2
  obtain ⟨a2, c2, rfl, s2, n2, k2⟩ := o2.seen
  have hL : (base :: negs xs).length ≤ 100000 := by simp; omega
  have K := rsum_any (base :: negs xs) a2 c2 w2 s2 A1.out hL
  rw [IB.out] at K
  rw [List.length_cons] at K
  clear o2 r2 O2 HB2 b2 g1 s1 s2 k1 k2 z1 hL
  go_wp2_with fail
  refine K.mono ?_
  clear K
  rintro e w3 ⟨rfl, h3⟩
  have g3 := g2.trans (h3.mono g2.size)
  have B4 : Hid (Box w3 w.heap.size (.int .i64 0) (.int .i64 0)) := Box.below B3.out h3
  clear g2 B3 h3
  have O3 : Hid (Owns (w3.alloc (.cells #[.int .i64 base] 2)) w3.heap.size (.slice (some ⟨w3.heap.size, 0, none⟩) 1 1) [base]) := Owns.lit w3 base w3.heap.size (Nat.le_refl _)
  have hs3 := (hs.below g3).below ((Below.refl _ _).alloc (Nat.le_refl _) (.cells #[.int .i64 base] 2))
  go_wp2_with fail
  refine (signed_false xs a cap _ hs3 (by omega)).mono ?_
  rintro e w4 ⟨v4, rfl, o4, h4⟩
  obtain ⟨a4, c4, rfl, s4, n4, k4⟩ := o4.seen
  have O5 : Hid (Owns w4 w3.heap.size (.slice (some ⟨w3.heap.size, 0, none⟩) 1 1) [base]) := Owns.below O3.out h4
  have b4 := below1 h4
  have g4 := g3.trans (b4.mono g3.size)
  have B5 : Hid (Box w4 w.heap.size (.int .i64 0) (.int .i64 0)) := Box.below B4.out b4
  have z4 := b4.size
  have z5 := g3.size
  have z6 := B4.out.1
  clear o4 O3 h4 b4 hs3 g3 B4
  go_wp2_with (at_builtin; refine append_own rfl (.tmp 21) (.tmp 23) rfl w3.heap.size _ [base] rfl O5.out a4 (poss xs).length c4 (poss xs) rfl rfl s4 n4 ?d1 ?d2 ?_)
  case d1 => first | omega | (simp; omega)
  case d2 => exact z4
  intro v5 w5 o5 r5
  replace o5 : Owns w5 w3.heap.size v5 (base :: poss xs) := by simpa using o5
  have b5 : Below w3.heap.size w4 w5 := grown_below O5.out z4 r5
  have g5 := g4.trans (b5.mono z5)
  have B6 : Hid (Box w5 w.heap.size (.int .i64 0) (.int .i64 0)) := Box.under B5.out z6 b5
  obtain ⟨a5, c5, rfl, s5, n5, k5⟩ := o5.seen
  have hL : (base :: poss xs).length ≤ 100000 := by simp; omega
  have K := rsum_any (base :: poss xs) a5 c5 w5 s5 A2.out hL
  rw [IH.out] at K
  rw [List.length_cons] at K
  clear o5 r5 O5 B5 b5 g4 s4 s5 k4 k5 z4 z5 z6 hL
  go_wp2_with fail
  refine K.mono ?_
  clear K
  rintro e w6 ⟨rfl, h6⟩
  have g6 := g5.trans (h6.mono g5.size)
  have B7 := Box.below B6.out h6
  clear g5 B6 h6
  obtain ⟨z7, p0, p1, q0, q1⟩ := B7
  by_cases y1 : I64 (base + lows xs)
  · by_cases y2 : I64 (base + highs xs)
    · have ok : okW base xs = true := by simp [okW, fitB_true.2 y1, fitB_true.2 y2]
      have HF : Hid (loW base xs = base + lows xs ∧ hiW base xs = base + highs xs ∧ erW base xs = 0) := ⟨by simp [loW, ok], by simp [hiW, ok], by simp [erW, ok]⟩
      rw [(fit_yes y1).1, (fit_yes y1).2, (fit_yes y2).1, (fit_yes y2).2]
      clear ok
      go_wp2_with fail
      refine bodyPost_ret (v := .tuple #[rng (base + lows xs) (base + highs xs), .int .i64 0]) ?_ rfl ⟨?_, ?_⟩
      · simp [results, Try.results40, go_sem, p0, p1]
      · rw [HF.out.1, HF.out.2.1, HF.out.2.2]
      · exact (g6.setCell (Nat.le_refl _) _).setCell (Nat.le_refl _) _
    · have ok : okW base xs = false := by simp [okW, fitB_false.2 y2]
      have HF : Hid (loW base xs = 0 ∧ hiW base xs = 0 ∧ erW base xs = 10) := ⟨by simp [loW, ok], by simp [hiW, ok], by simp [erW, ok]⟩
      rw [(fit_yes y1).1, (fit_yes y1).2, (fit_no y2).1, (fit_no y2).2]
      clear ok
      go_wp2_with fail
      refine bodyPost_ret (v := .tuple #[rng 0 0, .int .i64 10]) ?_ rfl ⟨?_, ?_⟩
      · simp [results, Try.results40, go_sem, p0, p1]
      · rw [HF.out.1, HF.out.2.1, HF.out.2.2]
      · exact (g6.setCell (Nat.le_refl _) _).setCell (Nat.le_refl _) _
  · have ok : okW base xs = false := by simp [okW, fitB_false.2 y1]
    have HF : Hid (loW base xs = 0 ∧ hiW base xs = 0 ∧ erW base xs = 10) := ⟨by simp [loW, ok], by simp [hiW, ok], by simp [erW, ok]⟩
    rw [(fit_no y1).1, (fit_no y1).2]
    clear ok
    go_wp2_with fail
    refine bodyPost_ret (v := .tuple #[rng 0 0, .int .i64 10]) ?_ rfl ⟨?_, ?_⟩
    · simp [results, Try.results40, go_sem, p0, p1]
    · rw [HF.out.1, HF.out.2.1, HF.out.2.2]
    · exact (g6.setCell (Nat.le_refl _) _).setCell (Nat.le_refl _) _
end Go.Proofs.Ytfoknkhbcnbdhaa
