import Derived.Test.YtcnlcmdppkdmmaaEc2
namespace Go.Proofs.Ytcnlcmdppkdmmaa
open Go.RowKit Go.QK Quota Go.Maps

theorem wrapI {z : Int} (h : I64 z) : wrap64 z = z := by unfold I64 at h; unfold wrap64; omega

set_option maxHeartbeats 1000000 in
theorem without_any (a b n : Int) (w : World) (h1 : I64 (a - neg0 n)) (h2 : I64 (b - pos0 n)) :
    Calls Try.prog 40 #[rng a b, .int .i64 n] w fun r w' => r = .returned (rng (a - neg0 n) (b - pos0 n)) ∧ Below w.heap.size w w' := by
  rcases Int.lt_trichotomy n 0 with hn | hn | hn
  · have e1 : neg0 n = n := by unfold neg0; omega
    have e2 : pos0 n = 0 := by unfold pos0; omega
    rw [e1] at h1 ⊢
    rw [e2] at h2 ⊢
    have w1 := wrapI h1
    have w2 := wrapI h2
    simp only [Int.sub_zero] at w1 w2 ⊢
    clear h1 h2 e1 e2
    go_enter Try.func40, Try.ntmps40
    go_wp2_with fail
    refine bodyPost_ret (v := rng (a - n) (b)) (by simp [results, Try.results40, go_sem]) rfl ⟨rfl, ?_⟩
    exact ((Below.refl _ _).alloc (Nat.le_refl _) _).alloc (by simp) _
  · have e1 : neg0 n = 0 := by unfold neg0; omega
    have e2 : pos0 n = 0 := by unfold pos0; omega
    rw [e1] at h1 ⊢
    rw [e2] at h2 ⊢
    have w1 := wrapI h1
    have w2 := wrapI h2
    simp only [Int.sub_zero] at w1 w2 ⊢
    clear h1 h2 e1 e2
    subst hn
    go_enter Try.func40, Try.ntmps40
    go_wp2_with fail
    refine bodyPost_ret (v := rng (a) (b)) (by simp [results, Try.results40, go_sem]) rfl ⟨rfl, ?_⟩
    exact ((Below.refl _ _).alloc (Nat.le_refl _) _).alloc (by simp) _
  · have e1 : neg0 n = 0 := by unfold neg0; omega
    have e2 : pos0 n = n := by unfold pos0; omega
    rw [e1] at h1 ⊢
    rw [e2] at h2 ⊢
    have w1 := wrapI h1
    have w2 := wrapI h2
    simp only [Int.sub_zero] at w1 w2 ⊢
    clear h1 h2 e1 e2
    go_enter Try.func40, Try.ntmps40
    go_wp2_with fail
    refine bodyPost_ret (v := rng (a) (b - n)) (by simp [results, Try.results40, go_sem]) rfl ⟨rfl, ?_⟩
    exact ((Below.refl _ _).alloc (Nat.le_refl _) _).alloc (by simp) _

set_option maxHeartbeats 1000000 in
theorem with_any (a b n : Int) (w : World) (h1 : I64 (a + pos0 n)) (h2 : I64 (b + neg0 n)) :
    Calls Try.prog 37 #[rng a b, .int .i64 n] w fun r w' => r = .returned (rng (a + pos0 n) (b + neg0 n)) ∧ Below w.heap.size w w' := by
  rcases Int.lt_trichotomy n 0 with hn | hn | hn
  · have e1 : pos0 n = 0 := by unfold pos0; omega
    have e2 : neg0 n = n := by unfold neg0; omega
    rw [e1] at h1 ⊢
    rw [e2] at h2 ⊢
    have w1 := wrapI h1
    have w2 := wrapI h2
    simp only [Int.add_zero] at w1 w2 ⊢
    clear h1 h2 e1 e2
    go_enter Try.func37, Try.ntmps37
    go_wp2_with fail
    refine bodyPost_ret (v := rng (a) (b + n)) (by simp [results, Try.results37, go_sem]) rfl ⟨rfl, ?_⟩
    exact ((Below.refl _ _).alloc (Nat.le_refl _) _).alloc (by simp) _
  · have e1 : pos0 n = 0 := by unfold pos0; omega
    have e2 : neg0 n = 0 := by unfold neg0; omega
    rw [e1] at h1 ⊢
    rw [e2] at h2 ⊢
    have w1 := wrapI h1
    have w2 := wrapI h2
    simp only [Int.add_zero] at w1 w2 ⊢
    clear h1 h2 e1 e2
    subst hn
    go_enter Try.func37, Try.ntmps37
    go_wp2_with fail
    refine bodyPost_ret (v := rng (a) (b)) (by simp [results, Try.results37, go_sem]) rfl ⟨rfl, ?_⟩
    exact ((Below.refl _ _).alloc (Nat.le_refl _) _).alloc (by simp) _
  · have e1 : pos0 n = n := by unfold pos0; omega
    have e2 : neg0 n = 0 := by unfold neg0; omega
    rw [e1] at h1 ⊢
    rw [e2] at h2 ⊢
    have w1 := wrapI h1
    have w2 := wrapI h2
    simp only [Int.add_zero] at w1 w2 ⊢
    clear h1 h2 e1 e2
    go_enter Try.func37, Try.ntmps37
    go_wp2_with fail
    refine bodyPost_ret (v := rng (a + n) (b)) (by simp [results, Try.results37, go_sem]) rfl ⟨rfl, ?_⟩
    exact ((Below.refl _ _).alloc (Nat.le_refl _) _).alloc (by simp) _

def rchB (a b : Int) (xs : List Int) : Bool := okW a xs && okW b xs
def rchE (a b : Int) (xs : List Int) : Int := if rchB a b xs then 0 else 10
def rchL (a b : Int) (xs : List Int) : Int := if rchB a b xs then a + lows xs else 0
def rchH (a b : Int) (xs : List Int) : Int := if rchB a b xs then b + highs xs else 0

theorem Box.stay {w w' : World} {b : Nat} {x y : Value} (h : Box w b x y) (hb : Below w.heap.size w w') : Box w' b x y := h.below hb

set_option maxHeartbeats 2000000 in
theorem reach_any (p q : Int) (xs : List Int) (ad : Option Addr) (cap : Nat) (w : World) (h0 : I64 p) (h1 : I64 q) (hs : Seen w ad xs) (hx : All xs) (hl : xs.length ≤ 1000000) :
    Calls Try.prog 53 #[rng p q, .slice ad xs.length cap] w fun r w' => r = .returned (.tuple #[rng (rchL p q xs) (rchH p q xs), .int .i64 (rchE p q xs)]) ∧ Below w.heap.size w w' := by
  by_cases o1 : okW p xs = true
  · by_cases o2 : okW q xs = true
    · have E := hide (show rchL p q xs = p + lows xs ∧ rchH p q xs = q + highs xs ∧ rchE p q xs = 0 from by simp [rchL, rchH, rchE, rchB, o1, o2])
      have A1 : loW p xs = p + lows xs ∧ hiW p xs = p + highs xs ∧ erW p xs = 0 := by simp [loW, hiW, erW, o1]
      have A2 : loW q xs = q + lows xs ∧ hiW q xs = q + highs xs ∧ erW q xs = 0 := by simp [loW, hiW, erW, o2]
      have K1 := fun w' (hs' : Seen w' ad xs) => worst_any p xs ad cap w' h0 hs' hx hl
      have K2 := fun w' (hs' : Seen w' ad xs) => worst_any q xs ad cap w' h1 hs' hx hl
      rw [A1.1, A1.2.1, A1.2.2] at K1
      rw [A2.1, A2.2.1, A2.2.2] at K2
      rw [E.out.1, E.out.2.1, E.out.2.2]
      generalize p + lows xs = pl at *
      generalize p + highs xs = ph at *
      generalize q + lows xs = ql at *
      generalize q + highs xs = qh at *
      clear A1 A2 E o1 o2 h0 h1 hx hl
      have HS := hide hs
      clear hs
      go_enter Try.func53, Try.ntmps53
      go_wp2_with fail
      refine (K1 _ (HS.out.below (((Below.refl _ _).alloc (Nat.le_refl _) _).alloc (by simp) _))).mono ?_
      rintro r w1 ⟨rfl, hb⟩
      obtain ⟨c0, c1, c2, c3, f2, f3, z0, z1⟩ := keep2 hb
      have HB := hide (below2 hb)
      clear hb K1
      go_wp2_with fail
      refine (K2 _ (HS.out.below (HB.out.alloc HB.out.size _))).mono ?_
      rintro r w2 ⟨rfl, hb⟩
      have s1 := HB.out.size
      have B1 := Box.below (Box.new w1 (.int .i64 pl) (.int .i64 ph) 23) hb
      have HB2 := hide ((HB.out.alloc s1 _).trans (hb.mono (by simp; omega)))
      have B2 := (show Box w1 (w.heap.size + 1) (.int .i64 0) (.int .i64 0) from ⟨z1, c2, c3, f2, f3⟩)
      have B2 := (B2.alloc (.cells #[.int .i64 pl, .int .i64 ph] 23)).below hb
      clear hb c0 c1 c2 c3 f2 f3 K2
      obtain ⟨y0, y1, y2, y3, y4⟩ := B1
      have B2' := B2
      obtain ⟨x0, x1, x2, x3, x4⟩ := B2
      have hne : w1.heap.size ≠ w2.heap.size := by omega
      have hne2 : w.heap.size + 1 ≠ w2.heap.size := by omega
      have hne3 : w.heap.size + 1 ≠ w1.heap.size := by omega
      go_wp2_with fail
      have BX := (Box.set B2' (.int .i64 pl) (.int .i64 qh)).alloc (.cells #[.int .i64 ql, .int .i64 qh] 23)
      obtain ⟨u0, u1, u2, u3, u4⟩ := BX
      refine bodyPost_ret (v := .tuple #[rng pl qh, .int .i64 0]) (by simp [results, Try.results53, go_sem, u1, u2]) rfl ⟨rfl, ?_⟩
      exact (((HB2.out.setCell (Nat.le_succ _) _).setCell (Nat.le_succ _) _).alloc (by simp; exact HB2.out.size) _)
    · have o2 : okW q xs = false := by simpa using o2
      have E := hide (show rchL p q xs = 0 ∧ rchH p q xs = 0 ∧ rchE p q xs = 10 from by simp [rchL, rchH, rchE, rchB, o2])
      have A1 : loW p xs = p + lows xs ∧ hiW p xs = p + highs xs ∧ erW p xs = 0 := by simp [loW, hiW, erW, o1]
      have A2 : loW q xs = 0 ∧ hiW q xs = 0 ∧ erW q xs = 10 := by simp [loW, hiW, erW, o2]
      have K1 := fun w' (hs' : Seen w' ad xs) => worst_any p xs ad cap w' h0 hs' hx hl
      have K2 := fun w' (hs' : Seen w' ad xs) => worst_any q xs ad cap w' h1 hs' hx hl
      rw [A1.1, A1.2.1, A1.2.2] at K1
      rw [A2.1, A2.2.1, A2.2.2] at K2
      rw [E.out.1, E.out.2.1, E.out.2.2]
      generalize p + lows xs = pl at *
      generalize p + highs xs = ph at *
      clear A1 A2 E o1 o2 h0 h1 hx hl
      have HS := hide hs
      clear hs
      go_enter Try.func53, Try.ntmps53
      go_wp2_with fail
      refine (K1 _ (HS.out.below (((Below.refl _ _).alloc (Nat.le_refl _) _).alloc (by simp) _))).mono ?_
      rintro r w1 ⟨rfl, hb⟩
      obtain ⟨c0, c1, c2, c3, f2, f3, z0, z1⟩ := keep2 hb
      have HB := hide (below2 hb)
      clear hb K1
      go_wp2_with fail
      refine (K2 _ (HS.out.below (HB.out.alloc HB.out.size _))).mono ?_
      rintro r w2 ⟨rfl, hb⟩
      have s1 := HB.out.size
      have HB2 := hide ((HB.out.alloc s1 _).trans (hb.mono (by simp; omega)))
      have B2 := (show Box w1 (w.heap.size + 1) (.int .i64 0) (.int .i64 0) from ⟨z1, c2, c3, f2, f3⟩)
      have B2 := (B2.alloc (.cells #[.int .i64 pl, .int .i64 ph] 23)).below hb
      clear hb c0 c1 c2 c3 f2 f3 K2
      have B2' := B2
      obtain ⟨x0, x1, x2, x3, x4⟩ := B2
      go_wp2_with fail
      have BX := (Box.set B2' (.int .i64 0) (.int .i64 0)).alloc (.cells #[.int .i64 0, .int .i64 0] 23)
      obtain ⟨u0, u1, u2, u3, u4⟩ := BX
      refine bodyPost_ret (v := .tuple #[rng 0 0, .int .i64 10]) (by simp [results, Try.results53, go_sem, u1, u2]) rfl ⟨rfl, ?_⟩
      exact (((HB2.out.setCell (Nat.le_succ _) _).setCell (Nat.le_succ _) _).alloc (by simp; exact HB2.out.size) _)
  · have o1 : okW p xs = false := by simpa using o1
    have E := hide (show rchL p q xs = 0 ∧ rchH p q xs = 0 ∧ rchE p q xs = 10 from by simp [rchL, rchH, rchE, rchB, o1])
    have A1 : loW p xs = 0 ∧ hiW p xs = 0 ∧ erW p xs = 10 := by simp [loW, hiW, erW, o1]
    have K1 := fun w' (hs' : Seen w' ad xs) => worst_any p xs ad cap w' h0 hs' hx hl
    rw [A1.1, A1.2.1, A1.2.2] at K1
    rw [E.out.1, E.out.2.1, E.out.2.2]
    clear A1 E o1 h0 h1 hx hl
    have HS := hide hs
    clear hs
    go_enter Try.func53, Try.ntmps53
    go_wp2_with fail
    refine (K1 _ (HS.out.below (((Below.refl _ _).alloc (Nat.le_refl _) _).alloc (by simp) _))).mono ?_
    rintro r w1 ⟨rfl, hb⟩
    obtain ⟨c0, c1, c2, c3, f2, f3, z0, z1⟩ := keep2 hb
    have HB := hide (below2 hb)
    clear hb K1
    have B2' := (show Box w1 (w.heap.size + 1) (.int .i64 0) (.int .i64 0) from ⟨z1, c2, c3, f2, f3⟩)
    go_wp2_with fail
    have BX := (Box.set B2' (.int .i64 0) (.int .i64 0)).alloc (.cells #[.int .i64 0, .int .i64 0] 23)
    obtain ⟨u0, u1, u2, u3, u4⟩ := BX
    refine bodyPost_ret (v := .tuple #[rng 0 0, .int .i64 10]) (by simp [results, Try.results53, go_sem, u1, u2]) rfl ⟨rfl, ?_⟩
    exact (((HB.out.setCell (Nat.le_succ _) _).setCell (Nat.le_succ _) _).alloc (by simp; exact HB.out.size) _)
end Go.Proofs.Ytcnlcmdppkdmmaa
