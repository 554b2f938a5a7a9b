import Derived.Test.YtpddmimacjknfaaTwS
namespace Go.QK
open Go.RowKit

/-- Where a twin and a home lie on a disk of n sectors. -/
structure Lie (A H n : Nat) : Prop where
  a : A + 3 ≤ n
  h : H + 2 ≤ n
  ap : H + 2 ≤ A ∨ A + 3 ≤ H
  big : n ≤ 8192
/-- All sectors but the twin's and the home's are x's. -/
def Rest (A H n : Nat) (x : Nat → List Nat) (img : List Nat) : Prop := ∀ i, i < n → ¬ (A ≤ i ∧ i < A + 3) → ¬ (H ≤ i ∧ i < H + 2) → sector img i = x i
/-- The marker does not stand, and the home's page is p. -/
def Quiet (A H : Nat) (p : List Nat) (img : List Nat) : Prop := (sector img A).getD 511 0 = 0 ∧ sector img H ++ sector img (H + 1) = p
/-- The marker stands, and the page beside is b. -/
def Stand (A H : Nat) (b : List Nat) (img : List Nat) : Prop := sector img A = mkB H 165 ∧ sector img (A + 1) = b.take 512 ∧ sector img (A + 2) = b.drop 512

theorem torn_mark {H : Nat} {y : List Nat} (hy : y.length = 512) (m : Nat) (hm : m ≤ 512) (h : y.getD 511 0 = 0 ∨ y = mkB H 165) : (torn (mkB H 165) y m).getD 511 0 = 0 ∨ torn (mkB H 165) y m = mkB H 165 := by
  rcases h with h | h
  · by_cases q : m = 512
    · right; rw [q, torn_all _ _ (mkB_length _ _) hy]
    · left; rw [torn_getD (mkB_length _ _) m 511 hm, if_neg (by omega)]; exact h
  · right; rw [h, torn_self]
theorem torn_gone {H : Nat} {y : List Nat} (hy : y.length = 512) (m : Nat) (hm : m ≤ 512) (h : y = mkB H 165 ∨ y.getD 511 0 = 0) : torn (mkB H 0) y m = mkB H 165 ∨ (torn (mkB H 0) y m).getD 511 0 = 0 := by
  by_cases q : m = 512
  · right; rw [q, torn_all _ _ (mkB_length _ _) hy, mkB_last]
  · rcases h with h | h
    · left
      rw [h]
      refine ext512 (torn_length (mkB_length _ _) (mkB_length _ _) m hm) (mkB_length _ _) (fun j hj => ?_)
      rw [torn_getD (mkB_length _ _) m j hm]
      split
      · have hj5 : ¬ 511 = j := by omega
        rw [mkB_getD, mkB_getD, if_neg hj5, if_neg hj5]
      · rfl
    · right; rw [torn_getD (mkB_length _ _) m 511 hm, if_neg (by omega)]; exact h

theorem halves {b : List Nat} (hb : b.length = 1024) : (b.take 512).length = 512 ∧ (b.drop 512).length = 512 ∧ b.take 512 ++ b.drop 512 = b := ⟨by simp; omega, by simp; omega, List.take_append_drop _ _⟩
section
variable {g : Dev} {n A H : Nat} {x : Nat → List Nat} {p b : List Nat}
theorem page_row (hb : b.length = 1024) (hB : AllB b) {f : Nat} (hf : f + 2 ≤ n) : ∀ q ∈ ([(f, b.take 512), (f + 1, b.drop 512)] : List (Nat × List Nat)), q.1 < n ∧ q.2.length = 512 ∧ AllB q.2 := by
  obtain ⟨l1, l2, _⟩ := halves hb
  intro q hq
  simp at hq
  rcases hq with rfl | rfl
  · exact ⟨by omega, l1, hB.take _⟩
  · exact ⟨by simp; omega, l2, hB.drop _⟩
theorem mark_row (hl : Lie A H n) (st : Nat) (hs : st < 256) : ∀ q ∈ ([(A, mkB H st)] : List (Nat × List Nat)), q.1 < n ∧ q.2.length = 512 ∧ AllB q.2 := by
  intro q hq
  simp at hq
  subst hq
  exact ⟨by have := hl.a; simp; omega, mkB_length _ _, mkB_allB _ _ hs⟩
theorem segs_step' {s : List (Nat × List Nat)} {ss : List (List (Nat × List Nat))} {g : Dev} (h : putsE s g = 0) : segsE (s :: ss) g = segsE ss (putsD s g) ∧ segsD (s :: ss) g = segsD ss (putsD s g) := by
  constructor
  · show (if putsE s g ≠ 0 then _ else _) = _
    rw [if_neg (by omega)]
  · show (if putsE s g ≠ 0 then _ else _) = _
    rw [if_neg (by omega)]
theorem segs_stop' {s : List (Nat × List Nat)} {ss : List (List (Nat × List Nat))} {g : Dev} (h : putsE s g ≠ 0) : segsE (s :: ss) g = putsE s g ∧ segsD (s :: ss) g = putsD s g := by
  constructor
  · show (if putsE s g ≠ 0 then _ else _) = _
    rw [if_pos h]
  · show (if putsE s g ≠ 0 then _ else _) = _
    rw [if_pos h]

/-- The second half of a Write, and a Finish: from a disk on which the marker stands. -/
theorem home_segs (h : Run g n) (hl : Lie A H n) (hr : Rest A H n x g.img) (hs : Stand A H b g.img) (hb : b.length = 1024) (hB : AllB b) :
    (¬ (1 ≤ g.left ∧ g.left ≤ 5) → segsE [[(H, b.take 512), (H + 1, b.drop 512)], [(A, mkB H 0)]] g = 0 ∧ Run (segsD [[(H, b.take 512), (H + 1, b.drop 512)], [(A, mkB H 0)]] g) n ∧ (segsD [[(H, b.take 512), (H + 1, b.drop 512)], [(A, mkB H 0)]] g).calls = g.calls + 5 ∧ (segsD [[(H, b.take 512), (H + 1, b.drop 512)], [(A, mkB H 0)]] g).left = g.left - 5 ∧ Rest A H n x (segsD [[(H, b.take 512), (H + 1, b.drop 512)], [(A, mkB H 0)]] g).img ∧ Quiet A H b (segsD [[(H, b.take 512), (H + 1, b.drop 512)], [(A, mkB H 0)]] g).img) ∧
    (1 ≤ g.left ∧ g.left ≤ 5 → segsE [[(H, b.take 512), (H + 1, b.drop 512)], [(A, mkB H 0)]] g = 40 ∧ Run (segsD [[(H, b.take 512), (H + 1, b.drop 512)], [(A, mkB H 0)]] g).up n ∧ (segsD [[(H, b.take 512), (H + 1, b.drop 512)], [(A, mkB H 0)]] g).down = true ∧ (segsD [[(H, b.take 512), (H + 1, b.drop 512)], [(A, mkB H 0)]] g).calls ≤ g.calls + 5 ∧ Rest A H n x (segsD [[(H, b.take 512), (H + 1, b.drop 512)], [(A, mkB H 0)]] g).img ∧ (Stand A H b (segsD [[(H, b.take 512), (H + 1, b.drop 512)], [(A, mkB H 0)]] g).img ∨ Quiet A H b (segsD [[(H, b.take 512), (H + 1, b.drop 512)], [(A, mkB H 0)]] g).img)) := by
  obtain ⟨l1, l2, l3⟩ := halves hb
  have ha := hl.a
  have hh := hl.h
  have hap := hl.ap
  have r1 := page_row hb hB hh
  have r2 := mark_row hl 0 (by decide)
  by_cases c1 : 1 ≤ g.left ∧ g.left ≤ 3
  · obtain ⟨f1, f2, f3, f4, f5⟩ := h.fell _ r1 c1
    have st := segs_stop' (ss := [[(A, mkB H 0)]]) (s := [(H, b.take 512), (H + 1, b.drop 512)]) (g := g) (by rw [f1]; decide)
    refine ⟨fun q => absurd ⟨c1.1, by omega⟩ q, fun _ => ?_⟩
    rw [st.1, st.2]
    have same : ∀ i, i < n → i ≠ H → i ≠ H + 1 → sector (putsD [(H, b.take 512), (H + 1, b.drop 512)] g).img i = sector g.img i := fun i hi q1 q2 => f5 i hi (fun y => y = sector g.img i) (fun p hp e => by
      simp at hp
      rcases hp with rfl | rfl
      · exact absurd e.symm q1
      · exact absurd e.symm q2) rfl
    simp only [List.length_cons, List.length_nil] at f4
    refine ⟨f1, f2, f3, by omega, fun i hi q1 q2 => ?_, .inl ⟨?_, ?_, ?_⟩⟩
    · rw [same i hi (by omega) (by omega)]; exact hr i hi q1 q2
    · rw [same A (by omega) (by omega) (by omega)]; exact hs.1
    · rw [same (A + 1) (by omega) (by omega) (by omega)]; exact hs.2.1
    · rw [same (A + 2) (by omega) (by omega) (by omega)]; exact hs.2.2
  · obtain ⟨f1, f2, f3, f4, f5⟩ := h.puts _ r1 c1
    have st := segs_step' (ss := [[(A, mkB H 0)]]) (s := [(H, b.take 512), (H + 1, b.drop 512)]) (g := g) f1
    rw [st.1, st.2]
    have same : ∀ i, i < n → i ≠ H → i ≠ H + 1 → sector (putsD [(H, b.take 512), (H + 1, b.drop 512)] g).img i = sector g.img i := fun i hi q1 q2 => by
      rw [f5 i hi]
      simp [Ne.symm q1, Ne.symm q2]
    have sH : sector (putsD [(H, b.take 512), (H + 1, b.drop 512)] g).img H = b.take 512 := by
      rw [f5 H (by omega)]
      simp
    have sH1 : sector (putsD [(H, b.take 512), (H + 1, b.drop 512)] g).img (H + 1) = b.drop 512 := by
      rw [f5 (H + 1) (by omega)]
      simp
    have sA := (same A (by omega) (by omega) (by omega)).trans hs.1
    have sA1 := (same (A + 1) (by omega) (by omega) (by omega)).trans hs.2.1
    have sA2 := (same (A + 2) (by omega) (by omega) (by omega)).trans hs.2.2
    have hr2 : Rest A H n x (putsD [(H, b.take 512), (H + 1, b.drop 512)] g).img := fun i hi q1 q2 => by rw [same i hi (by omega) (by omega)]; exact hr i hi q1 q2
    clear f5 same st
    simp only [List.length_cons, List.length_nil] at f3 f4
    generalize putsD [(H, b.take 512), (H + 1, b.drop 512)] g = g2 at *
    by_cases c2 : 1 ≤ g2.left ∧ g2.left ≤ 2
    · obtain ⟨e1, e2, e3, e4, e5⟩ := f2.fell _ r2 c2
      have st := segs_stop' (ss := []) (s := [(A, mkB H 0)]) (g := g2) (by rw [e1]; decide)
      refine ⟨fun q => absurd (show 1 ≤ g.left ∧ g.left ≤ 5 by omega) q, fun _ => ?_⟩
      rw [st.1, st.2]
      have same : ∀ i, i < n → i ≠ A → sector (putsD [(A, mkB H 0)] g2).img i = sector g2.img i := fun i hi q1 => e5 i hi (fun y => y = sector g2.img i) (fun p hp e => by
        simp at hp
        subst hp
        exact absurd e.symm q1) rfl
      have mk := e5 A (by omega) (fun y => y = mkB H 165 ∨ y.getD 511 0 = 0) (fun p hp e y m hy hyl hm => by
        simp at hp
        subst hp
        exact torn_gone hyl m hm hy) (.inl sA)
      simp only [List.length_cons, List.length_nil] at e4
      refine ⟨e1, e2, e3, by omega, fun i hi q1 q2 => ?_, ?_⟩
      · rw [same i hi (by omega)]; exact hr2 i hi q1 q2
      · rcases mk with mk | mk
        · exact .inl ⟨mk, by rw [same (A + 1) (by omega) (by omega)]; exact sA1, by rw [same (A + 2) (by omega) (by omega)]; exact sA2⟩
        · refine .inr ⟨mk, ?_⟩
          rw [same H (by omega) (by omega), same (H + 1) (by omega) (by omega), sH, sH1]
          exact l3
    · obtain ⟨e1, e2, e3, e4, e5⟩ := f2.puts _ r2 c2
      have st := segs_step' (ss := []) (s := [(A, mkB H 0)]) (g := g2) e1
      refine ⟨fun _ => ?_, fun q => absurd (show 1 ≤ g2.left ∧ g2.left ≤ 2 by omega) c2⟩
      rw [st.1, st.2]
      simp only [List.length_cons, List.length_nil] at e3 e4
      have same : ∀ i, i < n → i ≠ A → sector (putsD [(A, mkB H 0)] g2).img i = sector g2.img i := fun i hi q1 => by
        rw [e5 i hi]
        simp [Ne.symm q1]
      have mk : sector (putsD [(A, mkB H 0)] g2).img A = mkB H 0 := by
        rw [e5 A (by omega)]
        simp
      refine ⟨rfl, e2, by show (putsD [(A, mkB H 0)] g2).calls = g.calls + 5; omega, by show (putsD [(A, mkB H 0)] g2).left = g.left - 5; omega, fun i hi q1 q2 => ?_, ?_, ?_⟩
      · show sector (putsD [(A, mkB H 0)] g2).img i = x i
        rw [same i hi (by omega)]; exact hr2 i hi q1 q2
      · show (sector (putsD [(A, mkB H 0)] g2).img A).getD 511 0 = 0
        rw [mk, mkB_last]
      · show sector (putsD [(A, mkB H 0)] g2).img H ++ sector (putsD [(A, mkB H 0)] g2).img (H + 1) = b
        rw [same H (by omega) (by omega), same (H + 1) (by omega) (by omega), sH, sH1]
        exact l3

/-- A Write, by segments. -/
structure Wrote (A H n : Nat) (x : Nat → List Nat) (p b : List Nat) (g : Dev) (E : Nat) (D : Dev) : Prop where
  good : ¬ (1 ≤ g.left ∧ g.left ≤ 10) → E = 0 ∧ Run D n ∧ D.calls = g.calls + 10 ∧ D.left = g.left - 10 ∧ Rest A H n x D.img ∧ Quiet A H b D.img
  bad : 1 ≤ g.left ∧ g.left ≤ 10 → E = 40 ∧ Run D.up n ∧ D.down = true ∧ D.calls ≤ g.calls + 10 ∧ Rest A H n x D.img ∧ (Quiet A H p D.img ∧ g.left ≤ 5 ∨ (Stand A H b D.img ∨ Quiet A H b D.img) ∧ 4 ≤ g.left)
theorem write_segs (h : Run g n) (hl : Lie A H n) (hr : Rest A H n x g.img) (hq : Quiet A H p g.img) (hb : b.length = 1024) (hB : AllB b) : Wrote A H n x p b g (segsE (twSegs A H b) g) (segsD (twSegs A H b) g) := by
  obtain ⟨l1, l2, l3⟩ := halves hb
  have ha := hl.a
  have hh := hl.h
  have hap := hl.ap
  have r1 : ∀ q ∈ ([(A + 1, b.take 512), (A + 2, b.drop 512)] : List (Nat × List Nat)), q.1 < n ∧ q.2.length = 512 ∧ AllB q.2 := page_row (n := n) hb hB (f := A + 1) (by omega)
  have r2 := mark_row hl 165 (by decide)
  unfold twSegs
  by_cases c1 : 1 ≤ g.left ∧ g.left ≤ 3
  · obtain ⟨f1, f2, f3, f4, f5⟩ := h.fell _ r1 c1
    have st := segs_stop' (ss := [[(A, mkB H 165)], [(H, b.take 512), (H + 1, b.drop 512)], [(A, mkB H 0)]]) (s := [(A + 1, b.take 512), (A + 2, b.drop 512)]) (g := g) (by rw [f1]; decide)
    rw [st.1, st.2]
    have same : ∀ i, i < n → i ≠ A + 1 → i ≠ A + 2 → sector (putsD [(A + 1, b.take 512), (A + 2, b.drop 512)] g).img i = sector g.img i := fun i hi q1 q2 => f5 i hi (fun y => y = sector g.img i) (fun p hp e => by
      simp at hp
      rcases hp with rfl | rfl
      · exact absurd e.symm q1
      · exact absurd e.symm q2) rfl
    simp only [List.length_cons, List.length_nil] at f4
    refine ⟨fun q => absurd ⟨c1.1, by omega⟩ q, fun _ => ⟨f1, f2, f3, by omega, fun i hi q1 q2 => ?_, .inl ⟨⟨?_, ?_⟩, by omega⟩⟩⟩
    · rw [same i hi (by omega) (by omega)]; exact hr i hi q1 q2
    · rw [same A (by omega) (by omega) (by omega)]; exact hq.1
    · rw [same H (by omega) (by omega) (by omega), same (H + 1) (by omega) (by omega) (by omega)]; exact hq.2
  · obtain ⟨f1, f2, f3, f4, f5⟩ := h.puts _ r1 c1
    have st := segs_step' (ss := [[(A, mkB H 165)], [(H, b.take 512), (H + 1, b.drop 512)], [(A, mkB H 0)]]) (s := [(A + 1, b.take 512), (A + 2, b.drop 512)]) (g := g) f1
    rw [st.1, st.2]
    have same : ∀ i, i < n → i ≠ A + 1 → i ≠ A + 2 → sector (putsD [(A + 1, b.take 512), (A + 2, b.drop 512)] g).img i = sector g.img i := fun i hi q1 q2 => by
      have q := f5 i hi
      simp only [List.foldl_cons, List.foldl_nil] at q
      rw [if_neg (Ne.symm q2), if_neg (Ne.symm q1)] at q
      exact q
    have sA1 : sector (putsD [(A + 1, b.take 512), (A + 2, b.drop 512)] g).img (A + 1) = b.take 512 := by
      have q := f5 (A + 1) (by omega)
      simp only [List.foldl_cons, List.foldl_nil] at q
      rw [if_neg (by omega), if_pos trivial] at q
      exact q
    have sA2 : sector (putsD [(A + 1, b.take 512), (A + 2, b.drop 512)] g).img (A + 2) = b.drop 512 := by
      have q := f5 (A + 2) (by omega)
      simp only [List.foldl_cons, List.foldl_nil] at q
      rw [if_pos trivial] at q
      exact q
    have sA : (sector (putsD [(A + 1, b.take 512), (A + 2, b.drop 512)] g).img A).getD 511 0 = 0 := by rw [same A (by omega) (by omega) (by omega)]; exact hq.1
    have sH : sector (putsD [(A + 1, b.take 512), (A + 2, b.drop 512)] g).img H ++ sector (putsD [(A + 1, b.take 512), (A + 2, b.drop 512)] g).img (H + 1) = p := by
      rw [same H (by omega) (by omega) (by omega), same (H + 1) (by omega) (by omega) (by omega)]; exact hq.2
    have hr2 : Rest A H n x (putsD [(A + 1, b.take 512), (A + 2, b.drop 512)] g).img := fun i hi q1 q2 => by rw [same i hi (by omega) (by omega)]; exact hr i hi q1 q2
    clear f5 same st
    simp only [List.length_cons, List.length_nil] at f3 f4
    generalize putsD [(A + 1, b.take 512), (A + 2, b.drop 512)] g = g2 at *
    by_cases c2 : 1 ≤ g2.left ∧ g2.left ≤ 2
    · obtain ⟨e1, e2, e3, e4, e5⟩ := f2.fell _ r2 c2
      have st := segs_stop' (ss := [[(H, b.take 512), (H + 1, b.drop 512)], [(A, mkB H 0)]]) (s := [(A, mkB H 165)]) (g := g2) (by rw [e1]; decide)
      rw [st.1, st.2]
      have same : ∀ i, i < n → i ≠ A → sector (putsD [(A, mkB H 165)] g2).img i = sector g2.img i := fun i hi q1 => e5 i hi (fun y => y = sector g2.img i) (fun p hp e => by
        simp at hp
        subst hp
        exact absurd e.symm q1) rfl
      have mk := e5 A (by omega) (fun y => y.getD 511 0 = 0 ∨ y = mkB H 165) (fun p hp e y m hy hyl hm => by
        simp at hp
        subst hp
        exact torn_mark hyl m hm hy) (.inl sA)
      simp only [List.length_cons, List.length_nil] at e4
      refine ⟨fun q => absurd (show 1 ≤ g.left ∧ g.left ≤ 10 by omega) q, fun _ => ⟨e1, e2, e3, by omega, fun i hi q1 q2 => ?_, ?_⟩⟩
      · rw [same i hi (by omega)]; exact hr2 i hi q1 q2
      · rcases mk with mk | mk
        · refine .inl ⟨⟨mk, ?_⟩, by omega⟩
          rw [same H (by omega) (by omega), same (H + 1) (by omega) (by omega)]
          exact sH
        · exact .inr ⟨.inl ⟨mk, by rw [same (A + 1) (by omega) (by omega)]; exact sA1, by rw [same (A + 2) (by omega) (by omega)]; exact sA2⟩, by omega⟩
    · obtain ⟨e1, e2, e3, e4, e5⟩ := f2.puts _ r2 c2
      have st := segs_step' (ss := [[(H, b.take 512), (H + 1, b.drop 512)], [(A, mkB H 0)]]) (s := [(A, mkB H 165)]) (g := g2) e1
      rw [st.1, st.2]
      simp only [List.length_cons, List.length_nil] at e3 e4
      have same : ∀ i, i < n → i ≠ A → sector (putsD [(A, mkB H 165)] g2).img i = sector g2.img i := fun i hi q1 => by
        rw [e5 i hi]
        simp [Ne.symm q1]
      have mk : sector (putsD [(A, mkB H 165)] g2).img A = mkB H 165 := by
        rw [e5 A (by omega)]
        simp
      have hr3 : Rest A H n x (putsD [(A, mkB H 165)] g2).img := fun i hi q1 q2 => by rw [same i hi (by omega)]; exact hr2 i hi q1 q2
      have hst : Stand A H b (putsD [(A, mkB H 165)] g2).img := ⟨mk, by rw [same (A + 1) (by omega) (by omega)]; exact sA1, by rw [same (A + 2) (by omega) (by omega)]; exact sA2⟩
      obtain ⟨k1, k2⟩ := home_segs e2 hl hr3 hst hb hB
      generalize putsD [(A, mkB H 165)] g2 = g3 at *
      by_cases c3 : 1 ≤ g3.left ∧ g3.left ≤ 5
      · obtain ⟨m1, m2, m3, m4, m5, m6⟩ := k2 c3
        exact ⟨fun q => absurd (show 1 ≤ g.left ∧ g.left ≤ 10 by omega) q, fun _ => ⟨m1, m2, m3, by omega, m5, .inr ⟨m6, by omega⟩⟩⟩
      · obtain ⟨m1, m2, m3, m4, m5, m6⟩ := k1 c3
        exact ⟨fun _ => ⟨m1, m2, by omega, by omega, m5, m6⟩, fun q => absurd (show 1 ≤ g3.left ∧ g3.left ≤ 5 by omega) c3⟩
theorem Run.has {g : Dev} {n : Nat} (h : Run g n) (f c : Nat) (hf : f + c ≤ n) : g.has (f : Int) c = true := by
  unfold Dev.has
  rw [h.n_eq]
  simp
  omega
theorem Run.homeB {g : Dev} {n : Nat} (h : Run g n) (hl : Lie A H n) : g.homeB (A : Int) (H : Int) = true := by
  have := hl.ap
  unfold Dev.homeB
  rw [h.has H 2 hl.h]
  simp
  omega
theorem Run.write {g : Dev} (h : Run g n) (hl : Lie A H n) (hr : Rest A H n x g.img) (hq : Quiet A H p g.img) (hb : b.length = 1024) (hB : AllB b) : Wrote A H n x p b g (g.twE (A : Int) (H : Int) b) (g.twD (A : Int) (H : Int) b) := by
  have hE : g.twE (A : Int) (H : Int) b = segsE (twSegs A H b) g := by
    unfold Dev.twE
    rw [h.up, if_neg (by simp), h.has A 3 hl.a, h.homeB hl, if_neg (by simp), if_neg (by omega)]
    rfl
  have hD : g.twD (A : Int) (H : Int) b = segsD (twSegs A H b) g := by
    unfold Dev.twD
    rw [h.up, if_neg (by simp), h.has A 3 hl.a, h.homeB hl, if_neg (by simp), if_neg (by omega)]
    rfl
  rw [hE, hD]
  exact write_segs h hl hr hq hb hB
/-- A Finish where nothing is to be done. -/
theorem Run.finish_quiet {g : Dev} (h : Run g n) (hl : Lie A H n) (hq : Quiet A H p g.img) : g.fnE (A : Int) = 0 ∧ g.fnD (A : Int) = g ∧ g.fnB (A : Int) = false := by
  have hm : (g.mark (A : Int)).getD 511 0 = 0 := by unfold Dev.mark; rw [Int.toNat_natCast, h.content]; exact hq.1
  refine ⟨?_, ?_, ?_⟩
  · unfold Dev.fnE
    rw [h.up, if_neg (by simp), h.has A 3 hl.a, if_neg (by simp), if_pos hm]
  · unfold Dev.fnD
    rw [h.up, if_neg (by simp), h.has A 3 hl.a, if_neg (by simp), if_pos hm]
  · unfold Dev.fnB
    rw [hm]
    simp
theorem Run.finish_stand {g : Dev} (h : Run g n) (hl : Lie A H n) (hr : Rest A H n x g.img) (hs : Stand A H b g.img) (hb : b.length = 1024) (hB : AllB b) :
    (¬ (1 ≤ g.left ∧ g.left ≤ 5) → g.fnE (A : Int) = 0 ∧ g.fnB (A : Int) = true ∧ Run (g.fnD (A : Int)) n ∧ (g.fnD (A : Int)).calls = g.calls + 5 ∧ Rest A H n x (g.fnD (A : Int)).img ∧ Quiet A H b (g.fnD (A : Int)).img) ∧
    (1 ≤ g.left ∧ g.left ≤ 5 → g.fnE (A : Int) = 40 ∧ g.fnB (A : Int) = false ∧ Run (g.fnD (A : Int)).up n ∧ (g.fnD (A : Int)).down = true ∧ (g.fnD (A : Int)).calls ≤ g.calls + 5 ∧ Rest A H n x (g.fnD (A : Int)).img ∧ (Stand A H b (g.fnD (A : Int)).img ∨ Quiet A H b (g.fnD (A : Int)).img)) := by
  have hbig := hl.big
  have hh := hl.h
  have hm : g.mark (A : Int) = mkB H 165 := by unfold Dev.mark; rw [Int.toNat_natCast, h.content]; exact hs.1
  have hm5 : ¬ (g.mark (A : Int)).getD 511 0 = 0 := by rw [hm, mkB_last]; decide
  have hN : homeN (g.mark (A : Int)) = H := by rw [hm, homeN_mkB H 165 (by omega)]
  have hsn : g.sense (A : Int) = true := by
    unfold Dev.sense
    rw [hN, hm, h.homeB hl]
    simp
  have hsg : g.fnSg (A : Int) = [[(H, b.take 512), (H + 1, b.drop 512)], [(A, mkB H 0)]] := by
    unfold Dev.fnSg fnSegs
    rw [hN, Int.toNat_natCast, h.content, h.content, hs.2.1, hs.2.2]
  have hE : g.fnE (A : Int) = segsE [[(H, b.take 512), (H + 1, b.drop 512)], [(A, mkB H 0)]] g := by
    unfold Dev.fnE
    rw [h.up, if_neg (by simp), h.has A 3 hl.a, if_neg (by simp), if_neg hm5, hsn, if_neg (by simp), hsg]
  have hD : g.fnD (A : Int) = segsD [[(H, b.take 512), (H + 1, b.drop 512)], [(A, mkB H 0)]] g := by
    unfold Dev.fnD
    rw [h.up, if_neg (by simp), h.has A 3 hl.a, if_neg (by simp), if_neg hm5, hsn, if_neg (by simp), hsg]
  have hF : g.fnB (A : Int) = decide (g.fnE (A : Int) = 0) := by
    unfold Dev.fnB
    rw [decide_eq_true hm5, Bool.and_true]
  obtain ⟨k1, k2⟩ := home_segs h hl hr hs hb hB
  rw [hF, hE, hD]
  refine ⟨fun q => ?_, fun q => ?_⟩
  · obtain ⟨m1, m2, m3, m4, m5, m6⟩ := k1 q
    exact ⟨m1, by rw [m1]; rfl, m2, m3, m5, m6⟩
  · obtain ⟨m1, m2, m3, m4, m5, m6⟩ := k2 q
    exact ⟨m1, by rw [m1]; rfl, m2, m3, m4, m5, m6⟩
theorem Run.read {g : Dev} (h : Run g n) {f : Nat} (hf : f + 2 ≤ n) : g.rdE (f : Int) = 0 ∧ g.rdB (f : Int) = sector g.img f ++ sector g.img (f + 1) := by
  have hE : g.rdE (f : Int) = 0 := by
    unfold Dev.rdE
    rw [h.up, if_neg (by simp), h.has f 2 hf, if_neg (by simp)]
  refine ⟨hE, ?_⟩
  unfold Dev.rdB
  rw [if_pos hE, Int.toNat_natCast, h.content, h.content]
end
end Go.QK
