import Derived.Test.YtapjbgkmcplpbaaGreatG15
namespace Go.Proofs.YtapjbgkmcplpbaaGreat
open Go.RowKit Go.QK

theorem wrapI_fit (n : Nat) (h : n < 9223372036854775808) : IntKind.i64.wrap (n : Int) = (n : Int) := by rw [IntKind.wrap_i64]; omega

set_option maxHeartbeats 1000000 in
set_option maxRecDepth 100000 in
theorem apart_any (L : List Nat) (w : World) (hl : L.length = 512) (hb : AllB L) :
    Calls Tryz.prog 87 #[.agg (bytesV L)] w fun e w' => e = .returned (.agg (slotC (apartB L))) ∧ Below w.heap.size w w' := by
  obtain ⟨f1, f2, f3, f4, f5⟩ := apartB_fit hb
  obtain ⟨w2, hw2⟩ : ∃ w2, w2 = ((w.alloc (.cells (bytesV L) 108)).alloc (.cells #[.int .u64 0, .int .i64 0, .int .i64 0, .int .i64 0, .int .i64 0] 82)) := ⟨_, rfl⟩
  have z2 : w2.heap.size = w.heap.size + 2 := by rw [hw2]; simp
  have b2 : Below w.heap.size w w2 := by rw [hw2]; exact ((Below.refl _ w).alloc (Nat.le_refl _) _).alloc (by simp) _
  have a2 : Arr w2 108 w.heap.size L := by rw [hw2]; exact (Arr.new w 108 L).below (alloc_below _ _)
  have n1 := number_any w.heap.size 1 8 L w2 a2 hl hb (by omega) (by omega) (by omega)
  have n2 := number_any w.heap.size 9 1 L w2 a2 hl hb (by omega) (by omega) (by omega)
  have n3 := number_any w.heap.size 10 2 L w2 a2 hl hb (by omega) (by omega) (by omega)
  have n4 := number_any w.heap.size 12 1 L w2 a2 hl hb (by omega) (by omega) (by omega)
  have n5 := number_any w.heap.size 13 4 L w2 a2 hl hb (by omega) (by omega) (by omega)
  obtain ⟨x1, h1⟩ : ∃ x, x = fromB ((L.drop 1).take 8) := ⟨_, rfl⟩
  obtain ⟨x2, h2⟩ : ∃ x, x = fromB ((L.drop 9).take 1) := ⟨_, rfl⟩
  obtain ⟨x3, h3⟩ : ∃ x, x = fromB ((L.drop 10).take 2) := ⟨_, rfl⟩
  obtain ⟨x4, h4⟩ : ∃ x, x = fromB ((L.drop 12).take 1) := ⟨_, rfl⟩
  obtain ⟨x5, h5⟩ : ∃ x, x = fromB ((L.drop 13).take 4) := ⟨_, rfl⟩
  have ea : apartB L = ⟨x1, x2, x3, x4, x5⟩ := by rw [h1, h2, h3, h4, h5]; rfl
  rw [ea] at f1 f2 f3 f4 f5 ⊢
  rw [← h1] at n1
  rw [← h2] at n2
  rw [← h3] at n3
  rw [← h4] at n4
  rw [← h5] at n5
  have N1 := hide n1
  have N2 := hide n2
  have N3 := hide n3
  have N4 := hide n4
  have N5 := hide n5
  have e2 := wrapI_fit x2 (by simp at f2; omega)
  have e3 := wrapI_fit x3 (by simp at f3; omega)
  have e4 := wrapI_fit x4 (by simp at f4; omega)
  have e5 := wrapI_fit x5 (by simp at f5; omega)
  have cs : Cells w2 (w.heap.size + 1) [.int .u64 0, .int .i64 0, .int .i64 0, .int .i64 0, .int .i64 0] := by
    have := Cells.new (w.alloc (.cells (bytesV L) 108)) #[.int .u64 0, .int .i64 0, .int .i64 0, .int .i64 0, .int .i64 0] 82
    rw [World.size_alloc] at this
    rw [hw2]; exact this
  obtain ⟨c0, q0⟩ := cs.2 0 (by simp)
  obtain ⟨c1, q1⟩ := cs.2 1 (by simp)
  obtain ⟨c2, q2⟩ := cs.2 2 (by simp)
  obtain ⟨c3, q3⟩ := cs.2 3 (by simp)
  obtain ⟨c4, q4⟩ := cs.2 4 (by simp)
  simp only [List.getElem_cons_zero, List.getElem_cons_succ] at c0 c1 c2 c3 c4
  clear cs
  have HW := hide hw2
  have B2 := hide b2
  clear n1 n2 n3 n4 n5 h1 h2 h3 h4 h5 ea hw2 b2 a2 f1 f2 f3 f4 f5 hl hb
  unfold slotC
  go_enter Tryz.func87, Tryz.ntmps87
  go_wp2_with fail
  rw [← HW.out]
  refine N1.out.mono ?_
  rintro e w' ⟨rfl, rfl⟩
  go_wp2_with fail
  refine N2.out.mono ?_
  rintro e w' ⟨rfl, rfl⟩
  go_wp2_with fail
  refine N3.out.mono ?_
  rintro e w' ⟨rfl, rfl⟩
  go_wp2_with fail
  refine N4.out.mono ?_
  rintro e w' ⟨rfl, rfl⟩
  go_wp2_with fail
  refine N5.out.mono ?_
  rintro e w' ⟨rfl, rfl⟩
  go_wp2_with fail
  refine bodyPost_ret (v := .agg #[.int .u64 (x1 : Int), .int .i64 (x2 : Int), .int .i64 (x3 : Int), .int .i64 (x4 : Int), .int .i64 (x5 : Int)]) (by simp [results, Tryz.results87, go_sem, c0, c1, c2, c3, c4]) rfl ⟨rfl, ?_⟩
  exact ((((B2.out.setCell (by show _ ≤ w.heap.size + 1; omega) _).setCell (by show _ ≤ w.heap.size + 1; omega) _).setCell (by show _ ≤ w.heap.size + 1; omega) _).setCell (by show _ ≤ w.heap.size + 1; omega) _).setCell (by show _ ≤ w.heap.size + 1; omega) _

set_option maxRecDepth 100000 in
theorem home_any (s : Slot) (w : World) (h : s.stamp < 18446744073709551616) : Calls Tryz.prog 84 #[.agg (slotC s)] w fun e w' => e = .returned (.int .i64 ((s.stamp % 2 : Nat) : Int)) ∧ Below w.heap.size w w' := by
  have e1 : ((s.stamp : Int)).tmod 2 = ((s.stamp % 2 : Nat) : Int) := by rw [Int.tmod_eq_emod_of_nonneg (by omega)]; omega
  have e2 := wrapI_fit (s.stamp % 2) (by omega)
  have e3 := wrap_fit (s.stamp % 2) (by omega)
  generalize hm : s.stamp % 2 = m at *
  have HM := hide hm
  clear hm
  unfold slotC
  go_enter Tryz.func84, Tryz.ntmps84
  go_wp2_with fail
  go_ret
  exact ⟨rfl, alloc_below _ _⟩

def shC (p l f : Int) : Array Value := #[.int .i64 p, .int .i64 l, .int .i64 f]
set_option maxRecDepth 100000 in
theorem from_any (a n b : Int) (w : World) : Calls Tryz.prog 68 #[.int .i64 a, .int .i64 n, .int .i64 b] w fun e w' => e = .returned (.bool (decide (a ≤ n ∧ n ≤ b))) ∧ w' = w := by
  by_cases h1 : a ≤ n
  · by_cases h2 : n ≤ b
    · rw [decide_eq_true (show a ≤ n ∧ n ≤ b from ⟨h1, h2⟩)]
      go_enter Tryz.func68, Tryz.ntmps68
      go_wp2_with fail
      go_ret
      exact ⟨rfl, rfl⟩
    · rw [decide_eq_false (show ¬ (a ≤ n ∧ n ≤ b) from fun q => h2 q.2)]
      go_enter Tryz.func68, Tryz.ntmps68
      go_wp2_with fail
      go_ret
      exact ⟨rfl, rfl⟩
  · rw [decide_eq_false (show ¬ (a ≤ n ∧ n ≤ b) from fun q => h1 q.1)]
    go_enter Tryz.func68, Tryz.ntmps68
    go_wp2_with fail
    go_ret
    exact ⟨rfl, rfl⟩

theorem from_yes (a n b : Int) (w : World) (h : a ≤ n ∧ n ≤ b) : Calls Tryz.prog 68 #[.int .i64 a, .int .i64 n, .int .i64 b] w fun e w' => e = .returned (.bool true) ∧ w' = w := by
  have := from_any a n b w
  rwa [decide_eq_true h] at this
theorem from_no (a n b : Int) (w : World) (h : ¬ (a ≤ n ∧ n ≤ b)) : Calls Tryz.prog 68 #[.int .i64 a, .int .i64 n, .int .i64 b] w fun e w' => e = .returned (.bool false) ∧ w' = w := by
  have := from_any a n b w
  rwa [decide_eq_false h] at this

set_option maxHeartbeats 1000000 in
set_option maxRecDepth 100000 in
theorem mayBe_any (p l f : Int) (w : World) : Calls Tryz.prog 44 #[.agg (shC p l f)] w fun e w' => e = .returned (.bool (decide (mayN p l f))) ∧ Below w.heap.size w w' := by
  unfold shC
  by_cases h1 : 2 ≤ p ∧ p ≤ 64
  · have F1 := hide (from_yes 2 p 64 (w.alloc (.cells #[.int .i64 p, .int .i64 l, .int .i64 f] 23)) h1)
    by_cases h2 : 4 ≤ l ∧ l ≤ 4096
    · have F2 := hide (from_yes 4 l 4096 (w.alloc (.cells #[.int .i64 p, .int .i64 l, .int .i64 f] 23)) h2)
      by_cases h3 : 2 ≤ f ∧ f ≤ 16
      · have F3 := hide (from_yes 2 f 16 (w.alloc (.cells #[.int .i64 p, .int .i64 l, .int .i64 f] 23)) h3)
        rw [decide_eq_true (show mayN p l f from ⟨h1.1, h1.2, h2.1, h2.2, h3.1, h3.2⟩)]
        clear h1 h2 h3
        go_enter Tryz.func44, Tryz.ntmps44
        go_wp2_with fail
        refine F1.out.mono ?_
        rintro e w' ⟨rfl, rfl⟩
        go_wp2_with fail
        refine F2.out.mono ?_
        rintro e w' ⟨rfl, rfl⟩
        go_wp2_with fail
        refine F3.out.mono ?_
        rintro e w' ⟨rfl, rfl⟩
        go_wp2_with fail
        go_ret
        exact ⟨rfl, alloc_below _ _⟩
      · have F3 := hide (from_no 2 f 16 (w.alloc (.cells #[.int .i64 p, .int .i64 l, .int .i64 f] 23)) h3)
        rw [decide_eq_false (show ¬ mayN p l f from fun q => h3 q.2.2.2.2)]
        clear h1 h2 h3
        go_enter Tryz.func44, Tryz.ntmps44
        go_wp2_with fail
        refine F1.out.mono ?_
        rintro e w' ⟨rfl, rfl⟩
        go_wp2_with fail
        refine F2.out.mono ?_
        rintro e w' ⟨rfl, rfl⟩
        go_wp2_with fail
        refine F3.out.mono ?_
        rintro e w' ⟨rfl, rfl⟩
        go_wp2_with fail
        go_ret
        exact ⟨rfl, alloc_below _ _⟩
    · have F2 := hide (from_no 4 l 4096 (w.alloc (.cells #[.int .i64 p, .int .i64 l, .int .i64 f] 23)) h2)
      rw [decide_eq_false (show ¬ mayN p l f from fun q => h2 ⟨q.2.2.1, q.2.2.2.1⟩)]
      clear h1 h2
      go_enter Tryz.func44, Tryz.ntmps44
      go_wp2_with fail
      refine F1.out.mono ?_
      rintro e w' ⟨rfl, rfl⟩
      go_wp2_with fail
      refine F2.out.mono ?_
      rintro e w' ⟨rfl, rfl⟩
      go_wp2_with fail
      go_ret
      exact ⟨rfl, alloc_below _ _⟩
  · have F1 := hide (from_no 2 p 64 (w.alloc (.cells #[.int .i64 p, .int .i64 l, .int .i64 f] 23)) h1)
    rw [decide_eq_false (show ¬ mayN p l f from fun q => h1 ⟨q.1, q.2.1⟩)]
    clear h1
    go_enter Tryz.func44, Tryz.ntmps44
    go_wp2_with fail
    refine F1.out.mono ?_
    rintro e w' ⟨rfl, rfl⟩
    go_wp2_with fail
    go_ret
    exact ⟨rfl, alloc_below _ _⟩

def cell3 (w : World) (b : Nat) (p l f : Int) : Prop := Cells w b [.int .i64 p, .int .i64 l, .int .i64 f]
theorem cell3.new (w : World) (p l f : Int) : cell3 (w.alloc (.cells #[.int .i64 p, .int .i64 l, .int .i64 f] 23)) w.heap.size p l f := Cells.new w _ 23
theorem cell3.below {w w' : World} {b : Nat} {p l f : Int} (h : cell3 w b p l f) (hb : Below w.heap.size w w') : cell3 w' b p l f := Cells.keep h (Keep.of_below (S := fun _ => False) hb) (fun q => q)
theorem cell3.keep {w w' : World} {b : Nat} {p l f : Int} {S : Nat → Prop} (h : cell3 w b p l f) (hb : Keep S w w') (hn : ¬ S b) : cell3 w' b p l f := Cells.keep h hb hn
theorem cell3.c0 {w : World} {b : Nat} {p l f : Int} (h : cell3 w b p l f) : w.cell? ⟨b, 0, none⟩ = some (.int .i64 p) := (h.2 0 (by simp)).1
theorem cell3.c1 {w : World} {b : Nat} {p l f : Int} (h : cell3 w b p l f) : w.cell? ⟨b, 1, none⟩ = some (.int .i64 l) := (h.2 1 (by simp)).1
theorem cell3.c2 {w : World} {b : Nat} {p l f : Int} (h : cell3 w b p l f) : w.cell? ⟨b, 2, none⟩ = some (.int .i64 f) := (h.2 2 (by simp)).1
theorem cell3.fr {w : World} {b : Nat} {p l f : Int} (h : cell3 w b p l f) (j : Nat) (hj : j < 3) : w.frozen? ⟨b, j, none⟩ = false := (h.2 j (by simpa using hj)).2

set_option maxHeartbeats 1000000 in
set_option maxRecDepth 100000 in
theorem log_any (p l f : Int) (w : World) : Calls Tryz.prog 11 #[.agg (shC p l f)] w fun e w' => e = .returned (.tuple #[.int .i64 (if mayN p l f then 5 + 2 * p else 0), .int .i64 ((mayE p l f : Nat) : Int)]) ∧ Below w.heap.size w w' := by
  have K := mayBe_any p l f (w.alloc (.cells #[.int .i64 p, .int .i64 l, .int .i64 f] 23))
  have C0 := cell3.new w p l f
  have B0 := alloc_below w (.cells #[.int .i64 p, .int .i64 l, .int .i64 f] 23)
  unfold mayE
  unfold shC at K ⊢
  by_cases h : mayN p l f
  · rw [if_pos h, if_pos h]
    rw [decide_eq_true h] at K
    have K := hide K
    have hp : 2 ≤ p ∧ p ≤ 64 := ⟨h.1, h.2.1⟩
    have e1 : wrap64 (2 * p) = 2 * p := by unfold wrap64; omega
    have e2 : wrap64 (5 + 2 * p) = 5 + 2 * p := by unfold wrap64; omega
    clear h
    go_enter Tryz.func11, Tryz.ntmps11
    go_wp2_with fail
    refine K.out.mono ?_
    rintro e w1 ⟨rfl, b1⟩
    have c0 := (C0.below b1).c0
    have B1 := hide (bnext B0 b1 (Nat.le_refl _))
    clear K b1 C0 B0
    go_wp2_with fail
    exact bodyPost_ret (v := .tuple #[.int .i64 (5 + 2 * p), .int .i64 0]) (by simp [results, Tryz.results11, go_sem]) rfl ⟨rfl, B1.out⟩
  · rw [if_neg h, if_neg h]
    rw [decide_eq_false h] at K
    have K := hide K
    clear h
    go_enter Tryz.func11, Tryz.ntmps11
    go_wp2_with fail
    refine K.out.mono ?_
    rintro e w1 ⟨rfl, b1⟩
    have B1 := hide (bnext B0 b1 (Nat.le_refl _))
    clear K b1 C0 B0
    go_wp2_with fail
    exact bodyPost_ret (v := .tuple #[.int .i64 0, .int .i64 2]) (by simp [results, Tryz.results11, go_sem]) rfl ⟨rfl, B1.out⟩

set_option maxHeartbeats 1000000 in
set_option maxRecDepth 100000 in
theorem need_any (p l f : Int) (w : World) : Calls Tryz.prog 9 #[.agg (shC p l f)] w fun e w' => e = .returned (.tuple #[.int .i64 (needN p l f), .int .i64 ((mayE p l f : Nat) : Int)]) ∧ Below w.heap.size w w' := by
  have K := log_any p l f (w.alloc (.cells #[.int .i64 p, .int .i64 l, .int .i64 f] 23))
  have C0 := cell3.new w p l f
  have B0 := alloc_below w (.cells #[.int .i64 p, .int .i64 l, .int .i64 f] 23)
  unfold needN
  unfold mayE at K ⊢
  unfold shC at K ⊢
  by_cases h : mayN p l f
  · rw [if_pos h, if_pos h] at K ⊢
    have K := hide K
    have hp : 2 ≤ p ∧ p ≤ 64 ∧ 4 ≤ l ∧ l ≤ 4096 := ⟨h.1, h.2.1, h.2.2.1, h.2.2.2.1⟩
    have e1 : wrap64 (5 + 2 * p + l) = 5 + 2 * p + l := by unfold wrap64; omega
    clear h
    go_enter Tryz.func9, Tryz.ntmps9
    go_wp2_with fail
    refine K.out.mono ?_
    rintro e w1 ⟨rfl, b1⟩
    have c1 := (C0.below b1).c1
    have B1 := hide (bnext B0 b1 (Nat.le_refl _))
    clear K b1 C0 B0
    go_wp2_with fail
    exact bodyPost_ret (v := .tuple #[.int .i64 (5 + 2 * p + l), .int .i64 0]) (by simp [results, Tryz.results9, go_sem]) rfl ⟨rfl, B1.out⟩
  · rw [if_neg h, if_neg h] at K ⊢
    have K := hide K
    clear h
    go_enter Tryz.func9, Tryz.ntmps9
    go_wp2_with fail
    refine K.out.mono ?_
    rintro e w1 ⟨rfl, b1⟩
    have B1 := hide (bnext B0 b1 (Nat.le_refl _))
    clear K b1 C0 B0
    go_wp2_with fail
    exact bodyPost_ret (v := .tuple #[.int .i64 0, .int .i64 2]) (by simp [results, Tryz.results9, go_sem]) rfl ⟨rfl, B1.out⟩
end Go.Proofs.YtapjbgkmcplpbaaGreat
