import Derived.Test.YthaiagalndcndaaPo7
namespace Go.Proofs.Ythaiagalndcndaa
open Go.RowKit Go.QK Go.Maps Go.QM Go.QP
set_option maxRecDepth 100000
theorem lies_lit (w : World) (l : List Dr) (cs : Array Value) (t : TypeId) (h : cs.toList = drs l) : Lies (w.alloc (.cells cs t)) (some ⟨w.heap.size, 0, none⟩) (drs l) := by
  have q := Cells.new w cs t
  rw [h] at q
  refine .inr ⟨w.heap.size, 0, rfl, q.1, fun i hi => ?_⟩
  have r := (q.2 i hi).1
  rw [Nat.zero_add]
  exact r
abbrev lA : List Dr := [(3, 9), (1, 4)]
abbrev lB : List Dr := [(3, 2)]
abbrev lC : List Dr := [(3, 0)]
abbrev lD : List Dr := [(64, 1)]
theorem aw_m : mergeL lA lB = [(1, 4), (3, 2)] := by decide +kernel
theorem aw_f : faultE (lA ++ lB) = 0 := by decide
theorem aw_g : faultE (lC ++ lD) = 23 := by decide
theorem aw_l : fromL lA = 4 := by decide
theorem aw_c1 : chkE (ptsR [] [] 1) = 0 := by decide
theorem aw_c0 : chkE (ptsR [] [] 0) = 23 := by decide
theorem aw_merge (p q : Addr) (w : World) (h1 : Lies w (some p) (drs lA)) (h2 : Lies w (some q) (drs lB)) : Calls Try.prog 19 #[.slice (some p) 2 2, .slice (some q) 1 1] w fun e w' => ∃ v, e = .returned (.tuple #[v, .int .i64 0]) ∧ DRow w' w.heap.size v [(1, 4), (3, 2)] ∧ Below w.heap.size w w' := by
  have K := merge_yes (some p) (some q) 2 1 lA lB w ⟨h1, by simp, nofun⟩ ⟨h2, by simp, nofun⟩ aw_f
  rw [aw_m] at K
  exact K
theorem aw_merge2 (p q : Addr) (w : World) (h1 : Lies w (some p) (drs lC)) (h2 : Lies w (some q) (drs lD)) : Calls Try.prog 19 #[.slice (some p) 1 1, .slice (some q) 1 1] w fun e w' => e = .returned (.tuple #[.slice none 0 0, .int .i64 23]) ∧ Below w.heap.size w w' := by
  have K := merge_no (some p) (some q) 1 1 lC lD w ⟨h1, by simp, nofun⟩ ⟨h2, by simp, nofun⟩ (by rw [aw_g]; decide)
  rw [aw_g] at K
  exact K
theorem aw_check (n : Int) (E : Nat) (h : chkE (ptsR [] [] n) = E) (w : World) : Calls Try.prog 14 #[ptsV (.slice none 0 0) none 0 0 n] w fun e w' => e = .returned (.int .i64 (E : Int)) ∧ Below w.heap.size w w' := by
  have K := pcheck_any [] [] none none 0 0 n w (.inl rfl) (.inl rfl)
  rw [h] at K
  exact K
theorem aw_from (p : Addr) (w : World) (h1 : Lies w (some p) (drs lA)) : Calls Try.prog 11 #[ptsV (.slice none 0 0) (some p) 2 2 0] w fun e w' => e = .returned (.int .i64 4) ∧ Below w.heap.size w w' := by
  have K := from_any none 0 0 (some p) 2 lA 0 w h1 (by simp)
  rw [aw_l] at K
  exact K
set_option maxHeartbeats 4000000 in
theorem awake_any (w : World) : Calls Try.prog 7 #[] w fun e w' => e = .returned (.bool true) ∧ Below w.heap.size w w' := by
  have K1 := fun w' h1 h2 => aw_merge ⟨w.heap.size, 0, none⟩ ⟨w.heap.size + 1, 0, none⟩ w' h1 h2
  go_enter Try.func7, Try.ntmps7
  go_upto_region 1 with fail
  go_wp2_with fail
  have L1 := lies_lit w lA #[.int .i64 3, .int .i64 9, .int .i64 1, .int .i64 4] 28 rfl
  have L2 := lies_lit (w.alloc (.cells #[.int .i64 3, .int .i64 9, .int .i64 1, .int .i64 4] 28)) lB #[.int .i64 3, .int .i64 2] 28 rfl
  have S1 : (w.alloc (.cells #[.int .i64 3, .int .i64 9, .int .i64 1, .int .i64 4] 28)).heap.size = w.heap.size + 1 := by simp
  rw [S1] at L2
  refine (K1 _ (L1.below (alloc_below _ _)) L2).mono ?_
  rintro e w1 ⟨v, rfl, r1, b1⟩
  have B1 := hide ((((Below.refl w.heap.size w).alloc (Nat.le_refl _) (.cells #[.int .i64 3, .int .i64 9, .int .i64 1, .int .i64 4] 28)).alloc (by simp) (.cells #[.int .i64 3, .int .i64 2] 28)).trans (b1.mono (by simp; omega)))
  obtain ⟨av, cv, hv, li, -⟩ := GRow.lies r1
  obtain ⟨bv, ov, ea, hbv, -⟩ := li.dr (k := 1) (by simp)
  have LI := hide li
  subst ea
  simp only [List.length_cons, List.length_nil] at hv
  subst hv
  clear r1 b1 L1 L2 S1 K1 li
  have K2 := fun w' h1 h2 => aw_merge2 ⟨w1.heap.size, 0, none⟩ ⟨w1.heap.size + 1, 0, none⟩ w' h1 h2
  have L3 := lies_lit w1 lC #[.int .i64 3, .int .i64 0] 28 rfl
  have L4 := lies_lit (w1.alloc (.cells #[.int .i64 3, .int .i64 0] 28)) lD #[.int .i64 64, .int .i64 1] 28 rfl
  have S3 : (w1.alloc (.cells #[.int .i64 3, .int .i64 0] 28)).heap.size = w1.heap.size + 1 := by simp
  rw [S3] at L4
  go_wp2_with fail
  refine (K2 _ (L3.below (alloc_below _ _)) L4).mono ?_
  rintro e w2 ⟨rfl, b2⟩
  have b2' : Below w1.heap.size w1 w2 := (((Below.refl w1.heap.size w1).alloc (Nat.le_refl _) (.cells #[.int .i64 3, .int .i64 0] 28)).alloc (by simp) (.cells #[.int .i64 64, .int .i64 1] 28)).trans (b2.mono (by simp; omega))
  have B2 := hide (bnext B1.out b2' (Nat.le_refl _))
  have LI2 := hide (LI.out.below b2')
  clear b2 b2' L3 L4 S3 K2 LI B1
  go_wp2_with fail
  refine (takeNil_any _).mono ?_
  rintro e w3 ⟨rfl, b3⟩
  have B3 := hide (bnext B2.out b3 (Nat.le_refl _))
  have LI3 := hide (LI2.out.below b3)
  clear b3 B2 LI2
  go_upto_region 4 with fail
  refine named (P := Code.wp _ _ _ _) ?_
  intro w4 hw4
  have b4 : Below w3.heap.size w3 w4 := by rw [hw4]; (repeat (first | exact Below.refl _ _ | refine Below.alloc ?_ (by simp <;> omega) _ | refine Below.setCell ?_ (by simp <;> omega) _))
  have B4 := hide (bnext B3.out b4 (Nat.le_refl _))
  obtain ⟨bv2, ov2, ea, -, d0, d1⟩ := (LI3.out.below b4).dr (k := 1) (by simp)
  cases ea
  simp only [List.getElem_cons_succ, List.getElem_cons_zero] at d0 d1
  clear hw4 b4 LI3 B3
  go_upto_region 6 with (go_at_call 13; refine (num_eq _ _).mono ?_; rintro e wz ⟨rfl, rfl⟩)
  go_wp2_with fail
  refine (aw_check 1 0 aw_c1 _).mono ?_
  rintro e w5 ⟨rfl, b5⟩
  have B5 := hide (bnext B4.out b5 (Nat.le_refl _))
  clear b5 B4 d0 d1
  go_wp2_with fail
  refine (num_eq _ _).mono ?_
  rintro e wz ⟨rfl, rfl⟩
  go_wp2_with fail
  refine (aw_check 0 23 aw_c0 _).mono ?_
  rintro e w6 ⟨rfl, b6⟩
  have B6 := hide (bnext B5.out b6 (Nat.le_refl _))
  clear b6 B5
  go_wp2_with fail
  refine (num_eq _ _).mono ?_
  rintro e wz ⟨rfl, rfl⟩
  go_wp2_with fail
  refine (aw_from ⟨w6.heap.size, 0, none⟩ _ (lies_lit w6 lA #[.int .i64 3, .int .i64 9, .int .i64 1, .int .i64 4] 28 rfl)).mono ?_
  rintro e w7 ⟨rfl, b7⟩
  have B7 := hide (bnext (B6.out.alloc B6.out.size (.cells #[.int .i64 3, .int .i64 9, .int .i64 1, .int .i64 4] 28)) b7 (Nat.le_refl _))
  clear b7 B6
  go_wp2_with fail
  go_ret
  exact ⟨rfl, B7.out⟩
end Go.Proofs.Ythaiagalndcndaa
