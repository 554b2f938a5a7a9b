import Derived.Test.YtapjbgkmcplpbaaSmall
namespace Go.Proofs.Ytapjbgkmcplpbaa
open Go.RowKit Go.QK

theorem ErrAt.below {w w' : World} {v : Value} {call : ByteArray} {e : Nat} (h : ErrAt w v call e) (hb : Below w.heap.size w w') : ErrAt w' v call e := by
  rcases h with q | ⟨q, b, hv, hc⟩
  · exact .inl q
  · exact .inr ⟨q, b, hv, hc.below hb⟩

set_option maxHeartbeats 4000000 in
set_option maxRecDepth 100000 in
theorem layout_any (p l f page : Int) (w : World) : Calls Try.prog 13 #[.agg (shC p l f), .int .i64 page] w fun e w' => e = .returned (.bool true) ∧ Below w.heap.size w w' := by
  obtain ⟨w1, hw1⟩ : ∃ w1, w1 = w.alloc (.cells #[.int .i64 p, .int .i64 l, .int .i64 f] 23) := ⟨_, rfl⟩
  have b1 : Below w.heap.size w w1 := by rw [hw1]; exact alloc_below _ _
  have C1 : cell3 w1 w.heap.size p l f := by rw [hw1]; exact cell3.new w p l f
  have K1 := fun w' => need_any p l f w'
  have K2 := fun w' => rNeed_any p l f w'
  have K3 := fun w' => homeOf_any p l f page w'
  have K4 := fun w' => rHome_any p l f page w'
  have K5 := fun w' => log_any p l f w'
  have K6 := fun w' => rLog_any p l f w'
  generalize needN p l f = n1 at *
  generalize mayE p l f = m1 at *
  generalize homeN p l f page = h1 at *
  generalize homeE p l f page = he at *
  generalize (if mayN p l f then 5 + 2 * p else 0) = l1 at *
  unfold shC at K1 K2 K3 K4 K5 K6 ⊢
  have K1 := hide K1
  have K2 := hide K2
  have K3 := hide K3
  have K4 := hide K4
  have K5 := hide K5
  have K6 := hide K6
  have NU := hide (fun e w' => num_any e w')
  have HW := hide hw1
  have c0 := C1.c0
  have c1 := C1.c1
  have c2 := C1.c2
  have C1 := hide C1
  have B1 := hide b1
  clear hw1 b1
  go_enter Try.func13, Try.ntmps13
  go_wp2_with fail
  rw [← HW.out]
  clear HW
  refine (K1.out w1).mono ?_
  rintro e w2 ⟨rfl, b2⟩
  have C2 := hide (C1.out.below b2)
  have B2 := hide (bnext B1.out b2 (Nat.le_refl _))
  clear b2 C1 B1 c0 c1 c2
  have c0 := C2.out.c0
  have c1 := C2.out.c1
  have c2 := C2.out.c2
  go_wp2_with fail
  refine (K2.out w2).mono ?_
  rintro e w3 ⟨rfl, b3⟩
  have C3 := hide (C2.out.below b3)
  have B3 := hide (bnext B2.out b3 (Nat.le_refl _))
  clear b3 C2 B2 c0 c1 c2
  have c0 := C3.out.c0
  have c1 := C3.out.c1
  have c2 := C3.out.c2
  go_wp2_with fail
  refine (K3.out w3).mono ?_
  rintro e w4 ⟨rfl, b4⟩
  have C4 := hide (C3.out.below b4)
  have B4 := hide (bnext B3.out b4 (Nat.le_refl _))
  clear b4 C3 B3 c0 c1 c2
  have c0 := C4.out.c0
  have c1 := C4.out.c1
  have c2 := C4.out.c2
  go_wp2_with fail
  refine (K4.out w4).mono ?_
  rintro e w5 ⟨rfl, b5⟩
  have C5 := hide (C4.out.below b5)
  have B5 := hide (bnext B4.out b5 (Nat.le_refl _))
  clear b5 C4 B4 c0 c1 c2
  have c0 := C5.out.c0
  have c1 := C5.out.c1
  have c2 := C5.out.c2
  go_wp2_with fail
  refine (K5.out w5).mono ?_
  rintro e w6 ⟨rfl, b6⟩
  have C6 := hide (C5.out.below b6)
  have B6 := hide (bnext B5.out b6 (Nat.le_refl _))
  clear b6 C5 B5 c0 c1 c2
  have c0 := C6.out.c0
  have c1 := C6.out.c1
  have c2 := C6.out.c2
  go_wp2_with fail
  refine (K6.out w6).mono ?_
  rintro e w7 ⟨rfl, b7⟩
  have C7 := hide (C6.out.below b7)
  have B7 := hide (bnext B6.out b7 (Nat.le_refl _))
  clear b7 C6 B6 c0 c1 c2
  have c0 := C7.out.c0
  have c1 := C7.out.c1
  have c2 := C7.out.c2
  go_wp2_with fail
  refine (NU.out (m1 : Int) w7).mono ?_
  rintro e w' ⟨rfl, hw⟩
  obtain rfl : w7 = w' := hw.symm
  go_wp2_with fail
  refine (NU.out (he : Int) w7).mono ?_
  rintro e w' ⟨rfl, hw⟩
  obtain rfl : w7 = w' := hw.symm
  go_wp2_with fail
  refine (NU.out (m1 : Int) w7).mono ?_
  rintro e w' ⟨rfl, hw⟩
  obtain rfl : w7 = w' := hw.symm
  go_wp2_with fail
  go_ret
  exact ⟨rfl, B7.out⟩

set_option maxHeartbeats 4000000 in
set_option maxRecDepth 100000 in
theorem shapes_walk (p l f page : Int) (w : World) : Calls Try.prog 4 #[.agg (shC p l f), .int .i64 page] w fun e w' => e = .returned (.bool true) ∧ Below w.heap.size w w' := by
  obtain ⟨w1, hw1⟩ : ∃ w1, w1 = w.alloc (.cells #[.int .i64 p, .int .i64 l, .int .i64 f] 23) := ⟨_, rfl⟩
  have b1 : Below w.heap.size w w1 := by rw [hw1]; exact alloc_below _ _
  have C1 : cell3 w1 w.heap.size p l f := by rw [hw1]; exact cell3.new w p l f
  have K1 := Open_nil w1
  have K2 := fun w' => awake_any w'
  have K3 := fun w' => layout_any p l f page w'
  have K4 := fun w' => small_any p l f w'
  have K5 := fun w' => layout_any (smP p) (smL l) (smF f) page w'
  generalize smP p = sp at *
  generalize smL l = sl at *
  generalize smF f = sf at *
  unfold shC at K1 K3 K4 K5 ⊢
  have K1 := hide K1
  have K2 := hide K2
  have K3 := hide K3
  have K4 := hide K4
  have K5 := hide K5
  have HW := hide hw1
  have C1 := hide C1
  have B1 := hide b1
  clear hw1 b1
  go_enter Try.func4, Try.ntmps4
  go_wp2_with fail
  rw [← HW.out]
  clear HW
  refine K1.out.mono ?_
  rintro e w2 ⟨v2, rfl, e2, b2⟩
  have C2 := hide (C1.out.below b2)
  have B2 := hide (bnext B1.out b2 (Nat.le_refl _))
  obtain ⟨w3, hw3⟩ : ∃ w3, w3 = w2.alloc (.cells #[.int .i64 0, .int .i64 0, .int .i64 0] 23) := ⟨_, rfl⟩
  have b3 : Below w2.heap.size w2 w3 := by rw [hw3]; exact alloc_below _ _
  have C3 := hide (C2.out.below b3)
  have B3 := hide (bnext B2.out b3 (Nat.le_refl _))
  have E3 := hide (e2.below b3)
  have HW3 := hide hw3
  clear hw3 b2 b3 K1 C1 B1 C2 B2 e2
  go_upto_region 2 with fail
  rw [← HW3.out]
  clear HW3
  go_wp2_with fail
  refine (K2.out w3).mono ?_
  rintro e w4 ⟨rfl, b4⟩
  have C4 := hide (C3.out.below b4)
  have B4 := hide (bnext B3.out b4 (Nat.le_refl _))
  have E4 := hide (E3.out.below b4)
  have c0 := C4.out.c0
  have c1 := C4.out.c1
  have c2 := C4.out.c2
  clear b4 C3 B3 E3 K2
  go_wp2_with fail
  refine (K3.out w4).mono ?_
  rintro e w5 ⟨rfl, b5⟩
  have C5 := hide (C4.out.below b5)
  have B5 := hide (bnext B4.out b5 (Nat.le_refl _))
  have E5 := hide (E4.out.below b5)
  clear c0 c1 c2 b5 C4 B4 E4 K3
  have c0 := C5.out.c0
  have c1 := C5.out.c1
  have c2 := C5.out.c2
  go_wp2_with fail
  refine (K4.out w5).mono ?_
  rintro e w6 ⟨rfl, b6⟩
  have B6 := hide (bnext B5.out b6 (Nat.le_refl _))
  have E6 := hide (E5.out.below b6)
  clear c0 c1 c2 b6 C5 B5 E5 K4
  go_wp2_with fail
  refine (K5.out w6).mono ?_
  rintro e w7 ⟨rfl, b7⟩
  have B7 := hide (bnext B6.out b7 (Nat.le_refl _))
  have KT := hide (told_any v2 openS 3 3 w7 (E6.out.below b7))
  clear b7 B6 E6 K5
  go_wp2_with fail
  refine KT.out.mono ?_
  rintro e w' ⟨rfl, hw⟩
  obtain rfl : w7 = w' := hw.symm
  go_wp2_with fail
  go_ret
  exact ⟨rfl, B7.out⟩
end Go.Proofs.Ytapjbgkmcplpbaa
