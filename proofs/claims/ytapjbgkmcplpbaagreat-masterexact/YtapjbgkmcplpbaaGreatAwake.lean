import Derived.Test.YtapjbgkmcplpbaaGreatFace3
import Derived.Test.YtapjbgkmcplpbaaGreatMast
namespace Go.Proofs.YtapjbgkmcplpbaaGreat
open Go.RowKit Go.QK

theorem new_calm (n : Nat) (h1 : 1 ≤ n) (h2 : n ≤ 8192) : Still (Dev.new n) ∧ (Dev.new n).n = n := by
  have e : (List.replicate (512 * n) 0).length = 512 * n := List.length_replicate
  refine ⟨⟨rfl, rfl, rfl, ⟨⟨n, h1, h2, e⟩, fun x hx => by rw [List.eq_of_mem_replicate hx]; decide, nofun, by show 0 ≤ _; omega, fun q => absurd rfl q, nofun⟩⟩, ?_⟩
  show (List.replicate (512 * n) 0).length / 512 = n
  rw [e]; omega
theorem laid_small (g : Dev) (s : Nat) (b : List Nat) (n : Nat) : (g.laid s b n).pend = g.pend ∧ (g.laid s b n).calls = g.calls + 2 := ⟨rfl, rfl⟩

/-- A new disk of 13 sectors, formatted, and pointed to 7. -/
theorem awake_model : ∃ g1 g2 : Dev, (Dev.new 13).formatE 2 4 2 = 0 ∧ (Dev.new 13).formatD 2 4 2 = g1 ∧ g1.pend = [] ∧ g1.calls = 4 ∧ g1.pointE 7 = 0 ∧ g1.pointD 7 = g2 ∧ g2.pend = [] ∧ g2.openS = ⟨2, 2, 4, 2, 7⟩ ∧ g2.openE = 0 := by
  obtain ⟨c0, n0⟩ := new_calm 13 (by omega) (by omega)
  obtain ⟨e1, d1, c1, m1, n1, _⟩ := c0.format (p := 2) (l := 4) (f := 2) (by rw [n0]; decide)
  have hm : ((Dev.new 13).formatD 2 4 2).master ≠ Slot.none := by rw [m1]; exact fun q => absurd (congrArg Slot.stamp q) (by decide)
  obtain ⟨e2, d2, c2, m2, n2⟩ := c1.point hm (by rw [m1]; decide) (by rw [n1, n0]; omega) (lsn := 7) (by decide)
  rw [m1] at m2
  refine ⟨_, _, e1, rfl, c1.pend, by rw [d1]; rfl, e2, rfl, c2.pend, ?_, ?_⟩
  · unfold Dev.openS
    rw [c2.down, if_neg (by decide), m2]
    rfl
  · unfold Dev.openE
    rw [c2.down, if_neg (by decide), m2, if_neg (by decide)]

theorem three_lit (b : Nat) {w : World} (h : cell3 w b 2 4 2) : w.cell? ⟨b, 0, none⟩ = some (.int .i64 2) ∧ w.cell? ⟨b, 1, none⟩ = some (.int .i64 4) ∧ w.cell? ⟨b, 2, none⟩ = some (.int .i64 2) := ⟨h.c0, h.c1, h.c2⟩
theorem ErrAt.none {w : World} {v : Value} {call : ByteArray} (h : ErrAt w v call 0) : v = .nilIface := by
  rcases h with ⟨_, h⟩ | ⟨h, _⟩
  · exact h
  · exact absurd rfl h

set_option maxHeartbeats 4000000 in
set_option maxRecDepth 100000 in
theorem awake_any (w : World) : Calls Tryz.prog 4 #[] w fun e w' => e = .returned (.bool true) ∧ Below w.heap.size w w' := by
  obtain ⟨g1, g2, fE, fD, f1, fc, pE, pD, f2, oS, oE⟩ := awake_model
  obtain ⟨w1, hw1⟩ : ∃ w1, w1 = w.alloc (.cells #[.int .i64 2, .int .i64 4, .int .i64 2] 23) := ⟨_, rfl⟩
  have b1 : Below w.heap.size w w1 := by rw [hw1]; exact alloc_below _ _
  have C1 : cell3 w1 w.heap.size 2 4 2 := by rw [hw1]; exact cell3.new w 2 4 2
  have K1 := need_any 2 4 2 w1
  have K2 := fun w' => homeOf_any 2 4 2 1 w'
  have K3 := fun w' => log_any 2 4 2 w'
  have K4 := fun w' => homeOf_any 2 4 2 2 w'
  have NU := fun e w' => num_any e w'
  rw [show needN 2 4 2 = 13 from by decide, show mayE 2 4 2 = 0 from by decide] at K1
  rw [show homeN 2 4 2 1 = 7 from by decide, show homeE 2 4 2 1 = 0 from by decide] at K2
  rw [show homeN 2 4 2 2 = 0 from by decide, show homeE 2 4 2 2 = 4 from by decide] at K4
  rw [if_pos (show mayN 2 4 2 by decide), show mayE 2 4 2 = 0 from by decide, show (5 + 2 * 2 : Int) = 9 by decide] at K3
  unfold shC at K1 K2 K3 K4
  have K1 := hide K1
  have K2 := hide K2
  have K3 := hide K3
  have K4 := hide K4
  have NU := hide NU
  have HW := hide hw1
  have C1 := hide C1
  have B1 := hide b1
  clear hw1 b1
  go_enter Tryz.func4, Tryz.ntmps4
  go_wp2_with fail
  rw [← HW.out]
  clear HW
  refine K1.out.mono ?_
  rintro e w2 ⟨rfl, b2⟩
  have C2 := hide (C1.out.below b2)
  have B2 := hide (bnext B1.out b2 (Nat.le_refl _))
  obtain ⟨c0, c1, c2⟩ := three_lit _ C2.out
  clear b2 C1 B1 K1
  go_wp2_with fail
  refine (K2.out w2).mono ?_
  rintro e w3 ⟨rfl, b3⟩
  have C3 := hide (C2.out.below b3)
  have B3 := hide (bnext B2.out b3 (Nat.le_refl _))
  clear b3 C2 B2 K2 c0 c1 c2
  obtain ⟨c0, c1, c2⟩ := three_lit _ C3.out
  go_wp2_with fail
  refine (K3.out w3).mono ?_
  rintro e w4 ⟨rfl, b4⟩
  have C4 := hide (C3.out.below b4)
  have B4 := hide (bnext B3.out b4 (Nat.le_refl _))
  clear b4 C3 B3 K3 c0 c1 c2
  obtain ⟨c0, c1, c2⟩ := three_lit _ C4.out
  go_wp2_with fail
  refine (K4.out w4).mono ?_
  rintro e w5 ⟨rfl, b5⟩
  have C5 := hide (C4.out.below b5)
  have B5 := hide (bnext B4.out b5 (Nat.le_refl _))
  clear b5 C4 B4 K4 c0 c1 c2
  obtain ⟨c0, c1, c2⟩ := three_lit _ C5.out
  go_wp2_with fail
  refine (NU.out 0 w5).mono ?_
  rintro e w' ⟨rfl, hw⟩
  obtain rfl : w5 = w' := hw.symm
  go_wp2_with fail
  refine (NU.out 0 w5).mono ?_
  rintro e w' ⟨rfl, hw⟩
  obtain rfl : w5 = w' := hw.symm
  go_wp2_with fail
  refine (NU.out 0 w5).mono ?_
  rintro e w' ⟨rfl, hw⟩
  obtain rfl : w5 = w' := hw.symm
  go_wp2_with fail
  refine (NU.out 4 w5).mono ?_
  rintro e w' ⟨rfl, hw⟩
  obtain rfl : w5 = w' := hw.symm
  have KN := hide (new_ok 13 w5 (by omega) (by omega))
  go_wp2_with fail
  refine KN.out.mono ?_
  rintro e w6 ⟨d, S, rfl, P6, far, b6⟩
  have C6 := hide (C5.out.below b6)
  have B6 := hide (bnext B5.out b6 (Nat.le_refl _))
  have lo6 : ∀ b, S b → w.heap.size < b := fun b hb => by have := far b hb; have := C5.out.1; omega
  have LO6 := hide lo6
  have KF := Format_any P6 2 4 2 (by show 0 ≤ _; omega) (by show 0 ≤ _; omega)
  rw [fE, fD] at KF
  unfold shC at KF
  have KF := hide KF
  clear C5 B5 b6 P6 c0 c1 c2 KN far lo6 fE fD
  obtain ⟨c0, c1, c2⟩ := three_lit _ C6.out
  go_wp2_with fail
  refine KF.out.mono ?_
  rintro e w7 ⟨S7, v7, rfl, e7, P7, st7⟩
  obtain rfl := e7.none
  have C7 := hide (C6.out.keep st7.1 (fun q => by have := LO6.out _ q; omega))
  have BK : Below w.heap.size w w7 := B6.out.trans (st7.1.below (by have := C6.out.1; omega) (fun k hk q => by have := LO6.out _ q; omega))
  have LO7 := hide (show ∀ b, S7 b → w.heap.size < b from fun b hb => by
    rcases st7.2 b hb with q | q
    · exact LO6.out b q
    · have := C6.out.1; omega)
  have B7 := hide BK
  have KP := Point_any P7 7 (by rw [f1]; decide) (by rw [fc]; decide)
  rw [pE, pD] at KP
  have KP := hide KP
  clear C6 B6 e7 P7 st7 LO6 KF c0 c1 c2 BK pE pD
  go_wp2_with fail
  refine KP.out.mono ?_
  rintro e w8 ⟨S8, v8, rfl, e8, P8, st8⟩
  obtain rfl := e8.none
  have C8 := hide (C7.out.keep st8.1 (fun q => by have := LO7.out _ q; omega))
  have B8 := hide (B7.out.trans (st8.1.below (by have := C7.out.1; omega) (fun k hk q => by have := LO7.out _ q; omega)))
  have KO := Open_any P8 (by rw [f2]; decide)
  rw [oS, oE] at KO
  unfold shC at KO
  simp only [show ((2 : Nat) : Int) = 2 from rfl, show ((4 : Nat) : Int) = 4 from rfl, show ((7 : Nat) : Int) = 7 from rfl] at KO
  have KO := hide KO
  clear C7 B7 e8 P8 st8 LO7 KP f1 f2 fc oS oE
  go_wp2_with fail
  refine KO.out.mono ?_
  rintro e w9 ⟨v9, rfl, e9, b9⟩
  obtain rfl := e9.none
  have C9 := C8.out.below b9
  have B9 := bnext B8.out b9 (Nat.le_refl _)
  obtain ⟨w10, hw10⟩ : ∃ w10, w10 = w9.alloc (.cells #[.int .i64 2, .int .i64 4, .int .i64 2] 23) := ⟨_, rfl⟩
  have b10 : Below w9.heap.size w9 w10 := by rw [hw10]; exact alloc_below _ _
  have D10 : cell3 w10 w9.heap.size 2 4 2 := by rw [hw10]; exact cell3.new w9 2 4 2
  have C10 := C9.below b10
  have B10 := hide (bnext B9 b10 (Nat.le_refl _))
  obtain ⟨c0, c1, c2⟩ := three_lit _ C10
  obtain ⟨t0, t1, t2⟩ := three_lit _ D10
  have KN := Format_nil 2 4 2 w10
  unfold shC at KN
  have KN := hide KN
  have HW10 := hide hw10
  clear hw10 b10 D10 C10 C9 B9 e9 b9 C8 B8 KO
  go_upto_region 12 with fail
  rw [← HW10.out]
  clear HW10
  go_wp2_with fail
  refine KN.out.mono ?_
  rintro e w11 ⟨v11, rfl, e11, b11⟩
  have KT := hide (told_any v11 formatS 3 3 w11 e11)
  have B11 := hide (bnext B10.out b11 (Nat.le_refl _))
  clear e11 b11 KN B10 c0 c1 c2 t0 t1 t2
  go_wp2_with fail
  refine KT.out.mono ?_
  rintro e w' ⟨rfl, hw⟩
  obtain rfl : w11 = w' := hw.symm
  have KQ := hide (Point_nil 1 w11)
  clear KT
  go_wp2_with fail
  refine KQ.out.mono ?_
  rintro e w12 ⟨v12, rfl, e12, b12⟩
  have KT := hide (told_any v12 pointS 3 3 w12 e12)
  have B12 := hide (bnext B11.out b12 (Nat.le_refl _))
  clear e12 b12 KQ B11
  go_wp2_with fail
  refine KT.out.mono ?_
  rintro e w' ⟨rfl, hw⟩
  obtain rfl : w12 = w' := hw.symm
  go_wp2_with fail
  go_ret
  exact ⟨rfl, B12.out⟩
end Go.Proofs.YtapjbgkmcplpbaaGreat
