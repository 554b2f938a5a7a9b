import Derived.Test.YtadppakflbilcaaRm6
namespace Go.Proofs.Ytadppakflbilcaa
open Go.RowKit Go.QK Go.Maps Go.QM Go.QR
set_option maxRecDepth 100000
theorem i64s {z : Int} (h : -1000000 ≤ z ∧ z ≤ 2147483647) : I64 z := by unfold I64; omega
theorem ptr_eql (b : Nat) (w : World) : (binOp .eql 27 (ptr b) (.pointer none)).run Try.prog w = .ok (.bool false) w := by go_simp
set_option maxHeartbeats 4000000 in
theorem awake_any (w : World) : Calls Try.prog 9 #[] w fun r w' => r = .returned (.bool true) ∧ Below w.heap.size w w' := by
  have K := new_any w
  have pe := ptr_eql
  go_enter Try.func9, Try.ntmps9
  go_wp2_with fail
  refine K.mono ?_
  rintro e w0 ⟨rfl, R0, b0, -⟩
  have l0 : ∀ k, (fun k => w.heap.size ≤ k ∧ k < w.heap.size + 2) k → w.heap.size ≤ k := fun k q => q.1
  generalize (fun k => w.heap.size ≤ k ∧ k < w.heap.size + 2) = S0 at *
  obtain ⟨b, hb⟩ : ∃ b, b = w.heap.size + 1 := ⟨_, rfl⟩
  rw [← hb] at R0 ⊢
  clear hb K
  have K := Begin_any S0 b [] 1 w0 R0 (i64s (by decide))
  rw [show beginE [] 1 = 0 by decide, show beginL [] 1 = [⟨1, 0, []⟩] by rfl] at K
  go_wp2_with fail
  refine K.mono ?_
  rintro e w1 ⟨rfl, o⟩
  obtain ⟨⟨S1, R1, l1⟩, b1⟩ := Mine.call l0 b0 b0.size o
  clear K o R0 l0 b0
  go_wp2_with fail
  refine (num_eq _ _).mono ?_
  rintro e wz ⟨rfl, rfl⟩
  have K := Begin_any S1 b [⟨1, 0, []⟩] 1 w1 R1 (i64s (by decide))
  rw [show beginE [⟨1, 0, []⟩] 1 = 121 by decide, show beginL [⟨1, 0, []⟩] 1 = [⟨1, 0, []⟩] by rfl] at K
  go_wp2_with fail
  refine K.mono ?_
  rintro e w2 ⟨rfl, o⟩
  obtain ⟨⟨S2, R2, l2⟩, b2⟩ := Mine.call l1 b1 b1.size o
  clear K o R1 l1 b1
  go_wp2_with fail
  refine (num_eq _ _).mono ?_
  rintro e wz ⟨rfl, rfl⟩
  have K := Promised_any S2 b [⟨1, 0, []⟩]  w2 R2 
  rw [show prom [⟨1, 0, []⟩]  = 2 by decide] at K
  go_wp2_with fail
  refine K.mono ?_
  rintro e w3 ⟨rfl, o⟩
  have R3 := R2.below o
  have b3 := b2.trans (o.mono b2.size)
  have l3 := l2
  obtain ⟨S3, hSS⟩ : ∃ S, S = S2 := ⟨_, rfl⟩
  rw [← hSS] at R3 l3
  clear hSS K o R2 l2 b2
  have K := Hold_any S3 b [⟨1, 0, []⟩] 1 7 w3 R3 (i64s (by decide)) (i64s (by decide))
  rw [show holdE [⟨1, 0, []⟩] 1 7 = 0 by decide, show holdL [⟨1, 0, []⟩] 1 7 = [⟨1, 0, [7]⟩] by rfl] at K
  go_wp2_with fail
  refine K.mono ?_
  rintro e w4 ⟨rfl, o⟩
  obtain ⟨⟨S4, R4, l4⟩, b4⟩ := Mine.call l3 b3 b3.size o
  clear K o R3 l3 b3
  go_wp2_with fail
  refine (num_eq _ _).mono ?_
  rintro e wz ⟨rfl, rfl⟩
  have K := Hold_any S4 b [⟨1, 0, [7]⟩] 1 7 w4 R4 (i64s (by decide)) (i64s (by decide))
  rw [show holdE [⟨1, 0, [7]⟩] 1 7 = 0 by decide, show holdL [⟨1, 0, [7]⟩] 1 7 = [⟨1, 0, [7]⟩] by rfl] at K
  go_wp2_with fail
  refine K.mono ?_
  rintro e w5 ⟨rfl, o⟩
  obtain ⟨⟨S5, R5, l5⟩, b5⟩ := Mine.call l4 b4 b4.size o
  clear K o R4 l4 b4
  go_wp2_with fail
  refine (num_eq _ _).mono ?_
  rintro e wz ⟨rfl, rfl⟩
  have K := Promised_any S5 b [⟨1, 0, [7]⟩]  w5 R5 
  rw [show prom [⟨1, 0, [7]⟩]  = 3 by decide] at K
  go_wp2_with fail
  refine K.mono ?_
  rintro e w6 ⟨rfl, o⟩
  have R6 := R5.below o
  have b6 := b5.trans (o.mono b5.size)
  have l6 := l5
  obtain ⟨S6, hSS⟩ : ∃ S, S = S5 := ⟨_, rfl⟩
  rw [← hSS] at R6 l6
  clear hSS K o R5 l5 b5
  have K := May_any S6 b [⟨1, 0, [7]⟩] 3 0 0 w6 R6 (i64s (by decide)) (i64s (by decide)) (i64s (by decide))
  rw [show mayE [⟨1, 0, [7]⟩] 3 0 0 = 0 by decide] at K
  go_wp2_with fail
  refine K.mono ?_
  rintro e w7 ⟨rfl, o⟩
  have R7 := R6.below o
  have b7 := b6.trans (o.mono b6.size)
  have l7 := l6
  obtain ⟨S7, hSS⟩ : ∃ S, S = S6 := ⟨_, rfl⟩
  rw [← hSS] at R7 l7
  clear hSS K o R6 l6 b6
  go_wp2_with fail
  refine (num_eq _ _).mono ?_
  rintro e wz ⟨rfl, rfl⟩
  have K := May_any S7 b [⟨1, 0, [7]⟩] 3 1 0 w7 R7 (i64s (by decide)) (i64s (by decide)) (i64s (by decide))
  rw [show mayE [⟨1, 0, [7]⟩] 3 1 0 = 6 by decide] at K
  go_wp2_with fail
  refine K.mono ?_
  rintro e w8 ⟨rfl, o⟩
  have R8 := R7.below o
  have b8 := b7.trans (o.mono b7.size)
  have l8 := l7
  obtain ⟨S8, hSS⟩ : ∃ S, S = S7 := ⟨_, rfl⟩
  rw [← hSS] at R8 l8
  clear hSS K o R7 l7 b7
  go_wp2_with fail
  refine (num_eq _ _).mono ?_
  rintro e wz ⟨rfl, rfl⟩
  have K := Wrote_any S8 b [⟨1, 0, [7]⟩] 1 7 0 w8 R8 (i64s (by decide)) (i64s (by decide))
  rw [show wroteE [⟨1, 0, [7]⟩] 1 7 0 = 70 by decide, show wroteL [⟨1, 0, [7]⟩] 1 7 0 = [⟨1, 0, [7]⟩] by rfl] at K
  go_wp2_with fail
  refine K.mono ?_
  rintro e w9 ⟨rfl, o⟩
  obtain ⟨⟨S9, R9, l9⟩, b9⟩ := Mine.call l8 b8 b8.size o
  clear K o R8 l8 b8
  go_wp2_with fail
  refine (num_eq _ _).mono ?_
  rintro e wz ⟨rfl, rfl⟩
  have K := Wrote_any S9 b [⟨1, 0, [7]⟩] 1 5 0 w9 R9 (i64s (by decide)) (i64s (by decide))
  rw [show wroteE [⟨1, 0, [7]⟩] 1 5 0 = 0 by decide, show wroteL [⟨1, 0, [7]⟩] 1 5 0 = [⟨1, 1, [7]⟩] by rfl] at K
  go_wp2_with fail
  refine K.mono ?_
  rintro e w10 ⟨rfl, o⟩
  obtain ⟨⟨S10, R10, l10⟩, b10⟩ := Mine.call l9 b9 b9.size o
  clear K o R9 l9 b9
  go_wp2_with fail
  refine (num_eq _ _).mono ?_
  rintro e wz ⟨rfl, rfl⟩
  have K := Of_any S10 b [⟨1, 1, [7]⟩] 1 w10 R10 (i64s (by decide))
  rw [show of [⟨1, 1, [7]⟩] 1 = 1 by decide] at K
  go_wp2_with fail
  refine K.mono ?_
  rintro e w11 ⟨rfl, o⟩
  have R11 := R10.below o
  have b11 := b10.trans (o.mono b10.size)
  have l11 := l10
  obtain ⟨S11, hSS⟩ : ∃ S, S = S10 := ⟨_, rfl⟩
  rw [← hSS] at R11 l11
  clear hSS K o R10 l10 b10
  have K := Wrote_any S11 b [⟨1, 1, [7]⟩] 1 7 0 w11 R11 (i64s (by decide)) (i64s (by decide))
  rw [show wroteE [⟨1, 1, [7]⟩] 1 7 0 = 0 by decide, show wroteL [⟨1, 1, [7]⟩] 1 7 0 = [] by rfl] at K
  go_wp2_with fail
  refine K.mono ?_
  rintro e w12 ⟨rfl, o⟩
  obtain ⟨⟨S12, R12, l12⟩, b12⟩ := Mine.call l11 b11 b11.size o
  clear K o R11 l11 b11
  go_wp2_with fail
  refine (num_eq _ _).mono ?_
  rintro e wz ⟨rfl, rfl⟩
  have K := Promised_any S12 b []  w12 R12 
  rw [show prom []  = 0 by decide] at K
  go_wp2_with fail
  refine K.mono ?_
  rintro e w13 ⟨rfl, o⟩
  have R13 := R12.below o
  have b13 := b12.trans (o.mono b12.size)
  have l13 := l12
  obtain ⟨S13, hSS⟩ : ∃ S, S = S12 := ⟨_, rfl⟩
  rw [← hSS] at R13 l13
  clear hSS K o R12 l12 b12
  go_wp2_with fail
  go_ret
  exact ⟨rfl, b13⟩
set_option maxHeartbeats 1000000 in
theorem names_any (w : World) : Calls Try.prog 3 #[] w fun r w' => r = .returned (.bool true) ∧ Below w.heap.size w w' := by
  have K := awake_any w
  go_enter Try.func3, Try.ntmps3
  go_wp2_with (go_at_call 9; refine K.mono ?_; rintro e w1 ⟨rfl, b1⟩)
  go_ret
  exact ⟨rfl, b1⟩
end Go.Proofs.Ytadppakflbilcaa
