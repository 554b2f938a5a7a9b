import Derived.Test.YtcnlcmdppkdmmaaEc10
namespace Go.Proofs.Ytcnlcmdppkdmmaa
open Go.RowKit Go.QK Quota Go.Maps
set_option maxRecDepth 100000

def E0 : Esc := ⟨0, 10, 5, []⟩
def E1 : Esc := ⟨0, 10, 5, [(1, 4)]⟩
def E2 : Esc := ⟨0, 10, 5, [(1, 4), (2, -5)]⟩
def E3 : Esc := ⟨0, 10, 5, [(1, 4), (2, 1)]⟩
def E4 : Esc := ⟨0, 10, 9, [(2, 1)]⟩
def E5 : Esc := ⟨0, 10, 9, []⟩
theorem i64_of {z : Int} (h : fitB z = true) : I64 z := fitB_true.1 h
theorem two_lt {B b m : Nat} (h1 : B ≤ b) (h2 : B ≤ m) : ∀ k, k < B → ¬ two b m k := by
  intro k hk q
  rcases q with rfl | rfl <;> omega
set_option maxHeartbeats 8000000 in
theorem first_any (w : World) : Calls Try.prog 9 #[] w fun r w' => r = .returned (.bool true) ∧ Below w.heap.size w w' := by
  have N0 := new_yes 0 10 5 w (by decide) (i64_of (by decide)) (i64_of (by decide))
  go_enter Try.func9, Try.ntmps9
  go_wp2_with fail
  refine N0.mono ?_
  rintro r w1 ⟨b, m, rfl, b1, P1, g1, g2⟩
  clear N0
  have K := add_any' b m E0 1 4 w1 P1 (i64_of (by decide)) (i64_of (by decide)) (by decide)
  rw [show mayE E0 1 4 = 0 from by decide] at K
  rw [show addN E0 1 4 = E1 from by rfl] at K
  go_wp2_with fail
  refine K.mono ?_
  rintro r w2 ⟨rfl, k2, P2⟩
  have b2 := b1.trans (k2.below b1.size (two_lt g1 g2))
  skip
  clear K k2 P1 b1 
  have K := add_any' b m E1 2 (-5) w2 P2 (i64_of (by decide)) (i64_of (by decide)) (by decide)
  rw [show mayE E1 2 (-5) = 0 from by decide] at K
  rw [show addN E1 2 (-5) = E2 from by rfl] at K
  go_wp2_with fail
  refine K.mono ?_
  rintro r w3 ⟨rfl, k3, P3⟩
  have b3 := b2.trans (k3.below b2.size (two_lt g1 g2))
  skip
  clear K k3 P2 b2 
  have K := may_any b m E2 3 2 w3 P3 (i64_of (by decide)) (i64_of (by decide))
  rw [show mayE E2 3 2 = 110 from by decide] at K
  go_wp2_with fail
  refine K.mono ?_
  rintro r w4 ⟨rfl, h⟩
  have b4 := b3.trans (h.mono b3.size)
  have P4 := P3.below h
  skip
  clear K h P3 b3 
  have K := add_any' b m E2 2 6 w4 P4 (i64_of (by decide)) (i64_of (by decide)) (by decide)
  rw [show mayE E2 2 6 = 0 from by decide] at K
  rw [show addN E2 2 6 = E3 from by rfl] at K
  go_wp2_with fail
  refine K.mono ?_
  rintro r w5 ⟨rfl, k5, P5⟩
  have b5 := b4.trans (k5.below b4.size (two_lt g1 g2))
  skip
  clear K k5 P4 b4 
  have K := net_any b m E3 2 w5 P5 (i64_of (by decide))
  rw [show netV E3.nets 2 = 1 from by decide] at K
  rw [show holdB E3.nets 2 = true from by decide] at K
  go_wp2_with fail
  refine K.mono ?_
  rintro r w6 ⟨rfl, h⟩
  have b6 := b5.trans (h.mono b5.size)
  have P6 := P5.below h
  skip
  clear K h P5 b5 
  have K := copy_any b m E3 w6 P6
  go_wp2_with fail
  refine K.mono ?_
  rintro r w7 ⟨bc, mc, rfl, Q7, y1, y2, h⟩
  have lb := P6.lt
  have b7 := b6.trans (h.mono b6.size)
  have P7 := P6.below h
  clear K h P6 b6
  have K := interval_any b m E3 w7 P7
  rw [show E3.low = 5 from by decide] at K
  rw [show E3.high = 10 from by decide] at K
  go_wp2_with fail
  refine K.mono ?_
  rintro r w8 ⟨rfl, h⟩
  have b8 := b7.trans (h.mono b7.size)
  have P8 := P7.below h
  have Q8 := Q7.below h
  clear K h P7 b7 Q7
  have K := holders_any b m E3 w8 P8 (by decide)
  go_wp2_with fail
  refine K.mono ?_
  rintro r w9 ⟨v, rfl, ho, _, h⟩
  obtain ⟨av, cv, rfl, -, -, -, -⟩ := Owns.seen ho
  clear ho
  have b9 := b8.trans (h.mono b8.size)
  have P9 := P8.below h
  have Q9 := Q8.below h
  clear K h P8 b8 Q8
  have K := value_any b m E3 w9 P9
  rw [show E3.val = 10 from by decide] at K
  go_wp2_with fail
  refine K.mono ?_
  rintro r w10 ⟨rfl, h⟩
  have b10 := b9.trans (h.mono b9.size)
  have P10 := P9.below h
  have Q10 := Q9.below h
  clear K h P9 b9 Q9
  have K := settle_any b m E3 1 w10 P10 (i64_of (by decide))
  rw [show holdB E3.nets 1 = true from by decide] at K
  rw [show setN E3 1 = E4 from by rfl] at K
  go_wp2_with fail
  refine K.mono ?_
  rintro r w11 ⟨rfl, k11, P11⟩
  have b11 := b10.trans (k11.below b10.size (two_lt g1 g2))
  have Q11 := Q10.keep k11 (by intro q; rcases q with q | q <;> omega) (by intro q; rcases q with q | q <;> omega)
  clear K k11 P10 b10 Q10
  have K := settled_any b m E4 w11 P11
  rw [show E4.base = 9 from by decide] at K
  go_wp2_with fail
  refine K.mono ?_
  rintro r w12 ⟨rfl, h⟩
  have b12 := b11.trans (h.mono b11.size)
  have P12 := P11.below h
  have Q12 := Q11.below h
  clear K h P11 b11 Q11
  have K := release_any b m E4 2 w12 P12 (i64_of (by decide))
  rw [show holdB E4.nets 2 = true from by decide] at K
  rw [show relN E4 2 = E5 from by rfl] at K
  go_wp2_with fail
  refine K.mono ?_
  rintro r w13 ⟨rfl, k13, P13⟩
  have b13 := b12.trans (k13.below b12.size (two_lt g1 g2))
  have Q13 := Q12.keep k13 (by intro q; rcases q with q | q <;> omega) (by intro q; rcases q with q | q <;> omega)
  clear K k13 P12 b12 Q12
  have K := settled_any bc mc E3 w13 Q13
  rw [show E3.base = 5 from by decide] at K
  go_wp2_with fail
  refine K.mono ?_
  rintro r w14 ⟨rfl, h⟩
  have b14 := b13.trans (h.mono b13.size)
  have P14 := P13.below h
  have Q14 := Q13.below h
  clear K h P13 b13 Q13
  have K := bounds_any b m E5 w14 P14
  rw [show E5.lo = 0 from by decide] at K
  rw [show E5.hi = 10 from by decide] at K
  go_wp2_with fail
  refine K.mono ?_
  rintro r w15 ⟨rfl, h⟩
  have b15 := b14.trans (h.mono b14.size)
  have P15 := P14.below h
  have Q15 := Q14.below h
  clear K h P14 b14 Q14
  go_wp2_with fail
  go_ret
  exact ⟨rfl, b15⟩
end Go.Proofs.Ytcnlcmdppkdmmaa
