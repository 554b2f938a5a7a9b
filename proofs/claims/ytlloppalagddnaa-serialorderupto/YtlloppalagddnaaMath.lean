namespace Quota

/-- The lower half of a number of 128 bits in two's complement. -/
def loOf (z : Int) : Int := z % 18446744073709551616
/-- The upper half. -/
def hiOf (z : Int) : Int := (z / 18446744073709551616) % 18446744073709551616
/-- The carry out of 64 bits. -/
def upOf (z : Int) : Int := z / 18446744073709551616
/-- The borrow: 1 below nothing, else 0. -/
def boOf (z : Int) : Int := if z < 0 then 1 else 0
/-- Does it fit an int64? -/
def fitB (z : Int) : Bool := decide (-9223372036854775808 ≤ z ∧ z ≤ 9223372036854775807)
def fitV (z : Int) : Int := if fitB z then z else 0
def fitE (z : Int) : Int := if fitB z then 0 else 10
/-- An int64. -/
def I64 (z : Int) : Prop := -9223372036854775808 ≤ z ∧ z ≤ 9223372036854775807
/-- A number of 128 bits. -/
def I128 (z : Int) : Prop := -170141183460469231731687303715884105728 ≤ z ∧ z ≤ 170141183460469231731687303715884105727

theorem fitB_true {z : Int} : fitB z = true ↔ I64 z := by simp [fitB, I64]
theorem fitB_false {z : Int} : fitB z = false ↔ ¬ I64 z := by simp [fitB, I64]

theorem lo_bd (z : Int) : 0 ≤ loOf z ∧ loOf z ≤ 18446744073709551615 := by unfold loOf; omega
theorem hi_bd (z : Int) : 0 ≤ hiOf z ∧ hiOf z ≤ 18446744073709551615 := by unfold hiOf; omega
theorem up_bd (z n : Int) : 0 ≤ upOf (loOf z + loOf n) ∧ upOf (loOf z + loOf n) ≤ 1 := by unfold upOf loOf; omega
theorem bo_bd (z : Int) : 0 ≤ boOf z ∧ boOf z ≤ 1 := by unfold boOf; split <;> omega

theorem widen_hi (n : Int) (h : I64 n) : (n / 9223372036854775808) % 18446744073709551616 = hiOf n := by
  unfold I64 at h; unfold hiOf; omega
theorem plus_lo (z n : Int) : loOf (loOf z + loOf n) = loOf (z + n) := by unfold loOf; omega
theorem plus_hi (z n : Int) : loOf (hiOf z + hiOf n + upOf (loOf z + loOf n)) = hiOf (z + n) := by unfold loOf hiOf upOf; omega
theorem minus_lo (z n : Int) : loOf (loOf z - loOf n) = loOf (z - n) := by unfold loOf; omega
theorem minus_hi (z n : Int) : loOf (hiOf z - hiOf n - boOf (loOf z - loOf n)) = hiOf (z - n) := by
  unfold loOf hiOf boOf; split <;> omega

/-- The signed reading of the lower half. -/
def sgOf (z : Int) : Int := if loOf z ≤ 9223372036854775807 then loOf z else loOf z - 18446744073709551616
theorem sg_bd (z : Int) : I64 (sgOf z) := by unfold I64 sgOf loOf; split <;> omega
theorem sg_lo (z : Int) : loOf (sgOf z) = loOf z := by unfold sgOf loOf; split <;> omega
theorem sg_yes (z : Int) (h : I64 z) : sgOf z = z ∧ hiOf (sgOf z) = hiOf z := by
  have : sgOf z = z := by unfold I64 at h; unfold sgOf loOf; split <;> omega
  exact ⟨this, by rw [this]⟩
theorem sg_no (z : Int) (h : ¬ I64 z) (k : I128 z) : ¬ hiOf (sgOf z) = hiOf z := by
  unfold I64 at h; unfold I128 at k; unfold sgOf hiOf loOf; split <;> omega
end Quota
