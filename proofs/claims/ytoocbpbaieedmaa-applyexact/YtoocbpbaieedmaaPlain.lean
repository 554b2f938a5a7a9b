import Derived.Test.YtoocbpbaieedmaaCore
namespace Go.Proofs.Ytoocbpbaieedmaa
open Go.RowKit Quota

theorem i128_add {a b : Int} (ha : I64 a) (hb : I64 b) : I128 (a + b) := by unfold I64 at ha hb; unfold I128; omega
theorem i128_sub {a b : Int} (ha : I64 a) (hb : I64 b) : I128 (a - b) := by unfold I64 at ha hb; unfold I128; omega

set_option maxHeartbeats 400000 in
theorem add_any (a b : Int) (w : World) (ha : I64 a) (hb : I64 b) :
    Calls Try.prog 40 #[.int .i64 a, .int .i64 b] w fun e w' => e = .returned (.tuple #[.int .i64 (fitV (a + b)), .int .i64 (fitE (a + b))]) ∧ Below w.heap.size w w' := by
  have k := i128_add ha hb
  go_enter Try.func40, Try.ntmps40
  go_wp2_with fail
  refine (widen_any a _ ha).mono ?_
  rintro e w1 ⟨rfl, h1⟩
  go_wp2_with fail
  refine (plus_any a b _ hb).mono ?_
  rintro e w2 ⟨rfl, h2⟩
  go_wp2_with fail
  refine (narrow_any (a + b) _ k).mono ?_
  rintro e w3 ⟨rfl, h3⟩
  go_wp2_with fail
  go_ret2
  exact ⟨rfl, (h1.trans (h2.mono h1.size)).trans (h3.mono (Nat.le_trans h1.size h2.size))⟩

set_option maxHeartbeats 400000 in
theorem sub_any (a b : Int) (w : World) (ha : I64 a) (hb : I64 b) :
    Calls Try.prog 43 #[.int .i64 a, .int .i64 b] w fun e w' => e = .returned (.tuple #[.int .i64 (fitV (a - b)), .int .i64 (fitE (a - b))]) ∧ Below w.heap.size w w' := by
  have k := i128_sub ha hb
  go_enter Try.func43, Try.ntmps43
  go_wp2_with fail
  refine (widen_any a _ ha).mono ?_
  rintro e w1 ⟨rfl, h1⟩
  go_wp2_with fail
  refine (minus_any a b _ hb).mono ?_
  rintro e w2 ⟨rfl, h2⟩
  go_wp2_with fail
  refine (narrow_any (a - b) _ k).mono ?_
  rintro e w3 ⟨rfl, h3⟩
  go_wp2_with fail
  go_ret2
  exact ⟨rfl, (h1.trans (h2.mono h1.size)).trans (h3.mono (Nat.le_trans h1.size h2.size))⟩

theorem minus_zero (a : Int) (w : World) (ha : I64 a) :
    Calls Try.prog 49 #[wide 0, .int .i64 a] w fun e w' => e = .returned (wide (-a)) ∧ Below w.heap.size w w' := by
  have h := minus_any 0 a w ha
  rw [Int.zero_sub] at h
  exact h

/-- A range as the program lays it. -/
abbrev rng (lo hi : Int) : Value := .agg #[.int .i64 lo, .int .i64 hi]

def chkE (lo hi : Int) : Int := if hi < lo then 11 else 0
def hasB (lo hi v : Int) : Bool := decide (lo ≤ v) && decide (v ≤ hi)
def inB (lo hi a b : Int) : Bool := decide (hi < lo) || (hasB a b lo && hasB a b hi)

theorem keep2' {w w1 : World} {a b c d : Value} {t u : TypeId} (hb : Below ((w.alloc (.cells #[a, b] t)).alloc (.cells #[c, d] u)).heap.size ((w.alloc (.cells #[a, b] t)).alloc (.cells #[c, d] u)) w1) :
    w1.cell? ⟨w.heap.size, 0, none⟩ = some a ∧ w1.cell? ⟨w.heap.size, 1, none⟩ = some b ∧ w1.cell? ⟨w.heap.size + 1, 0, none⟩ = some c ∧ w1.cell? ⟨w.heap.size + 1, 1, none⟩ = some d := by
  obtain ⟨c0, c1, c2, c3, _⟩ := keep2 hb
  exact ⟨c0, c1, c2, c3⟩

end Go.Proofs.Ytoocbpbaieedmaa
