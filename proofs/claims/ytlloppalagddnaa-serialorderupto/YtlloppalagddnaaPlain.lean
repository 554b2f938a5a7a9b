import Derived.Test.YtlloppalagddnaaCore
namespace Go.Proofs.Ytlloppalagddnaa
open Go.RowKit Quota

theorem i128_add {a b : Int} (ha : I64 a) (hb : I64 b) : I128 (a + b) := by unfold I64 at ha hb; unfold I128; omega
theorem i128_sub {a b : Int} (ha : I64 a) (hb : I64 b) : I128 (a - b) := by unfold I64 at ha hb; unfold I128; omega

set_option maxHeartbeats 400000 in
theorem add_any (a b : Int) (w : World) (ha : I64 a) (hb : I64 b) :
    Calls Try.prog 60 #[.int .i64 a, .int .i64 b] w fun e w' => e = .returned (.tuple #[.int .i64 (fitV (a + b)), .int .i64 (fitE (a + b))]) ∧ Below w.heap.size w w' := by
  have k := i128_add ha hb
  go_enter Try.func60, Try.ntmps60
  go_wp2_with fail
  refine (widen_any a _ ha).mono ?_
  rintro e w1 ⟨rfl, h1⟩
  go_wp2_with fail
  refine (plus_any a b _ hb).mono ?_
  rintro e w2 ⟨rfl, h2⟩
  go_wp2_with fail
  refine (narrow_any (a + b) _ k).mono ?_
  rintro e w3 ⟨rfl, h3⟩
  go_wp2_with fail
  go_ret2
  exact ⟨rfl, (h1.trans (h2.mono h1.size)).trans (h3.mono (Nat.le_trans h1.size h2.size))⟩

abbrev rng (lo hi : Int) : Value := .agg #[.int .i64 lo, .int .i64 hi]

set_option maxHeartbeats 400000 in
theorem empty_any (lo hi : Int) (w : World) : Calls Try.prog 101 #[rng lo hi] w fun r w' => r = .returned (.bool (decide (hi < lo))) ∧ Below w.heap.size w w' := by
  go_enter Try.func101, Try.ntmps101
  go_wp2
  go_ret
  exact ⟨rfl, (Below.refl _ _).alloc (Nat.le_refl _) _⟩

def chkE (lo hi : Int) : Int := if hi < lo then 11 else 0
set_option maxHeartbeats 400000 in
theorem check_any (lo hi : Int) (w : World) : Calls Try.prog 92 #[rng lo hi] w fun r w' => r = .returned (.int .i64 (chkE lo hi)) ∧ Below w.heap.size w w' := by
  unfold chkE
  by_cases h : hi < lo
  · have hd : decide (hi < lo) = true := by simpa using h
    rw [if_pos h]
    go_enter Try.func92, Try.ntmps92
    go_wp2_with fail
    refine (empty_any lo hi _).mono ?_
    rintro e w1 ⟨rfl, h1⟩
    rw [hd]
    go_wp2_with fail
    go_ret
    exact ⟨rfl, below1 h1⟩
  · have hd : decide (hi < lo) = false := by simpa using h
    rw [if_neg h]
    go_enter Try.func92, Try.ntmps92
    go_wp2_with fail
    refine (empty_any lo hi _).mono ?_
    rintro e w1 ⟨rfl, h1⟩
    rw [hd]
    go_wp2_with fail
    go_ret
    exact ⟨rfl, below1 h1⟩

def hasB (lo hi v : Int) : Bool := decide (lo ≤ v) && decide (v ≤ hi)
set_option maxHeartbeats 400000 in
theorem has_any (lo hi v : Int) (w : World) : Calls Try.prog 58 #[rng lo hi, .int .i64 v] w fun r w' => r = .returned (.bool (hasB lo hi v)) ∧ Below w.heap.size w w' := by
  unfold hasB
  by_cases h : lo ≤ v
  · have hd : decide (lo ≤ v) = true := by simpa using h
    rw [hd]
    go_enter Try.func58, Try.ntmps58
    go_wp2
    go_ret
    exact ⟨rfl, (Below.refl _ _).alloc (Nat.le_refl _) _⟩
  · have hd : decide (lo ≤ v) = false := by simpa using h
    rw [hd]
    go_enter Try.func58, Try.ntmps58
    go_wp2
    go_ret
    exact ⟨rfl, (Below.refl _ _).alloc (Nat.le_refl _) _⟩

def inB (lo hi a b : Int) : Bool := decide (hi < lo) || (hasB a b lo && hasB a b hi)

theorem keep2' {w w1 : World} {a b c d : Value} {t u : TypeId} (hb : Below ((w.alloc (.cells #[a, b] t)).alloc (.cells #[c, d] u)).heap.size ((w.alloc (.cells #[a, b] t)).alloc (.cells #[c, d] u)) w1) :
    w1.cell? ⟨w.heap.size, 0, none⟩ = some a ∧ w1.cell? ⟨w.heap.size, 1, none⟩ = some b ∧ w1.cell? ⟨w.heap.size + 1, 0, none⟩ = some c ∧ w1.cell? ⟨w.heap.size + 1, 1, none⟩ = some d := by
  obtain ⟨c0, c1, c2, c3, _⟩ := keep2 hb
  exact ⟨c0, c1, c2, c3⟩

end Go.Proofs.Ytlloppalagddnaa
