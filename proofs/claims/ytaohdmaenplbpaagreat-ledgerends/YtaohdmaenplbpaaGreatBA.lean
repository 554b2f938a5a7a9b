import Derived.Test.YtaohdmaenplbpaaGreatProg
import Derived.WalkKit
import Derived.WalkSpells
import Derived.WalkLawsBesides
import Derived.Laws.Externs
import Derived.Deep.RegionWith
set_option linter.all false
namespace Quota

/-- The lower half of a number of 128 bits in two's complement. -/
def loOf (z : Int) : Int := z % 18446744073709551616
/-- The upper half. -/
def hiOf (z : Int) : Int := (z / 18446744073709551616) % 18446744073709551616
/-- The carry out of 64 bits. -/
def upOf (z : Int) : Int := z / 18446744073709551616
/-- The borrow: 1 below nothing, else 0. -/
def boOf (z : Int) : Int := if z < 0 then 1 else 0
/-- Does it fit an int64? -/
def fitB (z : Int) : Bool := decide (-9223372036854775808 ≤ z ∧ z ≤ 9223372036854775807)
def fitV (z : Int) : Int := if fitB z then z else 0
def fitE (z : Int) : Int := if fitB z then 0 else 10
/-- An int64. -/
def I64 (z : Int) : Prop := -9223372036854775808 ≤ z ∧ z ≤ 9223372036854775807
/-- A number of 128 bits. -/
def I128 (z : Int) : Prop := -170141183460469231731687303715884105728 ≤ z ∧ z ≤ 170141183460469231731687303715884105727

theorem fitB_true {z : Int} : fitB z = true ↔ I64 z := by simp [fitB, I64]
theorem fitB_false {z : Int} : fitB z = false ↔ ¬ I64 z := by simp [fitB, I64]

theorem lo_bd (z : Int) : 0 ≤ loOf z ∧ loOf z ≤ 18446744073709551615 := by unfold loOf; omega
theorem hi_bd (z : Int) : 0 ≤ hiOf z ∧ hiOf z ≤ 18446744073709551615 := by unfold hiOf; omega
theorem up_bd (z n : Int) : 0 ≤ upOf (loOf z + loOf n) ∧ upOf (loOf z + loOf n) ≤ 1 := by unfold upOf loOf; omega
theorem bo_bd (z : Int) : 0 ≤ boOf z ∧ boOf z ≤ 1 := by unfold boOf; split <;> omega

theorem widen_hi (n : Int) (h : I64 n) : (n / 9223372036854775808) % 18446744073709551616 = hiOf n := by
  unfold I64 at h; unfold hiOf; omega
theorem plus_lo (z n : Int) : loOf (loOf z + loOf n) = loOf (z + n) := by unfold loOf; omega
theorem plus_hi (z n : Int) : loOf (hiOf z + hiOf n + upOf (loOf z + loOf n)) = hiOf (z + n) := by unfold loOf hiOf upOf; omega
theorem minus_lo (z n : Int) : loOf (loOf z - loOf n) = loOf (z - n) := by unfold loOf; omega
theorem minus_hi (z n : Int) : loOf (hiOf z - hiOf n - boOf (loOf z - loOf n)) = hiOf (z - n) := by
  unfold loOf hiOf boOf; split <;> omega

/-- The signed reading of the lower half. -/
def sgOf (z : Int) : Int := if loOf z ≤ 9223372036854775807 then loOf z else loOf z - 18446744073709551616
theorem sg_bd (z : Int) : I64 (sgOf z) := by unfold I64 sgOf loOf; split <;> omega
theorem sg_lo (z : Int) : loOf (sgOf z) = loOf z := by unfold sgOf loOf; split <;> omega
theorem sg_yes (z : Int) (h : I64 z) : sgOf z = z ∧ hiOf (sgOf z) = hiOf z := by
  have : sgOf z = z := by unfold I64 at h; unfold sgOf loOf; split <;> omega
  exact ⟨this, by rw [this]⟩
theorem sg_no (z : Int) (h : ¬ I64 z) (k : I128 z) : ¬ hiOf (sgOf z) = hiOf z := by
  unfold I64 at h; unfold I128 at k; unfold sgOf hiOf loOf; split <;> omega
end Quota

namespace Go.Proofs.YtaohdmaenplbpaaGreat
open Go.RowKit Quota

theorem bcell {W w1 : World} (hb : Below W.heap.size W w1) : (∀ b o, b < W.heap.size → w1.cell? ⟨b, o, none⟩ = W.cell? ⟨b, o, none⟩) ∧ (∀ b o, b < W.heap.size → w1.frozen? ⟨b, o, none⟩ = W.frozen? ⟨b, o, none⟩) :=
  ⟨fun b o h => hb.cell (p := ⟨b, o, none⟩) h, fun b o h => hb.frozen (p := ⟨b, o, none⟩) h⟩

/-- A number of 128 bits as the program lays it. -/
abbrev wide (z : Int) : Value := .agg #[.int .u64 (hiOf z), .int .u64 (loOf z)]

theorem add64_run (x y c : Int) (hx : 0 ≤ x) (hy : 0 ≤ y) (hc0 : 0 ≤ c) (hc : c ≤ 1) (w : World) :
    (callFunc 153 #[.int .u64 x, .int .u64 y, .int .u64 c]).run Tryz.prog w =
      .ok (.value (.tuple #[.int .u64 (loOf (x + y + c)), .int .u64 (upOf (x + y + c))])) w := by
  rw [run_callFunc_extern Tryz.func153 (by kernel_rfl) (by kernel_rfl) (by kernel_rfl) (e := add64Entry) (by kernel_rfl), run_add64 x y c hx hy hc0 hc]
  rfl

theorem wrapu (n : Int) : IntKind.u64.wrap n = loOf n := by rw [IntKind.wrap_u64]; rfl

set_option maxHeartbeats 400000 in
theorem widen_any (n : Int) (w : World) (h : I64 n) :
    Calls Tryz.prog 131 #[.int .i64 n] w fun e w' => e = .returned (wide n) ∧ Below w.heap.size w w' := by
  have e1 : IntKind.u64.wrap (n / 9223372036854775808) = hiOf n := by rw [IntKind.wrap_u64]; exact widen_hi n h
  have E1 : Hid (IntKind.u64.wrap (n / 9223372036854775808) = hiOf n) := e1
  clear e1
  go_enter Tryz.func131, Tryz.ntmps131
  go_wp2
  rw [E1.out, wrapu]
  exact bodyPost_ret (v := wide n) (by simp [results, Tryz.results131, go_sem, wide]) rfl ⟨rfl, (Below.refl _ _).alloc (Nat.le_refl _) _⟩


theorem keep2 {w w1 : World} {a b c d : Value} {t u : TypeId} (hb : Below ((w.alloc (.cells #[a, b] t)).alloc (.cells #[c, d] u)).heap.size ((w.alloc (.cells #[a, b] t)).alloc (.cells #[c, d] u)) w1) :
    w1.cell? ⟨w.heap.size, 0, none⟩ = some a ∧ w1.cell? ⟨w.heap.size, 1, none⟩ = some b ∧ w1.cell? ⟨w.heap.size + 1, 0, none⟩ = some c ∧ w1.cell? ⟨w.heap.size + 1, 1, none⟩ = some d ∧
    w1.frozen? ⟨w.heap.size + 1, 0, none⟩ = false ∧ w1.frozen? ⟨w.heap.size + 1, 1, none⟩ = false ∧ w.heap.size < w1.heap.size ∧ w.heap.size + 1 < w1.heap.size := by
  have hz := hb.size
  simp at hz
  refine ⟨?_, ?_, ?_, ?_, ?_, ?_, by omega, by omega⟩
  · exact (hb.cell (p := ⟨w.heap.size, 0, none⟩) (by simp; omega)).trans (by simp [go_sem])
  · exact (hb.cell (p := ⟨w.heap.size, 1, none⟩) (by simp; omega)).trans (by simp [go_sem])
  · exact (hb.cell (p := ⟨w.heap.size + 1, 0, none⟩) (by simp)).trans (by simp [go_sem])
  · exact (hb.cell (p := ⟨w.heap.size + 1, 1, none⟩) (by simp)).trans (by simp [go_sem])
  · exact (hb.frozen (p := ⟨w.heap.size + 1, 0, none⟩) (by simp)).trans (by simp [go_sem])
  · exact (hb.frozen (p := ⟨w.heap.size + 1, 1, none⟩) (by simp)).trans (by simp [go_sem])

theorem below1 {w w1 : World} {o : Obj} (hb : Below (w.alloc o).heap.size (w.alloc o) w1) : Below w.heap.size w w1 :=
  ((Below.refl _ _).alloc (Nat.le_refl _) _).trans (hb.mono (by simp))
theorem below2 {w w1 : World} {o p : Obj} (hb : Below ((w.alloc o).alloc p).heap.size ((w.alloc o).alloc p) w1) : Below w.heap.size w w1 := below1 (below1 hb)

set_option maxHeartbeats 400000 in
theorem plus_any (z n : Int) (w : World) (h : I64 n) :
    Calls Tryz.prog 132 #[wide z, .int .i64 n] w fun e w' => e = .returned (wide (z + n)) ∧ Below w.heap.size w w' := by
  have z1 := lo_bd z
  have z2 := hi_bd z
  have n1 := lo_bd n
  have n2 := hi_bd n
  have u1 := up_bd z n
  have r1 := add64_run (loOf z) (loOf n) 0 (by omega) (by omega) (by omega) (by omega)
  have r2 := add64_run (hiOf z) (hiOf n) (upOf (loOf z + loOf n)) (by omega) (by omega) (by omega) (by omega)
  rw [Int.add_zero, plus_lo] at r1
  rw [plus_hi] at r2
  clear z1 z2 n1 n2 u1
  go_enter Tryz.func132, Tryz.ntmps132
  go_wp2_with (go_at_call 131; refine (widen_any n _ h).mono ?_; rintro e w1 ⟨rfl, hb⟩; have HB : Hid _ := hb; obtain ⟨c0, c1, c2, c3, f0, f1, hz0, hz1⟩ := keep2 hb; clear hb)
  refine bodyPost_ret (v := wide (z + n)) ?_ rfl ⟨rfl, ?_⟩
  · simp [results, Tryz.results132, go_sem, c2, c3, hz1]
  · exact ((((below2 HB.out).setCell (Nat.le_succ _) _).setCell (Nat.le_succ _) _).alloc (by simp; omega) _)

theorem wrapi (z : Int) : wrap64 (loOf z) = sgOf z := by
  unfold wrap64 loOf sgOf loOf; split <;> omega

theorem below_undrew {B : Nat} {w w1 : World} (h : Below B w.drew w1) : Below B w w1 := ⟨h.os, h.tape, h.output, h.size, h.block⟩

theorem keep1 {w w1 : World} {a b : Value} {t : TypeId} (hb : Below (w.alloc (.cells #[a, b] t)).heap.size (w.alloc (.cells #[a, b] t)) w1) :
    w1.cell? ⟨w.heap.size, 0, none⟩ = some a ∧ w1.cell? ⟨w.heap.size, 1, none⟩ = some b ∧
    w1.frozen? ⟨w.heap.size, 0, none⟩ = false ∧ w1.frozen? ⟨w.heap.size, 1, none⟩ = false ∧ w.heap.size < w1.heap.size := by
  have hz := hb.size
  simp at hz
  refine ⟨?_, ?_, ?_, ?_, by omega⟩
  · exact (hb.cell (p := ⟨w.heap.size, 0, none⟩) (by simp)).trans (by simp [go_sem])
  · exact (hb.cell (p := ⟨w.heap.size, 1, none⟩) (by simp)).trans (by simp [go_sem])
  · exact (hb.frozen (p := ⟨w.heap.size, 0, none⟩) (by simp)).trans (by simp [go_sem])
  · exact (hb.frozen (p := ⟨w.heap.size, 1, none⟩) (by simp)).trans (by simp [go_sem])

set_option maxHeartbeats 400000 in
theorem narrow_yes (z : Int) (w : World) (h : I64 z) :
    Calls Tryz.prog 133 #[wide z] w fun e w' => e = .returned (.tuple #[.int .i64 z, .int .i64 0]) ∧ Below w.heap.size w w' := by
  have s1 : wrap64 (loOf z) = z := by rw [wrapi]; exact (sg_yes z h).1
  go_enter Tryz.func133, Tryz.ntmps133
  go_wp2_with fail
  go_region_with (go_at_call 131; refine (widen_any z _ h).mono ?_; rintro e w1 ⟨rfl, hb⟩; have HB : Hid _ := below_undrew hb; obtain ⟨c0, c1, f0, f1, hz0⟩ := keep1 (below_undrew hb); clear hb)
  all_goals
    go_wp2
    go_ret2
    exact ⟨rfl, (below1 HB.out)⟩

set_option maxHeartbeats 400000 in
theorem narrow_no (z : Int) (w : World) (h : ¬ I64 z) (k : I128 z) :
    Calls Tryz.prog 133 #[wide z] w fun e w' => e = .returned (.tuple #[.int .i64 0, .int .i64 10]) ∧ Below w.heap.size w w' := by
  have s1 : wrap64 (loOf z) = sgOf z := wrapi z
  have s2 : (hiOf (sgOf z) == hiOf z) = false := by simpa using sg_no z h k
  have s3 : (hiOf z == hiOf (sgOf z)) = false := by simpa using fun e => sg_no z h k e.symm
  go_enter Tryz.func133, Tryz.ntmps133
  go_wp2_with fail
  go_region_with (go_at_call 131; refine (widen_any (sgOf z) _ (sg_bd z)).mono ?_; rintro e w1 ⟨rfl, hb⟩; have HB : Hid _ := below_undrew hb; obtain ⟨c0, c1, f0, f1, hz0⟩ := keep1 (below_undrew hb); clear hb)
  all_goals
    go_wp2
    go_ret2
    exact ⟨rfl, (below1 HB.out)⟩

theorem narrow_any (z : Int) (w : World) (k : I128 z) :
    Calls Tryz.prog 133 #[wide z] w fun e w' => e = .returned (.tuple #[.int .i64 (fitV z), .int .i64 (fitE z)]) ∧ Below w.heap.size w w' := by
  by_cases h : I64 z
  · have e := fitB_true.2 h
    rw [show fitV z = z by simp [fitV, e], show fitE z = 0 by simp [fitE, e]]
    exact narrow_yes z w h
  · have e := fitB_false.2 h
    rw [show fitV z = 0 by simp [fitV, e], show fitE z = 10 by simp [fitE, e]]
    exact narrow_no z w h k
end Go.Proofs.YtaohdmaenplbpaaGreat

namespace Go.Proofs.YtaohdmaenplbpaaGreat
open Go.RowKit Quota

theorem i128_add {a b : Int} (ha : I64 a) (hb : I64 b) : I128 (a + b) := by unfold I64 at ha hb; unfold I128; omega
set_option maxHeartbeats 400000 in
theorem add_any (a b : Int) (w : World) (ha : I64 a) (hb : I64 b) :
    Calls Tryz.prog 95 #[.int .i64 a, .int .i64 b] w fun e w' => e = .returned (.tuple #[.int .i64 (fitV (a + b)), .int .i64 (fitE (a + b))]) ∧ Below w.heap.size w w' := by
  have k := i128_add ha hb
  go_enter Tryz.func95, Tryz.ntmps95
  go_wp2_with fail
  refine (widen_any a _ ha).mono ?_
  rintro e w1 ⟨rfl, h1⟩
  go_wp2_with fail
  refine (plus_any a b _ hb).mono ?_
  rintro e w2 ⟨rfl, h2⟩
  go_wp2_with fail
  refine (narrow_any (a + b) _ k).mono ?_
  rintro e w3 ⟨rfl, h3⟩
  go_wp2_with fail
  go_ret2
  exact ⟨rfl, (h1.trans (h2.mono h1.size)).trans (h3.mono (Nat.le_trans h1.size h2.size))⟩

/-- A range as the program lays it. -/
abbrev rng (lo hi : Int) : Value := .agg #[.int .i64 lo, .int .i64 hi]

set_option maxHeartbeats 400000 in
theorem empty_any (lo hi : Int) (w : World) : Calls Tryz.prog 110 #[rng lo hi] w fun r w' => r = .returned (.bool (decide (hi < lo))) ∧ Below w.heap.size w w' := by
  go_enter Tryz.func110, Tryz.ntmps110
  go_wp2
  go_ret
  exact ⟨rfl, (Below.refl _ _).alloc (Nat.le_refl _) _⟩

def chkE (lo hi : Int) : Int := if hi < lo then 11 else 0
set_option maxHeartbeats 400000 in
theorem check_any (lo hi : Int) (w : World) : Calls Tryz.prog 85 #[rng lo hi] w fun r w' => r = .returned (.int .i64 (chkE lo hi)) ∧ Below w.heap.size w w' := by
  unfold chkE
  by_cases h : hi < lo
  · have hd : decide (hi < lo) = true := by simpa using h
    rw [if_pos h]
    go_enter Tryz.func85, Tryz.ntmps85
    go_wp2_with fail
    refine (empty_any lo hi _).mono ?_
    rintro e w1 ⟨rfl, h1⟩
    rw [hd]
    go_wp2_with fail
    go_ret
    exact ⟨rfl, below1 h1⟩
  · have hd : decide (hi < lo) = false := by simpa using h
    rw [if_neg h]
    go_enter Tryz.func85, Tryz.ntmps85
    go_wp2_with fail
    refine (empty_any lo hi _).mono ?_
    rintro e w1 ⟨rfl, h1⟩
    rw [hd]
    go_wp2_with fail
    go_ret
    exact ⟨rfl, below1 h1⟩

def hasB (lo hi v : Int) : Bool := decide (lo ≤ v) && decide (v ≤ hi)
set_option maxHeartbeats 400000 in
theorem has_any (lo hi v : Int) (w : World) : Calls Tryz.prog 86 #[rng lo hi, .int .i64 v] w fun r w' => r = .returned (.bool (hasB lo hi v)) ∧ Below w.heap.size w w' := by
  unfold hasB
  by_cases h : lo ≤ v
  · have hd : decide (lo ≤ v) = true := by simpa using h
    rw [hd]
    go_enter Tryz.func86, Tryz.ntmps86
    go_wp2
    go_ret
    exact ⟨rfl, (Below.refl _ _).alloc (Nat.le_refl _) _⟩
  · have hd : decide (lo ≤ v) = false := by simpa using h
    rw [hd]
    go_enter Tryz.func86, Tryz.ntmps86
    go_wp2
    go_ret
    exact ⟨rfl, (Below.refl _ _).alloc (Nat.le_refl _) _⟩

def inB (lo hi a b : Int) : Bool := decide (hi < lo) || (hasB a b lo && hasB a b hi)

theorem keep2' {w w1 : World} {a b c d : Value} {t u : TypeId} (hb : Below ((w.alloc (.cells #[a, b] t)).alloc (.cells #[c, d] u)).heap.size ((w.alloc (.cells #[a, b] t)).alloc (.cells #[c, d] u)) w1) :
    w1.cell? ⟨w.heap.size, 0, none⟩ = some a ∧ w1.cell? ⟨w.heap.size, 1, none⟩ = some b ∧ w1.cell? ⟨w.heap.size + 1, 0, none⟩ = some c ∧ w1.cell? ⟨w.heap.size + 1, 1, none⟩ = some d := by
  obtain ⟨c0, c1, c2, c3, _⟩ := keep2 hb
  exact ⟨c0, c1, c2, c3⟩

set_option maxHeartbeats 400000 in
theorem within_any (lo hi a b : Int) (w : World) : Calls Tryz.prog 97 #[rng lo hi, rng a b] w fun r w' => r = .returned (.bool (inB lo hi a b)) ∧ Below w.heap.size w w' := by
  unfold inB
  by_cases h : hi < lo
  · have hd : decide (hi < lo) = true := by simpa using h
    rw [hd, Bool.true_or]
    go_enter Tryz.func97, Tryz.ntmps97
    go_wp2_with fail
    refine (empty_any lo hi _).mono ?_
    rintro e w1 ⟨rfl, h1⟩
    rw [hd]
    have H1 : Hid _ := h1
    obtain ⟨c0, c1, c2, c3⟩ := keep2' h1
    clear h1
    go_wp2_with fail
    go_ret
    exact ⟨rfl, below2 H1.out⟩
  · have hd : decide (hi < lo) = false := by simpa using h
    rw [hd, Bool.false_or]
    by_cases hh : hasB a b lo = true
    · rw [hh, Bool.true_and]
      go_enter Tryz.func97, Tryz.ntmps97
      go_wp2_with fail
      refine (empty_any lo hi _).mono ?_
      rintro e w1 ⟨rfl, h1⟩
      rw [hd]
      have H1 : Hid _ := h1
      obtain ⟨c0, c1, c2, c3⟩ := keep2' h1
      clear h1
      go_wp2_with fail
      refine (has_any a b lo _).mono ?_
      rintro e w2 ⟨rfl, h2⟩
      rw [hh]
      have H2 : Hid _ := (H1.out).trans (h2.mono H1.out.size)
      clear h2
      obtain ⟨c0, c1, c2, c3⟩ := keep2' H2.out
      go_wp2_with fail
      refine (has_any a b hi _).mono ?_
      rintro e w3 ⟨rfl, h3⟩
      go_wp2_with fail
      go_ret
      exact ⟨rfl, below2 (H2.out.trans (h3.mono H2.out.size))⟩
    · have hh : hasB a b lo = false := by simpa using hh
      rw [hh, Bool.false_and]
      go_enter Tryz.func97, Tryz.ntmps97
      go_wp2_with fail
      refine (empty_any lo hi _).mono ?_
      rintro e w1 ⟨rfl, h1⟩
      rw [hd]
      have H1 : Hid _ := h1
      obtain ⟨c0, c1, c2, c3⟩ := keep2' h1
      clear h1
      go_wp2_with fail
      refine (has_any a b lo _).mono ?_
      rintro e w2 ⟨rfl, h2⟩
      rw [hh]
      go_wp2_with fail
      go_ret
      exact ⟨rfl, below2 ((H1.out).trans (h2.mono H1.out.size))⟩
end Go.Proofs.YtaohdmaenplbpaaGreat

namespace Quota

def isum : List Int → Int
  | [] => 0
  | x :: r => x + isum r

theorem isum_append (a b : List Int) : isum (a ++ b) = isum a + isum b := by
  induction a with
  | nil => simp [isum]
  | cons x r ih => simp only [List.cons_append, isum, ih]; omega

theorem isum_take (xs : List Int) (k : Nat) (h : k < xs.length) : isum (xs.take (k + 1)) = isum (xs.take k) + xs[k] := by
  rw [List.take_succ_eq_append_getElem h, isum_append]; simp [isum]

def All (xs : List Int) : Prop := ∀ x ∈ xs, I64 x

theorem all_take {xs : List Int} (h : All xs) (k : Nat) : All (xs.take k) := fun x hx => h x (List.mem_of_mem_take hx)
theorem all_drop {xs : List Int} (h : All xs) (k : Nat) : All (xs.drop k) := fun x hx => h x (List.mem_of_mem_drop hx)
theorem all_app {xs ys : List Int} (h : All xs) (k : All ys) : All (xs ++ ys) := fun x hx => by
  rcases List.mem_append.1 hx with a | a
  · exact h x a
  · exact k x a
theorem all_get {xs : List Int} (h : All xs) (k : Nat) (hk : k < xs.length) : I64 xs[k] := h _ (List.getElem_mem hk)

theorem isum_bd (xs : List Int) (h : All xs) : -(9223372036854775808 * (xs.length : Int)) ≤ isum xs ∧ isum xs ≤ 9223372036854775808 * (xs.length : Int) := by
  induction xs with
  | nil => simp [isum]
  | cons x r ih =>
    have hx := h x (by simp)
    have hr := ih (fun y hy => h y (by simp [hy]))
    unfold I64 at hx
    simp only [isum, List.length_cons]
    omega

theorem isum_128 (xs : List Int) (h : All xs) (hl : xs.length ≤ 1000000) : I128 (isum xs) := by
  have := isum_bd xs h
  unfold I128
  omega

/-- The sum of those below 0, and of those that are not. -/
def lows : List Int → Int
  | [] => 0
  | x :: r => (if x < 0 then x else 0) + lows r
def highs : List Int → Int
  | [] => 0
  | x :: r => (if x < 0 then 0 else x) + highs r

theorem lows_append (a b : List Int) : lows (a ++ b) = lows a + lows b := by
  induction a with
  | nil => simp [lows]
  | cons x r ih => simp only [List.cons_append, lows, ih]; omega
theorem highs_append (a b : List Int) : highs (a ++ b) = highs a + highs b := by
  induction a with
  | nil => simp [highs]
  | cons x r ih => simp only [List.cons_append, highs, ih]; omega

theorem lows_neg (xs : List Int) (k : Nat) (h : k < xs.length) (hn : xs[k] < 0) : lows (xs.take (k + 1)) = lows (xs.take k) + xs[k] ∧ highs (xs.take (k + 1)) = highs (xs.take k) := by
  rw [List.take_succ_eq_append_getElem h, lows_append, highs_append]; simp [lows, highs, hn]
theorem lows_pos (xs : List Int) (k : Nat) (h : k < xs.length) (hn : ¬ xs[k] < 0) : lows (xs.take (k + 1)) = lows (xs.take k) ∧ highs (xs.take (k + 1)) = highs (xs.take k) + xs[k] := by
  rw [List.take_succ_eq_append_getElem h, lows_append, highs_append]; simp only [lows, highs, if_neg hn]; omega

theorem lows_bd (xs : List Int) (h : All xs) : -(9223372036854775808 * (xs.length : Int)) ≤ lows xs ∧ lows xs ≤ 0 ∧ 0 ≤ highs xs ∧ highs xs ≤ 9223372036854775808 * (xs.length : Int) := by
  induction xs with
  | nil => simp [lows, highs]
  | cons x r ih =>
    have hx := h x (by simp)
    have hr := ih (fun y hy => h y (by simp [hy]))
    unfold I64 at hx
    simp only [lows, highs, List.length_cons]
    split <;> omega

theorem worst_128 (b : Int) (xs : List Int) (hb : I64 b) (h : All xs) (hl : xs.length ≤ 1000000) : I128 (b + lows xs) ∧ I128 (b + highs xs) := by
  have := lows_bd xs h
  unfold I64 at hb
  unfold I128
  omega

def okW (b : Int) (xs : List Int) : Bool := fitB (b + lows xs) && fitB (b + highs xs)
def loW (b : Int) (xs : List Int) : Int := if okW b xs then b + lows xs else 0
def hiW (b : Int) (xs : List Int) : Int := if okW b xs then b + highs xs else 0
def erW (b : Int) (xs : List Int) : Int := if okW b xs then 0 else 10
end Quota

namespace Go.Proofs.YtaohdmaenplbpaaGreat
open Go.RowKit Quota

/-- The numbers that a slice leads to. -/
def Seen (w : World) (a : Option Addr) (xs : List Int) : Prop :=
  xs = [] ∨ ∃ b off, a = some ⟨b, off, none⟩ ∧ b < w.heap.size ∧ ∀ i (h : i < xs.length), w.cell? ⟨b, off + i, none⟩ = some (.int .i64 xs[i])

theorem Seen.below {w w' : World} {a : Option Addr} {xs : List Int} (h : Seen w a xs) (hb : Below w.heap.size w w') : Seen w' a xs := by
  rcases h with h | ⟨b, off, ha, hlt, hc⟩
  · exact .inl h
  · exact .inr ⟨b, off, ha, Nat.lt_of_lt_of_le hlt hb.size, fun i hi => (hb.cell (p := ⟨b, off + i, none⟩) hlt).trans (hc i hi)⟩


/-- Block b holds two values and may be written. -/
def Box (w : World) (b : Nat) (x y : Value) : Prop :=
  b < w.heap.size ∧ w.cell? ⟨b, 0, none⟩ = some x ∧ w.cell? ⟨b, 1, none⟩ = some y ∧ w.frozen? ⟨b, 0, none⟩ = false ∧ w.frozen? ⟨b, 1, none⟩ = false

theorem Box.below {w w' : World} {b : Nat} {x y : Value} (h : Box w b x y) (hb : Below w.heap.size w w') : Box w' b x y := by
  obtain ⟨h0, h1, h2, h3, h4⟩ := h
  exact ⟨Nat.lt_of_lt_of_le h0 hb.size, (hb.cell (p := ⟨b, 0, none⟩) h0).trans h1, (hb.cell (p := ⟨b, 1, none⟩) h0).trans h2, (hb.frozen (p := ⟨b, 0, none⟩) h0).trans h3, (hb.frozen (p := ⟨b, 1, none⟩) h0).trans h4⟩

theorem Box.alloc {w : World} {b : Nat} {x y : Value} (h : Box w b x y) (o : Obj) : Box (w.alloc o) b x y :=
  h.below ((Below.refl _ _).alloc (Nat.le_refl _) _)

theorem Box.new (w : World) (x y : Value) (t : TypeId) : Box (w.alloc (.cells #[x, y] t)) w.heap.size x y := by
  refine ⟨by simp, ?_, ?_, ?_, ?_⟩ <;> simp [go_sem]

theorem Box.other {w : World} {b c o : Nat} {x y v : Value} (h : Box w b x y) (hc : c ≠ b) : Box (w.setCell ⟨c, o, none⟩ v) b x y := by
  obtain ⟨h0, h1, h2, h3, h4⟩ := h
  have hk : (w.setCell ⟨c, o, none⟩ v).heap[b]? = w.heap[b]? := Below.heap_setCell _ _ _ _ (fun e => hc e.symm)
  refine ⟨by simpa using h0, ?_, ?_, ?_, ?_⟩
  · exact (World.cell?_of_block (w := w) (a := ⟨b, 0, none⟩) hk).trans h1
  · exact (World.cell?_of_block (w := w) (a := ⟨b, 1, none⟩) hk).trans h2
  · exact (World.frozen?_of_block (w := w) (a := ⟨b, 0, none⟩) hk).trans h3
  · exact (World.frozen?_of_block (w := w) (a := ⟨b, 1, none⟩) hk).trans h4

theorem Box.set {w : World} {b : Nat} {x y : Value} (h : Box w b x y) (x' y' : Value) : Box ((w.setCell ⟨b, 0, none⟩ x').setCell ⟨b, 1, none⟩ y') b x' y' := by
  obtain ⟨h0, h1, h2, h3, h4⟩ := h
  refine ⟨by simpa using h0, ?_, ?_, ?_, ?_⟩ <;> simp [go_sem, h1, h2, h3, h4]
end Go.Proofs.YtaohdmaenplbpaaGreat

namespace Go.Proofs.YtaohdmaenplbpaaGreat
open Go.RowKit Quota

set_option maxHeartbeats 400000 in
theorem worst_any (base : Int) (xs : List Int) (a : Option Addr) (cap : Nat) (w : World) (h0 : I64 base) (hs : Seen w a xs) (hx : All xs) (hl : xs.length ≤ 1000000) :
    Calls Tryz.prog 134 #[.int .i64 base, .slice a xs.length cap] w fun e w' => e = .returned (.tuple #[rng (loW base xs) (hiW base xs), .int .i64 (erW base xs)]) ∧ Below w.heap.size w w' := by
  obtain ⟨k1, k2⟩ := worst_128 base xs h0 hx hl
  go_enter Tryz.func134, Tryz.ntmps134
  go_wp2_with fail
  refine (widen_any base _ h0).mono ?_
  rintro e w1 ⟨rfl, h1⟩
  have BR := Box.below (Box.new w (.int .i64 0) (.int .i64 0) 38) h1
  have b1 := below1 h1
  clear h1
  go_wp2_with fail
  refine (widen_any base _ h0).mono ?_
  rintro e w2 ⟨rfl, h2⟩
  have BR := Box.below BR h2
  have b2 := b1.trans (h2.mono b1.size)
  clear h2 b1
  go_wp2_with fail
  go_loopw [19, 9] (fun i n wr => ∃ k : Nat, k ≤ xs.length ∧ i = .int .i64 k ∧ Below w.heap.size w wr ∧ Box wr w.heap.size (.int .i64 0) (.int .i64 0) ∧ Box wr w2.heap.size (.int .u64 (hiOf (base + lows (xs.take k)))) (.int .u64 (loOf (base + lows (xs.take k)))) ∧ Box wr (w2.heap.size + 1) (.int .u64 (hiOf (base + highs (xs.take k)))) (.int .u64 (loOf (base + highs (xs.take k))))) (fun i _ _ => xs.length - (intOf i).toNat)
  case atStart =>
    refine ⟨0, Nat.zero_le _, rfl, (b2.alloc b2.size _).alloc (by simp; exact Nat.le_succ_of_le b2.size) _, (BR.alloc _).alloc _, ?_, ?_⟩
    · simp only [List.take_zero, lows, Int.add_zero]; exact (Box.new _ _ _ _).alloc _
    · simp only [List.take_zero, highs, Int.add_zero]
      have := Box.new (w2.alloc (.cells #[.int .u64 (hiOf base), .int .u64 (loOf base)] 202)) (.int .u64 (hiOf base)) (.int .u64 (loOf base)) 202
      simpa using this
  case round =>
    obtain ⟨k, hk, rfl, hb, XR, XL, XH⟩ := hrel
    have HR : Hid _ := XR
    have HL : Hid _ := XL
    have HH : Hid _ := XH
    have hne : w.heap.size < w2.heap.size := BR.1
    obtain ⟨zl, c0, c1, f0, f1⟩ := XL
    obtain ⟨zh, d0, d1, g0, g1⟩ := XH
    obtain ⟨zr, e0, e1, t0, t1⟩ := XR
    by_cases hlt : k < xs.length
    · have hi := all_get hx k hlt
      rcases hs.below hb with hn | ⟨b, off, rfl, hbl, hcell⟩
      · simp [hn] at hlt
      · have hck := hcell k hlt
        clear hcell
        by_cases hneg : xs[k] < 0
        · have HS : Hid _ := lows_neg xs k hlt hneg
          generalize xs[k] = x at *
          generalize hg : base + lows (xs.take k) = s at *
          generalize hg2 : base + highs (xs.take k) = t at *
          have HG : Hid _ := hg
          have HG2 : Hid _ := hg2
          clear hg hg2
          go_wp2_with fail
          refine (plus_any s x _ hi).mono ?_
          rintro e w3 ⟨rfl, h3⟩
          have YL := Box.below HL.out h3
          have YH := Box.below HH.out h3
          have YR := Box.below HR.out h3
          have HYL : Hid _ := YL
          clear c0 c1 f0 f1 d0 d1 g0 g1 e0 e1 t0 t1
          obtain ⟨zl, c0, c1, f0, f1⟩ := YL
          go_wp2_with fail
          go_roundw
          case rel =>
            refine ⟨k + 1, by omega, by go_num, ?_, ?_, ?_, ?_⟩
            · exact (((hb.trans (h3.mono hb.size)).setCell (Nat.le_of_lt hne) _).setCell (Nat.le_of_lt hne) _)
            · exact (YR.other (by omega)).other (by omega)
            · rw [HS.out.1, show base + (lows (xs.take k) + x) = s + x by rw [← HG.out]; omega]; exact Box.set HYL.out _ _
            · rw [HS.out.2, HG2.out]; exact (YH.other (by omega)).other (by omega)
          case measure => simp [intOf]; omega
        · have HS : Hid _ := lows_pos xs k hlt hneg
          generalize xs[k] = x at *
          generalize hg : base + lows (xs.take k) = s at *
          generalize hg2 : base + highs (xs.take k) = t at *
          have HG : Hid _ := hg
          have HG2 : Hid _ := hg2
          clear hg hg2
          go_wp2_with fail
          refine (plus_any t x _ hi).mono ?_
          rintro e w3 ⟨rfl, h3⟩
          have YL := Box.below HL.out h3
          have YH := Box.below HH.out h3
          have YR := Box.below HR.out h3
          have HYH : Hid _ := YH
          clear c0 c1 f0 f1 d0 d1 g0 g1 e0 e1 t0 t1
          obtain ⟨zh, d0, d1, g0, g1⟩ := YH
          go_wp2_with fail
          go_roundw
          case rel =>
            refine ⟨k + 1, by omega, by go_num, ?_, ?_, ?_, ?_⟩
            · exact (((hb.trans (h3.mono hb.size)).setCell (Nat.le_succ_of_le (Nat.le_of_lt hne)) _).setCell (Nat.le_succ_of_le (Nat.le_of_lt hne)) _)
            · exact (YR.other (by omega)).other (by omega)
            · rw [HS.out.1, HG.out]; exact (YL.other (by omega)).other (by omega)
            · rw [HS.out.2, show base + (highs (xs.take k) + x) = t + x by rw [← HG2.out]; omega]; exact Box.set HYH.out _ _
          case measure => simp [intOf]; omega
    · have hek : k = xs.length := by omega
      subst hek
      rw [List.take_length] at c0 c1 d0 d1 HL HH
      by_cases q1 : I64 (base + lows xs)
      · by_cases q2 : I64 (base + highs xs)
        · have HF : Hid (loW base xs = base + lows xs ∧ hiW base xs = base + highs xs ∧ erW base xs = 0) := by
            have : okW base xs = true := by simp [okW, fitB_true.2 q1, fitB_true.2 q2]
            exact ⟨by simp [loW, this], by simp [hiW, this], by simp [erW, this]⟩
          go_wp2_with fail
          refine (narrow_yes _ _ q1).mono ?_
          rintro e w3 ⟨rfl, h3⟩
          have YH := Box.below HH.out h3
          have YR := Box.below HR.out h3
          clear c0 c1 f0 f1 d0 d1 g0 g1 e0 e1 t0 t1
          have HYR : Hid _ := YR
          obtain ⟨zh, d0, d1, g0, g1⟩ := YH
          go_wp2_with fail
          refine (narrow_yes _ _ q2).mono ?_
          rintro e w4 ⟨rfl, h4⟩
          have ZR := Box.below YR h4
          clear d0 d1 g0 g1
          obtain ⟨zr, e0, e1, t0, t1⟩ := ZR
          go_wp2_with fail
          refine bodyPost_ret (v := .tuple #[rng (base + lows xs) (base + highs xs), .int .i64 0]) ?_ rfl ⟨?_, ?_⟩
          · simp [results, Tryz.results134, go_sem, e0, e1]
          · rw [HF.out.1, HF.out.2.1, HF.out.2.2]
          · exact (((hb.trans (h3.mono hb.size)).trans (h4.mono (Nat.le_trans hb.size h3.size))).setCell (Nat.le_refl _) _).setCell (Nat.le_refl _) _
        · have HF : Hid (loW base xs = 0 ∧ hiW base xs = 0 ∧ erW base xs = 10) := by
            have : okW base xs = false := by simp [okW, fitB_false.2 q2]
            exact ⟨by simp [loW, this], by simp [hiW, this], by simp [erW, this]⟩
          go_wp2_with fail
          refine (narrow_yes _ _ q1).mono ?_
          rintro e w3 ⟨rfl, h3⟩
          have YH := Box.below HH.out h3
          have YR := Box.below HR.out h3
          clear c0 c1 f0 f1 d0 d1 g0 g1 e0 e1 t0 t1
          have HYR : Hid _ := YR
          obtain ⟨zh, d0, d1, g0, g1⟩ := YH
          go_wp2_with fail
          refine (narrow_no _ _ q2 k2).mono ?_
          rintro e w4 ⟨rfl, h4⟩
          have ZR := Box.below YR h4
          clear d0 d1 g0 g1
          obtain ⟨zr, e0, e1, t0, t1⟩ := ZR
          go_wp2_with fail
          refine bodyPost_ret (v := .tuple #[rng 0 0, .int .i64 10]) ?_ rfl ⟨?_, ?_⟩
          · simp [results, Tryz.results134, go_sem, e0, e1]
          · rw [HF.out.1, HF.out.2.1, HF.out.2.2]
          · exact (((hb.trans (h3.mono hb.size)).trans (h4.mono (Nat.le_trans hb.size h3.size))).setCell (Nat.le_refl _) _).setCell (Nat.le_refl _) _
      · have HF : Hid (loW base xs = 0 ∧ hiW base xs = 0 ∧ erW base xs = 10) := by
          have : okW base xs = false := by simp [okW, fitB_false.2 q1]
          exact ⟨by simp [loW, this], by simp [hiW, this], by simp [erW, this]⟩
        go_wp2_with fail
        refine (narrow_no _ _ q1 k1).mono ?_
        rintro e w3 ⟨rfl, h3⟩
        have YR := Box.below HR.out h3
        clear c0 c1 f0 f1 d0 d1 g0 g1 e0 e1 t0 t1
        obtain ⟨zr, e0, e1, t0, t1⟩ := YR
        go_wp2_with fail
        refine bodyPost_ret (v := .tuple #[rng 0 0, .int .i64 10]) ?_ rfl ⟨?_, ?_⟩
        · simp [results, Tryz.results134, go_sem, e0, e1]
        · rw [HF.out.1, HF.out.2.1, HF.out.2.2]
        · exact ((hb.trans (h3.mono hb.size)).setCell (Nat.le_refl _) _).setCell (Nat.le_refl _) _
end Go.Proofs.YtaohdmaenplbpaaGreat
