import Derived.Test.YtehbpmibllpkhaaGreatDoorUd3
import Derived.Laws.Bits64b
import Derived.Laws.BitsLemmas
set_option linter.all false
namespace Go.Proofs.YtehbpmibllpkhaaGreatDoor
open Go.RowKit Go.QK Go.Maps Go.QM Go.QU
set_option maxRecDepth 100000
/-! Whole numbers in two halves: the document's. -/
def wh (z : Int) : Int := z / 4294967296
def wl (z : Int) : Int := z % 4294967296
abbrev wd (z : Int) : Value := .agg #[.int .i64 (wh z), .int .i64 (wl z)]
def Bd (z : Int) : Prop := -1208925819614629174706176 ≤ z ∧ z ≤ 1208925819614629174706176
theorem I64.bd {z : Int} (h : I64 z) : Bd z := by unfold I64 at h; unfold Bd; omega

theorem and32 (x : Int) : bits .and .i64 x 4294967295 = x % 4294967296 := by
  have h2 : (BitVec.ofInt 64 4294967295).toNat = 2 ^ 32 - 1 := by decide
  show IntKind.i64.wrap ((BitVec.ofInt 64 x &&& BitVec.ofInt 64 4294967295).toNat : Int) = _
  rw [BitVec.toNat_and, h2, Nat.and_two_pow_sub_one_eq_mod, BitVec.toNat_ofInt, IntKind.wrap_i64]
  omega

set_option maxHeartbeats 1000000 in
theorem of_any (v : Int) (w : World) : Calls Tryz.prog 19 #[.int .i64 v] w fun r w' => r = .returned (wd v) ∧ Below w.heap.size w w' := by
  have a1 := and32 v
  go_enter Tryz.func19, Tryz.ntmps19
  go_wp2_with fail
  refine bodyPost_ret (v := wd v) (by simp [results, Tryz.results19, go_sem, wh, wl]) rfl ⟨rfl, ?_⟩
  exact (Below.refl _ _).alloc (Nat.le_refl _) _

set_option maxHeartbeats 1000000 in
theorem plus_w (z v : Int) (w : World) (hz : Bd z) (hv : I64 v) : Calls Tryz.prog 20 #[wd z, .int .i64 v] w fun r w' => r = .returned (wd (z + v)) ∧ Below w.heap.size w w' := by
  have a1 := and32 v
  have a2 := and32 (wl z + v % 4294967296)
  have w1 : wrap64 (wl z + v % 4294967296) = wl z + v % 4294967296 := wrapI (by unfold wl I64; omega)
  have w2 : wrap64 (wh z + v / 4294967296) = wh z + v / 4294967296 := wrapI (by unfold Bd at hz; unfold I64 at hv; unfold wh I64; omega)
  have w3 : wrap64 (wh z + v / 4294967296 + (wl z + v % 4294967296) / 4294967296) = wh (z + v) := by
    rw [wrapI (by unfold Bd at hz; unfold I64 at hv; unfold wh wl I64; omega)]
    unfold wh wl; omega
  have e4 : wl (z + v) = (wl z + v % 4294967296) % 4294967296 := by unfold wl; omega
  rw [← e4] at a2
  clear e4 hz hv
  go_enter Tryz.func20, Tryz.ntmps20
  go_wp2_with fail
  refine bodyPost_ret (v := wd (z + v)) (by simp [results, Tryz.results20, go_sem, w1, w2, w3]) rfl ⟨rfl, ?_⟩
  exact ((Below.refl _ _).alloc (Nat.le_refl _) _).alloc (by simp) _

set_option maxHeartbeats 1000000 in
theorem fits_raw (zh zl : Int) (w : World) : Calls Tryz.prog 21 #[.agg #[.int .i64 zh, .int .i64 zl]] w fun r w' => r = .returned (.bool (decide (-2147483648 ≤ zh) && decide (zh < 2147483648))) ∧ Below w.heap.size w w' := by
  by_cases h1 : -2147483648 ≤ zh
  · have d1 : decide (-2147483648 ≤ zh) = true := by simpa using h1
    rw [d1, Bool.true_and]
    go_enter Tryz.func21, Tryz.ntmps21
    go_wp2_with fail
    go_ret
    exact ⟨rfl, (Below.refl _ _).alloc (Nat.le_refl _) _⟩
  · have d1 : decide (-2147483648 ≤ zh) = false := by simpa using h1
    rw [d1, Bool.false_and]
    go_enter Tryz.func21, Tryz.ntmps21
    go_wp2_with fail
    go_ret
    exact ⟨rfl, (Below.refl _ _).alloc (Nat.le_refl _) _⟩

theorem fits_w (z : Int) (w : World) : Calls Tryz.prog 21 #[wd z] w fun r w' => r = .returned (.bool (fitB z)) ∧ Below w.heap.size w w' := by
  have e : fitB z = (decide (-2147483648 ≤ wh z) && decide (wh z < 2147483648)) := by
    unfold fitB wh
    rw [Bool.eq_iff_iff]
    simp
    omega
  rw [e]
  exact fits_raw _ _ w
end Go.Proofs.YtehbpmibllpkhaaGreatDoor
