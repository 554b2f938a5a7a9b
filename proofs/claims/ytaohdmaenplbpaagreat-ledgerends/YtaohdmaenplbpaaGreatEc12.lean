import Derived.Test.YtaohdmaenplbpaaGreatEc10
import Derived.Laws.Bits64b
import Derived.Laws.BitsLemmas
namespace Go.Proofs.YtaohdmaenplbpaaGreat
open Go.RowKit Go.QK Quota Go.Maps
set_option maxRecDepth 100000

/-! Whole numbers in two halves: the document's. -/
def wh (z : Int) : Int := z / 4294967296
def wl (z : Int) : Int := z % 4294967296
abbrev wd (z : Int) : Value := .agg #[.int .i64 (wh z), .int .i64 (wl z)]
def Bd (z : Int) : Prop := -1208925819614629174706176 ≤ z ∧ z ≤ 1208925819614629174706176
theorem I64.bd {z : Int} (h : I64 z) : Bd z := by unfold I64 at h; unfold Bd; omega

theorem and32 (x : Int) : bits .and .i64 x 4294967295 = x % 4294967296 := by
  have h2 : (BitVec.ofInt 64 4294967295).toNat = 2 ^ 32 - 1 := by decide
  show IntKind.i64.wrap ((BitVec.ofInt 64 x &&& BitVec.ofInt 64 4294967295).toNat : Int) = _
  rw [BitVec.toNat_and, h2, Nat.and_two_pow_sub_one_eq_mod, BitVec.toNat_ofInt, IntKind.wrap_i64]
  omega

set_option maxHeartbeats 1000000 in
theorem of_any (v : Int) (w : World) : Calls Tryz.prog 39 #[.int .i64 v] w fun r w' => r = .returned (wd v) ∧ Below w.heap.size w w' := by
  have a1 := and32 v
  go_enter Tryz.func39, Tryz.ntmps39
  go_wp2_with fail
  refine bodyPost_ret (v := wd v) (by simp [results, Tryz.results39, go_sem, wh, wl]) rfl ⟨rfl, ?_⟩
  exact (Below.refl _ _).alloc (Nat.le_refl _) _

set_option maxHeartbeats 1000000 in
theorem plus_w (z v : Int) (w : World) (hz : Bd z) (hv : I64 v) : Calls Tryz.prog 23 #[wd z, .int .i64 v] w fun r w' => r = .returned (wd (z + v)) ∧ Below w.heap.size w w' := by
  have a1 := and32 v
  have a2 := and32 (wl z + v % 4294967296)
  have w1 : wrap64 (wl z + v % 4294967296) = wl z + v % 4294967296 := wrapI (by unfold wl I64; omega)
  have w2 : wrap64 (wh z + v / 4294967296) = wh z + v / 4294967296 := wrapI (by unfold Bd at hz; unfold I64 at hv; unfold wh I64; omega)
  have w3 : wrap64 (wh z + v / 4294967296 + (wl z + v % 4294967296) / 4294967296) = wh (z + v) := by
    rw [wrapI (by unfold Bd at hz; unfold I64 at hv; unfold wh wl I64; omega)]
    unfold wh wl; omega
  have e4 : wl (z + v) = (wl z + v % 4294967296) % 4294967296 := by unfold wl; omega
  rw [← e4] at a2
  clear e4 hz hv
  go_enter Tryz.func23, Tryz.ntmps23
  go_wp2_with fail
  refine bodyPost_ret (v := wd (z + v)) (by simp [results, Tryz.results23, go_sem, w1, w2, w3]) rfl ⟨rfl, ?_⟩
  exact ((Below.refl _ _).alloc (Nat.le_refl _) _).alloc (by simp) _

theorem wide_lt (z v : Int) : decide (z < v) = (decide (wh z < wh v) || (decide (wh z = wh v) && decide (wl z < wl v))) := by
  unfold wh wl
  by_cases h1 : z / 4294967296 < v / 4294967296
  · have : z < v := by omega
    simp [h1, this]
  · by_cases h2 : z / 4294967296 = v / 4294967296
    · by_cases h3 : z % 4294967296 < v % 4294967296
      · have : z < v := by omega
        simp [h2, h3, this]
      · have : ¬ z < v := by omega
        simp [h2, h3, this]
    · have : ¬ z < v := by omega
      simp [h1, h2, this]

set_option maxHeartbeats 1000000 in
theorem below_raw (zh zl v vh vl : Int) (w : World) (K : ∀ w : World, Calls Tryz.prog 39 #[.int .i64 v] w fun r w' => r = .returned (.agg #[.int .i64 vh, .int .i64 vl]) ∧ Below w.heap.size w w') :
    Calls Tryz.prog 70 #[.agg #[.int .i64 zh, .int .i64 zl], .int .i64 v] w fun r w' => r = .returned (.bool (decide (zh < vh) || (decide (zh = vh) && decide (zl < vl)))) ∧ Below w.heap.size w w' := by
  by_cases h1 : zh < vh
  · have d1 : decide (zh < vh) = true := by simpa using h1
    rw [d1, Bool.true_or]
    go_enter Tryz.func70, Tryz.ntmps70
    go_wp2_with fail
    refine (K _).mono ?_
    rintro r w1 ⟨rfl, hb⟩
    obtain ⟨c0, c1, _, _, z0⟩ := keep1 hb
    have HB := hide (below1 hb)
    have hz : w.heap.size ≠ w1.heap.size := by omega
    clear hb K
    go_wp2_with fail
    go_ret
    exact ⟨rfl, HB.out.alloc HB.out.size _⟩
  · have d1 : decide (zh < vh) = false := by simpa using h1
    rw [d1, Bool.false_or]
    by_cases h2 : zh = vh
    · have d2 : decide (zh = vh) = true := by simpa using h2
      have d3 : (zh == vh) = true := by simpa using h2
      rw [d2, Bool.true_and]
      have H2 := hide h2
      clear h2
      go_enter Tryz.func70, Tryz.ntmps70
      go_wp2_with fail
      refine (K _).mono ?_
      rintro r w1 ⟨rfl, hb⟩
      obtain ⟨c0, c1, _, _, z0⟩ := keep1 hb
      have HB := hide (below1 hb)
      have hz : w.heap.size ≠ w1.heap.size := by omega
      clear hb K
      go_wp2_with fail
      go_ret
      exact ⟨rfl, HB.out.alloc HB.out.size _⟩
    · have d2 : decide (zh = vh) = false := by simpa using h2
      have d3 : (zh == vh) = false := by simpa using h2
      rw [d2, Bool.false_and]
      clear h2
      go_enter Tryz.func70, Tryz.ntmps70
      go_wp2_with fail
      refine (K _).mono ?_
      rintro r w1 ⟨rfl, hb⟩
      obtain ⟨c0, c1, _, _, z0⟩ := keep1 hb
      have HB := hide (below1 hb)
      have hz : w.heap.size ≠ w1.heap.size := by omega
      clear hb K
      go_wp2_with fail
      go_ret
      exact ⟨rfl, HB.out.alloc HB.out.size _⟩

theorem below_w (z v : Int) (w : World) : Calls Tryz.prog 70 #[wd z, .int .i64 v] w fun r w' => r = .returned (.bool (decide (z < v))) ∧ Below w.heap.size w w' := by
  rw [wide_lt z v]
  exact below_raw (wh z) (wl z) v (wh v) (wl v) w (of_any v)

set_option maxHeartbeats 1000000 in
theorem above_raw (zh zl v vh vl : Int) (w : World) (K : ∀ w : World, Calls Tryz.prog 39 #[.int .i64 v] w fun r w' => r = .returned (.agg #[.int .i64 vh, .int .i64 vl]) ∧ Below w.heap.size w w') :
    Calls Tryz.prog 71 #[.agg #[.int .i64 zh, .int .i64 zl], .int .i64 v] w fun r w' => r = .returned (.bool (decide (vh < zh) || (decide (vh = zh) && decide (vl < zl)))) ∧ Below w.heap.size w w' := by
  by_cases h1 : vh < zh
  · have d1 : decide (vh < zh) = true := by simpa using h1
    rw [d1, Bool.true_or]
    go_enter Tryz.func71, Tryz.ntmps71
    go_wp2_with fail
    refine (K _).mono ?_
    rintro r w1 ⟨rfl, hb⟩
    obtain ⟨c0, c1, _, _, z0⟩ := keep1 hb
    have HB := hide (below1 hb)
    have hz : w.heap.size ≠ w1.heap.size := by omega
    clear hb K
    go_wp2_with fail
    go_ret
    exact ⟨rfl, HB.out.alloc HB.out.size _⟩
  · have d1 : decide (vh < zh) = false := by simpa using h1
    rw [d1, Bool.false_or]
    by_cases h2 : vh = zh
    · have d2 : decide (vh = zh) = true := by simpa using h2
      have d3 : (zh == vh) = true := by simpa using h2.symm
      rw [d2, Bool.true_and]
      have H2 := hide h2
      clear h2
      go_enter Tryz.func71, Tryz.ntmps71
      go_wp2_with fail
      refine (K _).mono ?_
      rintro r w1 ⟨rfl, hb⟩
      obtain ⟨c0, c1, _, _, z0⟩ := keep1 hb
      have HB := hide (below1 hb)
      have hz : w.heap.size ≠ w1.heap.size := by omega
      clear hb K
      go_wp2_with fail
      go_ret
      exact ⟨rfl, HB.out.alloc HB.out.size _⟩
    · have d2 : decide (vh = zh) = false := by simpa using h2
      have d3 : (zh == vh) = false := by simpa using fun q => h2 q.symm
      rw [d2, Bool.false_and]
      clear h2
      go_enter Tryz.func71, Tryz.ntmps71
      go_wp2_with fail
      refine (K _).mono ?_
      rintro r w1 ⟨rfl, hb⟩
      obtain ⟨c0, c1, _, _, z0⟩ := keep1 hb
      have HB := hide (below1 hb)
      have hz : w.heap.size ≠ w1.heap.size := by omega
      clear hb K
      go_wp2_with fail
      go_ret
      exact ⟨rfl, HB.out.alloc HB.out.size _⟩

theorem above_w (z v : Int) (w : World) : Calls Tryz.prog 71 #[wd z, .int .i64 v] w fun r w' => r = .returned (.bool (decide (v < z))) ∧ Below w.heap.size w w' := by
  rw [wide_lt v z]
  exact above_raw (wh z) (wl z) v (wh v) (wl v) w (of_any v)

set_option maxHeartbeats 1000000 in
theorem fits_raw (zh zl : Int) (w : World) : Calls Tryz.prog 24 #[.agg #[.int .i64 zh, .int .i64 zl]] w fun r w' => r = .returned (.bool (decide (-2147483648 ≤ zh) && decide (zh < 2147483648))) ∧ Below w.heap.size w w' := by
  by_cases h1 : -2147483648 ≤ zh
  · have d1 : decide (-2147483648 ≤ zh) = true := by simpa using h1
    rw [d1, Bool.true_and]
    go_enter Tryz.func24, Tryz.ntmps24
    go_wp2_with fail
    go_ret
    exact ⟨rfl, (Below.refl _ _).alloc (Nat.le_refl _) _⟩
  · have d1 : decide (-2147483648 ≤ zh) = false := by simpa using h1
    rw [d1, Bool.false_and]
    go_enter Tryz.func24, Tryz.ntmps24
    go_wp2_with fail
    go_ret
    exact ⟨rfl, (Below.refl _ _).alloc (Nat.le_refl _) _⟩

theorem fits_w (z : Int) (w : World) : Calls Tryz.prog 24 #[wd z] w fun r w' => r = .returned (.bool (fitB z)) ∧ Below w.heap.size w w' := by
  have e : fitB z = (decide (-2147483648 ≤ wh z) && decide (wh z < 2147483648)) := by
    unfold fitB wh
    rw [Bool.eq_iff_iff]
    simp
    omega
  rw [e]
  exact fits_raw _ _ w
end Go.Proofs.YtaohdmaenplbpaaGreat
