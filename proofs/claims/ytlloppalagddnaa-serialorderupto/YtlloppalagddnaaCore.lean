import Derived.Test.YtlloppalagddnaaProg
import Derived.Test.YtlloppalagddnaaMath
import Derived.WalkKit
import Derived.WalkSpells
import Derived.WalkLawsBesides
import Derived.Laws.Externs
import Derived.Deep.RegionWith
namespace Go.Proofs.Ytlloppalagddnaa
open Go.RowKit Quota

theorem bcell {W w1 : World} (hb : Below W.heap.size W w1) : (∀ b o, b < W.heap.size → w1.cell? ⟨b, o, none⟩ = W.cell? ⟨b, o, none⟩) ∧ (∀ b o, b < W.heap.size → w1.frozen? ⟨b, o, none⟩ = W.frozen? ⟨b, o, none⟩) :=
  ⟨fun b o h => hb.cell (p := ⟨b, o, none⟩) h, fun b o h => hb.frozen (p := ⟨b, o, none⟩) h⟩

/-- A number of 128 bits as the program lays it. -/
abbrev wide (z : Int) : Value := .agg #[.int .u64 (hiOf z), .int .u64 (loOf z)]

theorem add64_run (x y c : Int) (hx : 0 ≤ x) (hy : 0 ≤ y) (hc0 : 0 ≤ c) (hc : c ≤ 1) (w : World) :
    (callFunc 73 #[.int .u64 x, .int .u64 y, .int .u64 c]).run Try.prog w =
      .ok (.value (.tuple #[.int .u64 (loOf (x + y + c)), .int .u64 (upOf (x + y + c))])) w := by
  rw [run_callFunc_extern Try.func73 (by kernel_rfl) (by kernel_rfl) (by kernel_rfl) (e := add64Entry) (by kernel_rfl), run_add64 x y c hx hy hc0 hc]
  rfl

/-- The model's own entry for math/bits.Sub64, by its place in the model's list. -/
theorem wrapu (n : Int) : IntKind.u64.wrap n = loOf n := by rw [IntKind.wrap_u64]; rfl

set_option maxHeartbeats 400000 in
theorem widen_any (n : Int) (w : World) (h : I64 n) :
    Calls Try.prog 66 #[.int .i64 n] w fun e w' => e = .returned (wide n) ∧ Below w.heap.size w w' := by
  have e1 : IntKind.u64.wrap (n / 9223372036854775808) = hiOf n := by rw [IntKind.wrap_u64]; exact widen_hi n h
  have E1 : Hid (IntKind.u64.wrap (n / 9223372036854775808) = hiOf n) := e1
  clear e1
  go_enter Try.func66, Try.ntmps66
  go_wp2
  rw [E1.out, wrapu]
  exact bodyPost_ret (v := wide n) (by simp [results, Try.results66, go_sem, wide]) rfl ⟨rfl, (Below.refl _ _).alloc (Nat.le_refl _) _⟩


theorem keep2 {w w1 : World} {a b c d : Value} {t u : TypeId} (hb : Below ((w.alloc (.cells #[a, b] t)).alloc (.cells #[c, d] u)).heap.size ((w.alloc (.cells #[a, b] t)).alloc (.cells #[c, d] u)) w1) :
    w1.cell? ⟨w.heap.size, 0, none⟩ = some a ∧ w1.cell? ⟨w.heap.size, 1, none⟩ = some b ∧ w1.cell? ⟨w.heap.size + 1, 0, none⟩ = some c ∧ w1.cell? ⟨w.heap.size + 1, 1, none⟩ = some d ∧
    w1.frozen? ⟨w.heap.size + 1, 0, none⟩ = false ∧ w1.frozen? ⟨w.heap.size + 1, 1, none⟩ = false ∧ w.heap.size < w1.heap.size ∧ w.heap.size + 1 < w1.heap.size := by
  have hz := hb.size
  simp at hz
  refine ⟨?_, ?_, ?_, ?_, ?_, ?_, by omega, by omega⟩
  · exact (hb.cell (p := ⟨w.heap.size, 0, none⟩) (by simp; omega)).trans (by simp [go_sem])
  · exact (hb.cell (p := ⟨w.heap.size, 1, none⟩) (by simp; omega)).trans (by simp [go_sem])
  · exact (hb.cell (p := ⟨w.heap.size + 1, 0, none⟩) (by simp)).trans (by simp [go_sem])
  · exact (hb.cell (p := ⟨w.heap.size + 1, 1, none⟩) (by simp)).trans (by simp [go_sem])
  · exact (hb.frozen (p := ⟨w.heap.size + 1, 0, none⟩) (by simp)).trans (by simp [go_sem])
  · exact (hb.frozen (p := ⟨w.heap.size + 1, 1, none⟩) (by simp)).trans (by simp [go_sem])

theorem below1 {w w1 : World} {o : Obj} (hb : Below (w.alloc o).heap.size (w.alloc o) w1) : Below w.heap.size w w1 :=
  ((Below.refl _ _).alloc (Nat.le_refl _) _).trans (hb.mono (by simp))
theorem below2 {w w1 : World} {o p : Obj} (hb : Below ((w.alloc o).alloc p).heap.size ((w.alloc o).alloc p) w1) : Below w.heap.size w w1 := below1 (below1 hb)

set_option maxHeartbeats 400000 in
theorem plus_any (z n : Int) (w : World) (h : I64 n) :
    Calls Try.prog 67 #[wide z, .int .i64 n] w fun e w' => e = .returned (wide (z + n)) ∧ Below w.heap.size w w' := by
  have z1 := lo_bd z
  have z2 := hi_bd z
  have n1 := lo_bd n
  have n2 := hi_bd n
  have u1 := up_bd z n
  have r1 := add64_run (loOf z) (loOf n) 0 (by omega) (by omega) (by omega) (by omega)
  have r2 := add64_run (hiOf z) (hiOf n) (upOf (loOf z + loOf n)) (by omega) (by omega) (by omega) (by omega)
  rw [Int.add_zero, plus_lo] at r1
  rw [plus_hi] at r2
  clear z1 z2 n1 n2 u1
  go_enter Try.func67, Try.ntmps67
  go_wp2_with (go_at_call 66; refine (widen_any n _ h).mono ?_; rintro e w1 ⟨rfl, hb⟩; have HB : Hid _ := hb; obtain ⟨c0, c1, c2, c3, f0, f1, hz0, hz1⟩ := keep2 hb; clear hb)
  refine bodyPost_ret (v := wide (z + n)) ?_ rfl ⟨rfl, ?_⟩
  · simp [results, Try.results67, go_sem, c2, c3, hz1]
  · exact ((((below2 HB.out).setCell (Nat.le_succ _) _).setCell (Nat.le_succ _) _).alloc (by simp; omega) _)

theorem wrapi (z : Int) : wrap64 (loOf z) = sgOf z := by
  unfold wrap64 loOf sgOf loOf; split <;> omega

theorem below_undrew {B : Nat} {w w1 : World} (h : Below B w.drew w1) : Below B w w1 := ⟨h.os, h.tape, h.output, h.size, h.block⟩

theorem keep1 {w w1 : World} {a b : Value} {t : TypeId} (hb : Below (w.alloc (.cells #[a, b] t)).heap.size (w.alloc (.cells #[a, b] t)) w1) :
    w1.cell? ⟨w.heap.size, 0, none⟩ = some a ∧ w1.cell? ⟨w.heap.size, 1, none⟩ = some b ∧
    w1.frozen? ⟨w.heap.size, 0, none⟩ = false ∧ w1.frozen? ⟨w.heap.size, 1, none⟩ = false ∧ w.heap.size < w1.heap.size := by
  have hz := hb.size
  simp at hz
  refine ⟨?_, ?_, ?_, ?_, by omega⟩
  · exact (hb.cell (p := ⟨w.heap.size, 0, none⟩) (by simp)).trans (by simp [go_sem])
  · exact (hb.cell (p := ⟨w.heap.size, 1, none⟩) (by simp)).trans (by simp [go_sem])
  · exact (hb.frozen (p := ⟨w.heap.size, 0, none⟩) (by simp)).trans (by simp [go_sem])
  · exact (hb.frozen (p := ⟨w.heap.size, 1, none⟩) (by simp)).trans (by simp [go_sem])

set_option maxHeartbeats 400000 in
theorem narrow_yes (z : Int) (w : World) (h : I64 z) :
    Calls Try.prog 68 #[wide z] w fun e w' => e = .returned (.tuple #[.int .i64 z, .int .i64 0]) ∧ Below w.heap.size w w' := by
  have s1 : wrap64 (loOf z) = z := by rw [wrapi]; exact (sg_yes z h).1
  go_enter Try.func68, Try.ntmps68
  go_wp2_with fail
  go_region_with (go_at_call 66; refine (widen_any z _ h).mono ?_; rintro e w1 ⟨rfl, hb⟩; have HB : Hid _ := below_undrew hb; obtain ⟨c0, c1, f0, f1, hz0⟩ := keep1 (below_undrew hb); clear hb)
  all_goals
    go_wp2
    go_ret2
    exact ⟨rfl, (below1 HB.out)⟩

set_option maxHeartbeats 400000 in
theorem narrow_no (z : Int) (w : World) (h : ¬ I64 z) (k : I128 z) :
    Calls Try.prog 68 #[wide z] w fun e w' => e = .returned (.tuple #[.int .i64 0, .int .i64 10]) ∧ Below w.heap.size w w' := by
  have s1 : wrap64 (loOf z) = sgOf z := wrapi z
  have s2 : (hiOf (sgOf z) == hiOf z) = false := by simpa using sg_no z h k
  have s3 : (hiOf z == hiOf (sgOf z)) = false := by simpa using fun e => sg_no z h k e.symm
  go_enter Try.func68, Try.ntmps68
  go_wp2_with fail
  go_region_with (go_at_call 66; refine (widen_any (sgOf z) _ (sg_bd z)).mono ?_; rintro e w1 ⟨rfl, hb⟩; have HB : Hid _ := below_undrew hb; obtain ⟨c0, c1, f0, f1, hz0⟩ := keep1 (below_undrew hb); clear hb)
  all_goals
    go_wp2
    go_ret2
    exact ⟨rfl, (below1 HB.out)⟩

theorem narrow_any (z : Int) (w : World) (k : I128 z) :
    Calls Try.prog 68 #[wide z] w fun e w' => e = .returned (.tuple #[.int .i64 (fitV z), .int .i64 (fitE z)]) ∧ Below w.heap.size w w' := by
  by_cases h : I64 z
  · have e := fitB_true.2 h
    rw [show fitV z = z by simp [fitV, e], show fitE z = 0 by simp [fitE, e]]
    exact narrow_yes z w h
  · have e := fitB_false.2 h
    rw [show fitV z = 0 by simp [fitV, e], show fitE z = 10 by simp [fitE, e]]
    exact narrow_no z w h k
end Go.Proofs.Ytlloppalagddnaa
