import Derived.Test.YtfoknkhbcnbdhaaBoth
import Derived.Test.YtfoknkhbcnbdhaaTake
namespace Go.Proofs.Ytfoknkhbcnbdhaa
open Go.RowKit Quota

/-- Block b holds a call of a script. -/
def Row8 (w : World) (b : Nat) (x0 x1 x2 x3 x4 x5 x6 x7 : Value) : Prop :=
  b < w.heap.size ∧ w.cell? ⟨b, 0, none⟩ = some x0 ∧ w.cell? ⟨b, 1, none⟩ = some x1 ∧ w.cell? ⟨b, 2, none⟩ = some x2 ∧ w.cell? ⟨b, 3, none⟩ = some x3 ∧ w.cell? ⟨b, 4, none⟩ = some x4 ∧ w.cell? ⟨b, 5, none⟩ = some x5 ∧ w.cell? ⟨b, 6, none⟩ = some x6 ∧ w.cell? ⟨b, 7, none⟩ = some x7

theorem Row8.under {w w' : World} {B b : Nat} {x0 x1 x2 x3 x4 x5 x6 x7 : Value} (h : Row8 w b x0 x1 x2 x3 x4 x5 x6 x7) (hlt : b < B) (hb : Below B w w') : Row8 w' b x0 x1 x2 x3 x4 x5 x6 x7 := by
  obtain ⟨z, h0, h1, h2, h3, h4, h5, h6, h7⟩ := h
  exact ⟨Nat.lt_of_lt_of_le z hb.size, (hb.cell (p := ⟨b, 0, none⟩) hlt).trans h0, (hb.cell (p := ⟨b, 1, none⟩) hlt).trans h1, (hb.cell (p := ⟨b, 2, none⟩) hlt).trans h2, (hb.cell (p := ⟨b, 3, none⟩) hlt).trans h3,
    (hb.cell (p := ⟨b, 4, none⟩) hlt).trans h4, (hb.cell (p := ⟨b, 5, none⟩) hlt).trans h5, (hb.cell (p := ⟨b, 6, none⟩) hlt).trans h6, (hb.cell (p := ⟨b, 7, none⟩) hlt).trans h7⟩
theorem Row8.below {w w' : World} {b : Nat} {x0 x1 x2 x3 x4 x5 x6 x7 : Value} (h : Row8 w b x0 x1 x2 x3 x4 x5 x6 x7) (hb : Below w.heap.size w w') : Row8 w' b x0 x1 x2 x3 x4 x5 x6 x7 := h.under h.1 hb
theorem Row8.new (w : World) (x0 x1 x2 x3 x4 x5 x6 x7 : Value) (t : TypeId) : Row8 (w.alloc (.cells #[x0, x1, x2, x3, x4, x5, x6, x7] t)) w.heap.size x0 x1 x2 x3 x4 x5 x6 x7 := by
  refine ⟨by simp, ?_, ?_, ?_, ?_, ?_, ?_, ?_, ?_⟩ <;> simp [go_sem]

set_option maxHeartbeats 1000000 in
set_option maxRecDepth 100000 in
theorem plays_1 (a b : Int) (al : Option Addr) (n c : Nat) (r0 r1 s0 s1 : Int) (w : World) (ha : I64 a) (hb : I64 b) :
    Calls Try.prog 22 #[.agg (opC 1 a b al n c r0 r1 s0 s1)] w fun e w' => e = .returned (.bool true) ∧ Below w.heap.size w w' := by
  have R0 := Row8.new w (.int .i64 1) (.int .i64 a) (.int .i64 b) (.slice al n c) (.int .i64 r0) (.int .i64 r1) (.int .i64 s0) (.int .i64 s1) 48
  have HR0 : Hid _ := R0
  clear R0
  go_enter Try.func22, Try.ntmps22
  go_wp2_with fail
  refine (add_any a b _ ha hb).mono ?_
  rintro e w1 ⟨rfl, h1⟩
  have R1 := Row8.below HR0.out h1
  have g1 := below1 h1
  clear h1 HR0
  obtain ⟨z, q0, q1, q2, q3, q4, q5, q6, q7⟩ := R1
  go_wp2_with fail
  refine (radd_any a b _ ha hb).mono ?_
  rintro e w' ⟨rfl, rfl⟩
  go_wp2_with (go_at_call 10; refine (num_any _ _).mono ?_; rintro e w' ⟨rfl, rfl⟩)
  go_ret
  exact ⟨rfl, g1⟩

set_option maxHeartbeats 1000000 in
set_option maxRecDepth 100000 in
theorem plays_2 (a b : Int) (al : Option Addr) (n c : Nat) (r0 r1 s0 s1 : Int) (w : World) (ha : I64 a) (hb : I64 b) :
    Calls Try.prog 22 #[.agg (opC 2 a b al n c r0 r1 s0 s1)] w fun e w' => e = .returned (.bool true) ∧ Below w.heap.size w w' := by
  have R0 := Row8.new w (.int .i64 2) (.int .i64 a) (.int .i64 b) (.slice al n c) (.int .i64 r0) (.int .i64 r1) (.int .i64 s0) (.int .i64 s1) 48
  have HR0 : Hid _ := R0
  clear R0
  go_enter Try.func22, Try.ntmps22
  go_wp2_with fail
  refine (sub_any a b _ ha hb).mono ?_
  rintro e w1 ⟨rfl, h1⟩
  have R1 := Row8.below HR0.out h1
  have g1 := below1 h1
  clear h1 HR0
  obtain ⟨z, q0, q1, q2, q3, q4, q5, q6, q7⟩ := R1
  go_wp2_with fail
  refine (rsub_any a b _ ha hb).mono ?_
  rintro e w' ⟨rfl, rfl⟩
  go_wp2_with (go_at_call 10; refine (num_any _ _).mono ?_; rintro e w' ⟨rfl, rfl⟩)
  go_ret
  exact ⟨rfl, g1⟩

set_option maxHeartbeats 1000000 in
set_option maxRecDepth 100000 in
theorem plays_3 (a b : Int) (al : Option Addr) (n c : Nat) (r0 r1 s0 s1 : Int) (w : World) (ha : I64 a) :
    Calls Try.prog 22 #[.agg (opC 3 a b al n c r0 r1 s0 s1)] w fun e w' => e = .returned (.bool true) ∧ Below w.heap.size w w' := by
  have R0 := Row8.new w (.int .i64 3) (.int .i64 a) (.int .i64 b) (.slice al n c) (.int .i64 r0) (.int .i64 r1) (.int .i64 s0) (.int .i64 s1) 48
  have HR0 : Hid _ := R0
  clear R0
  go_enter Try.func22, Try.ntmps22
  go_wp2_with fail
  refine (neg_any a _ ha).mono ?_
  rintro e w1 ⟨rfl, h1⟩
  have R1 := Row8.below HR0.out h1
  have g1 := below1 h1
  clear h1 HR0
  obtain ⟨z, q0, q1, q2, q3, q4, q5, q6, q7⟩ := R1
  go_wp2_with fail
  refine (rneg_any a _ ha).mono ?_
  rintro e w' ⟨rfl, rfl⟩
  go_wp2_with (go_at_call 10; refine (num_any _ _).mono ?_; rintro e w' ⟨rfl, rfl⟩)
  go_ret
  exact ⟨rfl, g1⟩

set_option maxHeartbeats 1000000 in
set_option maxRecDepth 100000 in
theorem plays_none (k a b : Int) (al : Option Addr) (n c : Nat) (r0 r1 s0 s1 : Int) (w : World) (hk : k < 1 ∨ 8 < k) :
    Calls Try.prog 22 #[.agg (opC k a b al n c r0 r1 s0 s1)] w fun e w' => e = .returned (.bool true) ∧ Below w.heap.size w w' := by
  have k1 : (k == 1) = false := by simp; omega
  have k2 : (k == 2) = false := by simp; omega
  have k3 : (k == 3) = false := by simp; omega
  have k4 : (k == 4) = false := by simp; omega
  have k5 : (k == 5) = false := by simp; omega
  have k6 : (k == 6) = false := by simp; omega
  have k7 : (k == 7) = false := by simp; omega
  have k8 : (k == 8) = false := by simp; omega
  clear hk
  go_enter Try.func22, Try.ntmps22
  go_wp2_with fail
  go_ret
  exact ⟨rfl, (Below.refl _ _).alloc (Nat.le_refl _) _⟩
end Go.Proofs.Ytfoknkhbcnbdhaa
