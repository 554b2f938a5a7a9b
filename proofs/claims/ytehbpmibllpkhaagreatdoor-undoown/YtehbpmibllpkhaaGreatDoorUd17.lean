import Derived.Test.YtehbpmibllpkhaaGreatDoorUd9
import Derived.Test.YtehbpmibllpkhaaGreatDoorUd16
set_option linter.all false
namespace Go.Proofs.YtehbpmibllpkhaaGreatDoor
open Go.RowKit Go.QK Go.Maps Go.QM Go.QU
set_option maxRecDepth 100000
theorem assert_fault (a : Value) (w : World) : (Instr.typeAssert (.iface 90 a) 56 90 true).run Tryz.prog w = .ok (.tuple #[a, .bool true]) w := by
  unfold Instr.typeAssert
  simp [run_underlying Tryz.underlying90]
theorem assert_errno (a : Value) (w : World) : (Instr.typeAssert (.iface 25 a) 56 25 true).run Tryz.prog w = .ok (.tuple #[a, .bool true]) w := by
  unfold Instr.typeAssert
  simp [run_underlying Tryz.underlying25]
set_option maxHeartbeats 4000000 in
theorem is_run {w : World} {B : Nat} {v : Value} (h : ErrNew w B v runS 3) :
    Calls Tryz.prog 14 #[v, .int .i64 3] w fun e w' => e = .returned (.bool true) ∧ Below w.heap.size w w' := by
  obtain ⟨b, rfl, hb, hc⟩ := h
  have e0 := (hc.get 0 _ rfl).1
  have e1 := (hc.get 1 _ rfl).1
  have e2 := (hc.get 2 _ rfl).1
  have A1 := fun (a : Value) (w : World) => assert_fault a w
  have A2 := fun (a : Value) (w : World) => assert_errno a w
  have so : (runS == runS) = true := by decide
  have so2 : decide (runS = runS) = true := by decide
  clear hc
  go_enter Tryz.func14, Tryz.ntmps14
  go_wp2_with fail
  go_ret
  exact ⟨rfl, by first | exact Below.refl _ _ | simp⟩
abbrev adZ : RZ := ⟨0, 3, 1, 0, 0, 0, 1, 0, 5, 7, 0, 0, 0, 0, none, 0, 0, none, 0, 0, 0⟩
theorem left_one : leftE 1 [urOf adZ] = 0 ∧ leftL 1 [urOf adZ] = [(7, ⟨5, 0, 0, 1, 0⟩)] := by
  refine ⟨?_, ?_⟩ <;> rfl
theorem left_zero : leftE 0 [urOf adZ] = 130 ∧ leftL 0 [urOf adZ] = [] := by
  refine ⟨?_, ?_⟩ <;> rfl
theorem left_1 (w : World) (a : Option Addr) (c : Nat) (h : Lies w a (rzs [adZ])) : Calls Tryz.prog 7 #[.slice a 1 c, .int .i64 1] w fun e w' => ∃ v, e = .returned (.tuple #[v, .int .i64 0]) ∧ GRow w' w.heap.size 53 17 v 1 (rzs [undZ 1 (7, ⟨5, 0, 0, 1, 0⟩)]) ∧ Below w.heap.size w w' := by
  have q := left_any [adZ] a c 1 w h (by simp [I64]) (by simp [I64]) (by simp)
  have e1 : [adZ].map urOf = [urOf adZ] := rfl
  rw [e1, left_one.1, left_one.2] at q
  exact q
theorem left_0 (w : World) (a : Option Addr) (c : Nat) (h : Lies w a (rzs [adZ])) : Calls Tryz.prog 7 #[.slice a 1 c, .int .i64 0] w fun e w' => ∃ a2 c2, e = .returned (.tuple #[.slice a2 0 c2, .int .i64 130]) ∧ Below w.heap.size w w' := by
  have q := left_any [adZ] a c 0 w h (by simp [I64]) (by simp [I64]) (by simp)
  have e1 : [adZ].map urOf = [urOf adZ] := rfl
  rw [e1, left_zero.1, left_zero.2] at q
  refine q.mono (fun e w' z => ?_)
  obtain ⟨v, z1, z2, z3⟩ := z
  obtain ⟨a2, c2, rfl, -⟩ := GRow.lies z2
  exact ⟨a2, c2, z1, z3⟩
set_option maxHeartbeats 8000000 in
theorem first_true (w : World) : Calls Tryz.prog 5 #[] w fun e w' => e = .returned (.bool true) ∧ Below w.heap.size w w' := by
  have RN := hide (fun w => run_nil w)
  go_enter Tryz.func5, Tryz.ntmps5
  go_upto_region 2 with (first
    | (refine wpList_st (cs' := rzA adZ) (RBox.new _ _ _) rfl rfl rfl rfl rfl ?_; intro w1 rb1 k1; have RB1 := hide rb1; have B1 := hide (newBox k1); clear rb1 k1)
    | fail)
  have L1 := hide (lies_rz w1 adZ)
  have N1 := hide (alloc_below w1 (.cells (rzA adZ) 53))
  go_wp2_with (first
    | refine wpList_lb RB1.out rfl rfl ?_
    | refine wpList_b22 (r := adZ) rfl ?_
    | fail)
  refine (left_1 _ _ _ L1.out).mono ?_
  rintro e w2 ⟨v, rfl, g2, b2⟩
  obtain ⟨a2, c2, rfl, l2, hc2, -, h2, -⟩ := GRow.lies g2
  obtain ⟨b, off, rfl, hb, cc⟩ := rz_at (l := [undZ 1 (7, ⟨5, 0, 0, 1, 0⟩)]) l2 0 (by simp)
  have CC := hide cc
  have B2 := hide (N1.out.trans (b2.mono N1.out.size))
  have RB2 := hide (RB1.out.below B2.out)
  have HBL := hide hb
  clear g2 l2 hc2 h2 cc b2 hb
  have L2 := hide (lies_rz w2 adZ)
  have N2 := hide (alloc_below w2 (.cells (rzA adZ) 53))
  go_wp2_with (first
    | refine wpList_lb RB2.out rfl rfl ?_
    | refine wpList_b22 (r := adZ) rfl ?_
    | fail)
  refine (left_0 _ _ _ L2.out).mono ?_
  rintro e w3 ⟨a3, c3, rfl, b3⟩
  have B3 := hide (N2.out.trans (b3.mono N2.out.size))
  clear b3
  go_wp2_with fail
  refine (RN.out w3).mono ?_
  rintro e w4 ⟨v, rfl, ev, b4⟩
  have B4 := hide (B3.out.trans (b4.mono B3.out.size))
  have IR := hide (is_run ev)
  have K := hide (fun j u (hj : (rzA (undZ 1 (7, ⟨5, 0, 0, 1, 0⟩))).toList[j]? = some u) => (B4.out.cell (p := ⟨b, off + 0 * 17 + j, none⟩) HBL.out).trans (CC.out j u hj))
  have q1 := K.out 1 _ rfl
  have q6 := K.out 6 _ rfl
  have q8 := K.out 8 _ rfl
  have q9 := K.out 9 _ rfl
  simp only [Nat.zero_mul, Nat.add_zero] at q1 q6 q8 q9
  have B5 := hide (B1.out.trans ((B2.out.trans (B4.out.mono B2.out.size)).mono B1.out.size))
  clear ev b4
  go_wp2_with fail
  refine IR.out.mono ?_
  rintro e w5 ⟨rfl, b5⟩
  go_wp2_with fail
  go_ret
  exact ⟨rfl, B5.out.trans (b5.mono B5.out.size)⟩
end Go.Proofs.YtehbpmibllpkhaaGreatDoor
