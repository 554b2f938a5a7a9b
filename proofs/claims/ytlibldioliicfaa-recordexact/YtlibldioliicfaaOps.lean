import Derived.Test.YtlibldioliicfaaLit
import Derived.Test.YtlibldioliicfaaInv
namespace Go.Proofs.Ytlibldioliicfaa
open Go.RowKit Go.QK

/-! Operations one by one, whatever the frame: for regions that draw their order. -/
section
variable {o : Oper} {ev : Operand → Value} {x : World}

theorem run_index {s i : Operand} (ho : o.op = .indexAddr 22 s i) {p off n c k : Nat} (hs : ev s = .slice (some ⟨p, off, none⟩) n c) (hi : ev i = .int .i64 (k : Int)) (h : k < n) :
    (execOp ev o).run Try.prog x = .ok (.value (.pointer (some ⟨p, off + k, none⟩))) x := by
  have h' : (k : Int) < (n : Int) := by omega
  obtain ⟨d, op, ty, ps, af, gd⟩ := o
  subst ho
  go_simp
theorem run_load8 {s : Operand} (ho : o.op = .load 5 s) {p off : Nat} {y : Int} (hs : ev s = .pointer (some ⟨p, off, none⟩)) (hc : x.cell? ⟨p, off, none⟩ = some (.int .u8 y)) :
    (execOp ev o).run Try.prog x = .ok (.value (.int .u8 y)) x := by
  obtain ⟨d, op, ty, ps, af, gd⟩ := o
  subst ho
  go_simp
theorem run_xor8 {s t : Operand} {ty : TypeId} (ho : o.op = .binOp .xor 5 s t ty) {y z r : Int} (hs : ev s = .int .u8 y) (ht : ev t = .int .u8 z) (hr : bits .xor .u8 y z = r) :
    (execOp ev o).run Try.prog x = .ok (.value (.int .u8 r)) x := by
  obtain ⟨d, op, ty, ps, af, gd⟩ := o
  subst ho
  subst hr
  go_simp
theorem run_xor32 {s t : Operand} {ty : TypeId} (ho : o.op = .binOp .xor 41 s t ty) {y z r : Int} (hs : ev s = .int .u32 y) (ht : ev t = .int .u32 z) (hr : bits .xor .u32 y z = r) :
    (execOp ev o).run Try.prog x = .ok (.value (.int .u32 r)) x := by
  obtain ⟨d, op, ty, ps, af, gd⟩ := o
  subst ho
  subst hr
  go_simp
theorem run_neq32 {s t : Operand} {ty : TypeId} (ho : o.op = .binOp .neq 148 s t ty) {y z : Int} (hs : ev s = .int .u32 y) (ht : ev t = .int .u32 z) :
    (execOp ev o).run Try.prog x = .ok (.value (.bool (y != z))) x := by
  obtain ⟨d, op, ty, ps, af, gd⟩ := o
  subst ho
  go_simp
theorem run_lit1 {s : Operand} (ho : o.op = .buildSlice 22 1 #[(0, s)]) {y : Int} (hs : ev s = .int .u8 y) :
    (execOp ev o).run Try.prog x = .ok (.value (.slice (some ⟨x.heap.size, 0, none⟩) 1 1)) (x.alloc (.cells #[.int .u8 y] 5)) := by
  obtain ⟨d, op, ty, ps, af, gd⟩ := o
  subst ho
  go_simp
theorem run_to {s t : Operand} (ho : o.op = .slice 22 s none (some t) none) {a : Option Addr} {n c k : Nat} (hs : ev s = .slice a n c) (ht : ev t = .int .i64 (k : Int)) (h : k ≤ c) :
    (execOp ev o).run Try.prog x = .ok (.value (.slice a k c)) x := by
  obtain ⟨d, op, ty, ps, af, gd⟩ := o
  subst ho
  go_simp
theorem run_from {s t : Operand} (ho : o.op = .slice 22 s (some t) none none) {a : Option Addr} {n c k : Nat} (hs : ev s = .slice a n c) (ht : ev t = .int .i64 (k : Int)) (h : k ≤ n) (h2 : n ≤ c) :
    (execOp ev o).run Try.prog x = .ok (.value (.slice (dropA a c k) (n - k) (c - k))) x := by
  have sl := slice_from (P := Try.prog) (t := 22) (e := 5) Try.underlying22 (fun _ => by kernel_rfl) a n c k x h h2
  obtain ⟨d, op, ty, ps, af, gd⟩ := o
  subst ho
  go_simp
theorem run_add {s t : Operand} {ty : TypeId} (ho : o.op = .binOp .add 3 s t ty) {p q : Nat} (hs : ev s = .int .i64 (p : Int)) (ht : ev t = .int .i64 (q : Int)) (h : p + q ≤ 1000000) :
    (execOp ev o).run Try.prog x = .ok (.value (.int .i64 ((p + q : Nat) : Int))) x := by
  obtain ⟨d, op, ty, ps, af, gd⟩ := o
  subst ho
  go_simp
  rw [IntKind.wrap_i64]
  omega
theorem run_quo8 {s : Operand} {ty : TypeId} (ho : o.op = .binOp .quo 3 s (.const (.int .i64 8)) ty) (hk : ev (.const (.int .i64 8)) = .int .i64 8) {p : Nat} (hs : ev s = .int .i64 (p : Int)) (h : p ≤ 1000000) :
    (execOp ev o).run Try.prog x = .ok (.value (.int .i64 ((p / 8 : Nat) : Int))) x := by
  have e : (p : Int).tdiv 8 = ((p / 8 : Nat) : Int) := by rw [Int.tdiv_eq_ediv_of_nonneg (by omega)]; omega
  obtain ⟨d, op, ty, ps, af, gd⟩ := o
  subst ho
  go_simp
  rw [IntKind.wrap_i64]
  omega
theorem run_rem8 {s : Operand} {ty : TypeId} (ho : o.op = .binOp .rem 3 s (.const (.int .i64 8)) ty) (hk : ev (.const (.int .i64 8)) = .int .i64 8) {p : Nat} (hs : ev s = .int .i64 (p : Int)) (h : p ≤ 1000000) :
    (execOp ev o).run Try.prog x = .ok (.value (.int .i64 ((p % 8 : Nat) : Int))) x := by
  have e : (p : Int).tmod 8 = ((p % 8 : Nat) : Int) := by rw [Int.tmod_eq_emod_of_nonneg (by omega)]; omega
  obtain ⟨d, op, ty, ps, af, gd⟩ := o
  subst ho
  go_simp
theorem run_shl1 {s : Operand} {ty : TypeId} (ho : o.op = .binOp .shl 5 (.const (.int .u8 1)) s ty) (hk : ev (.const (.int .u8 1)) = .int .u8 1) {p : Nat} (hs : ev s = .int .i64 (p : Int)) (h : p < 8) :
    (execOp ev o).run Try.prog x = .ok (.value (.int .u8 ((2 ^ p : Nat) : Int))) x := by
  have hc : p = 0 ∨ p = 1 ∨ p = 2 ∨ p = 3 ∨ p = 4 ∨ p = 5 ∨ p = 6 ∨ p = 7 := by omega
  obtain ⟨d, op, ty, ps, af, gd⟩ := o
  subst ho
  rcases hc with rfl | rfl | rfl | rfl | rfl | rfl | rfl | rfl <;> go_simp <;> rfl
theorem run_store8 {s t : Operand} (ho : o.op = .store 5 s t) {p off : Nat} {y z : Int} (hs : ev s = .pointer (some ⟨p, off, none⟩)) (ht : ev t = .int .u8 z) (hc : x.cell? ⟨p, off, none⟩ = some (.int .u8 y)) (hf : x.frozen? ⟨p, off, none⟩ = false) :
    (execOp ev o).run Try.prog x = .ok .skip (x.setCell ⟨p, off, none⟩ (.int .u8 z)) := by
  obtain ⟨d, op, ty, ps, af, gd⟩ := o
  subst ho
  go_simp
end

/-- It leaves no value, and this world. -/
theorem step_skip {ops : Array Oper} {Q : Exit → Act → World → Prop} {md : Region.Mode} {G : World → Prop} {U : Nat → World → Prop} {R : Nat → Value → World → Prop} {i : Nat} {o : Oper} {a : Act} {w w' : World} (ho : ops[i]? = some o) (hg : o.guard = none)
    (hrun : (execOp a.eval o).run Try.prog w = .ok .skip w') (h1 : G w') (h2 : R i undef w') (h3 : ∀ j u, j ≠ i → waits md ops j i = false → R j u w → R j u w') (h4 : ∀ j, j ≠ i → waits md ops i j = false → U j w → U j w') :
    wpOp Try.prog ops Q i (fun a' w' => ∃ v, a' = a.put ((ops[i]?).bind (·.dst)) v ∧ G w' ∧ R i v w' ∧ (∀ j u, j ≠ i → waits md ops j i = false → R j u w → R j u w') ∧ ∀ j, j ≠ i → waits md ops i j = false → U j w → U j w') a w := by
  refine step_open ho hg ?_
  unfold Oper.wp
  rw [hrun]
  exact ⟨undef, by rw [ho]; rfl, h1, h2, h3, h4⟩
end Go.Proofs.Ytlibldioliicfaa
