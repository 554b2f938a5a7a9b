import Derived.Test.YtehbpmibllpkhaaGreatDoorUdO
import Derived.Test.YtehbpmibllpkhaaGreatDoorUdT7
set_option linter.all false
namespace Go.Proofs.YtehbpmibllpkhaaGreatDoor
open Go.ChangeShapes Go.WideShapes Go.ChangeAt Go.RowKit Go.Deep Go.QK Go.Joins Go.QM Go.QU
set_option maxRecDepth 100000
theorem cells102 : Tryz.prog.cellsOf 102 = 4 := by kernel_rfl
theorem cells37 : Tryz.prog.cellsOf 37 = 5 := by kernel_rfl
theorem cells33 : Tryz.prog.cellsOf 33 = 3 := by kernel_rfl
theorem cells34 : Tryz.prog.cellsOf 34 = 1 := by kernel_rfl
theorem cells35 : Tryz.prog.cellsOf 35 = 1 := by kernel_rfl
section
variable {H : Type} {enc : TypeId × Value → H} {W : World}
theorem open_deed {fuel : Nat} {cs : List Value} {x : DataW H × List MemPlace} (h : DataW.trod enc Tryz.prog W 0 (fun _ => true) true fuel 102 cs = some x) :
    ∃ y : Dd, cs = dC y ∧ (I64 y.1 ∧ I64 y.2.1 ∧ I64 y.2.2.1 ∧ I64 y.2.2.2) := by
  obtain ⟨ys, n, _, rfl, hl, hlen, hf⟩ := DataW.trod_struct Tryz.underlying102 h
  rw [cells102] at hl
  obtain ⟨c0, c1, c2, c3, rfl⟩ := lst4 hl
  obtain ⟨y0, y1, y2, y3, rfl⟩ := lst4 (show ys.length = 4 by simpa using hlen)
  have f0 := hf 0 _ rfl
  have f1 := hf 1 _ rfl
  have f2 := hf 2 _ rfl
  have f3 := hf 3 _ rfl
  simp [cells3, cells2] at f0 f1 f2 f3
  obtain ⟨q0, e0, _, w0⟩ := DataW.trod_int Tryz.underlying3 f0
  obtain ⟨q1, e1, _, w1⟩ := DataW.trod_int Tryz.underlying3 f1
  obtain ⟨q2, e2, _, w2⟩ := DataW.trod_int Tryz.underlying3 f2
  obtain ⟨q3, e3, _, w3⟩ := DataW.trod_int Tryz.underlying2 f3
  simp at e0 e1 e2 e3
  subst e0 e1 e2 e3
  exact ⟨(q0, q1, q2, q3), rfl, i64_wf w0, i64_wf w1, i64_wf w2, i64_wf w3⟩
theorem open_num {fuel : Nat} {cs : List Value} {x : DataW H × List MemPlace} (h : DataW.trod enc Tryz.prog W 0 (fun _ => true) true fuel 3 cs = some x) : ∃ z : Int, cs = [.int .i64 z] ∧ I64 z := by
  obtain ⟨q, e, _, w⟩ := DataW.trod_int Tryz.underlying3 h
  exact ⟨q, e, i64_wf w⟩
theorem open_ints {fuel : Nat} {v : Value} {x : DataW H × List MemPlace} (hf : DataW.trod enc Tryz.prog W 0 (fun _ => true) true fuel 35 [v] = some x) :
    ∃ (a : Option Addr) (zs : List Int) (c : Nat), v = .slice a zs.length c ∧ Lies W a (intsV zs) ∧ (∀ z ∈ zs, I64 z) := by
  obtain ⟨a, zs, c, h1, h2, h3, hq⟩ := open_rowsN (fun z : Int => [Value.int .i64 z]) (fun z => I64 z) Tryz.underlying35 cells3 (by decide) (fun _ => rfl) (fun h => open_num h) hf
  refine ⟨a, zs, c, h1, ?_, h3⟩
  have e : rowsC (fun z : Int => [Value.int .i64 z]) zs = intsV zs := by
    clear h1 h2 h3 hq
    induction zs with
    | nil => rfl
    | cons d ds ih => simp only [rowsC, List.flatMap_cons, intsV, List.map_cons] at *; rw [ih]; rfl
  rw [e] at h2
  exact h2
theorem open_life {fuel : Nat} {cs : List Value} {x : DataW H × List MemPlace} (h : DataW.trod enc Tryz.prog W 0 (fun _ => true) true fuel 37 cs = some x) :
    ∃ (p l f : Int) (a : Option Addr) (ds : List Dd) (c : Nat) (a2 : Option Addr) (n2 c2 : Nat), cs = [.int .i64 p, .int .i64 l, .int .i64 f, .slice a ds.length c, .slice a2 n2 c2] ∧ I64 p ∧ I64 l ∧ I64 f ∧ Lies W a (rowsC dC ds) ∧ (∀ d ∈ ds, I64 d.1 ∧ I64 d.2.1 ∧ I64 d.2.2.1 ∧ I64 d.2.2.2) ∧ ds.length ≤ maxLen := by
  obtain ⟨ys, n, _, rfl, hl, hlen, hf⟩ := DataW.trod_struct Tryz.underlying37 h
  rw [cells37] at hl
  obtain ⟨c0, c1, c2, c3, c4, rfl⟩ := lst5 hl
  obtain ⟨y0, y1, y2, rfl⟩ := lst3 (show ys.length = 3 by simpa using hlen)
  have f0 := hf 0 _ rfl
  have f1 := hf 1 _ rfl
  have f2 := hf 2 _ rfl
  simp [cells33, cells34, cells35] at f0 f1 f2
  obtain ⟨zs, m, _, _, hl1, hlen1, hf1⟩ := DataW.trod_struct Tryz.underlying33 f0
  obtain ⟨z0, z1, z2, rfl⟩ := lst3 (show zs.length = 3 by simpa using hlen1)
  have g0 := hf1 0 _ rfl
  have g1 := hf1 1 _ rfl
  have g2 := hf1 2 _ rfl
  simp [cells3] at g0 g1 g2
  obtain ⟨q0, e0, _, w0⟩ := DataW.trod_int Tryz.underlying3 g0
  obtain ⟨q1, e1, _, w1⟩ := DataW.trod_int Tryz.underlying3 g1
  obtain ⟨q2, e2, _, w2⟩ := DataW.trod_int Tryz.underlying3 g2
  simp at e0 e1 e2
  subst e0 e1 e2
  obtain ⟨a, ds, c, h1, h2, h3, h4, _⟩ := open_rowsN dC (fun d => I64 d.1 ∧ I64 d.2.1 ∧ I64 d.2.2.1 ∧ I64 d.2.2.2) Tryz.underlying34 cells102 (by decide) (fun _ => rfl) (fun h => open_deed h) f1
  obtain ⟨a2, n2, cc2, e3⟩ := open_any Tryz.underlying35 f2
  subst h1 e3
  exact ⟨q0, q1, q2, a, ds, c, a2, n2, cc2, rfl, i64_wf w0, i64_wf w1, i64_wf w2, h2, h3, h4⟩
end
end Go.Proofs.YtehbpmibllpkhaaGreatDoor
