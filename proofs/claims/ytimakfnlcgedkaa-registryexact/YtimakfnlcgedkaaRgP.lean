import Derived.Test.YtimakfnlcgedkaaRgO
import Derived.Test.YtimakfnlcgedkaaRg29
namespace Go.Proofs.Ytimakfnlcgedkaa
open Go.ChangeShapes Go.WideShapes Go.ChangeAt Go.RowKit Go.Deep Go.QK Go.Joins Go.QR
set_option maxRecDepth 100000
variable {H : Type} {enc : TypeId × Value → H} {W : World}
theorem cells64 : Try.prog.cellsOf 64 = 9 := by kernel_rfl
theorem cells4 : Try.prog.cellsOf 4 = 1 := by kernel_rfl
theorem open_slotC {fuel : Nat} {cs : List Value} {x : DataW H × List MemPlace} (h : DataW.trod enc Try.prog W 0 (fun _ => true) true fuel 30 cs = some x) : ∃ d : Int × Int, cs = c2 d := by
  obtain ⟨ys, n, _, rfl, hl, hlen, hf⟩ := DataW.trod_struct Try.underlying30 h
  rw [cells30] at hl
  obtain ⟨c0, c1, rfl⟩ : ∃ a b, cs = [a, b] := by
    match cs, hl with
    | [a, b], _ => exact ⟨a, b, rfl⟩
  have hlen' : ys.length = 2 := by simpa using hlen
  have f0 := hf 0 _ rfl
  have f1 := hf 1 _ rfl
  simp [cells3, hlen'] at f0 f1
  obtain ⟨a, e0, _, wa⟩ := DataW.trod_int Try.underlying3 f0
  obtain ⟨b, e1, _, wb⟩ := DataW.trod_int Try.underlying3 f1
  simp at e0 e1
  subst e0 e1
  exact ⟨(a, b), rfl⟩
theorem open_op {fuel : Nat} {cs : List Value} {x : DataW H × List MemPlace} (h : DataW.trod enc Try.prog W 0 (fun _ => true) true fuel 64 cs = some x) : ∃ o : OpM, cs = opL o ∧ I64 o.cn ∧ I64 o.gn := by
  obtain ⟨ys, n, _, rfl, hl, hlen, hf⟩ := DataW.trod_struct Try.underlying64 h
  rw [cells64] at hl
  obtain ⟨c0, c1, c2', c3, c4, c5, c6, c7, c8, rfl⟩ : ∃ a b c d e f g h i, cs = [a, b, c, d, e, f, g, h, i] := by
    match cs, hl with
    | [a, b, c, d, e, f, g, h, i], _ => exact ⟨a, b, c, d, e, f, g, h, i, rfl⟩
  have hlen' : ys.length = 7 := by simpa using hlen
  have f0 := hf 0 _ rfl
  have f1 := hf 1 _ rfl
  have f2 := hf 2 _ rfl
  have f3 := hf 3 _ rfl
  have f4 := hf 4 _ rfl
  have f5 := hf 5 _ rfl
  have f6 := hf 6 _ rfl
  simp [cells3, cells4, cells30, hlen'] at f0 f1 f2 f3 f4 f5 f6
  obtain ⟨a0, e0, _, w0⟩ := DataW.trod_int Try.underlying3 f0
  obtain ⟨a1, e1, _⟩ := DataW.trod_bool Try.underlying4 f1
  obtain ⟨a2, e2, _, w2⟩ := DataW.trod_int Try.underlying3 f2
  obtain ⟨a3, e3, _, w3⟩ := DataW.trod_int Try.underlying3 f3
  obtain ⟨s4, e4⟩ := open_slotC f4
  obtain ⟨s5, e5⟩ := open_slotC f5
  obtain ⟨a6, e6, _, w6⟩ := DataW.trod_int Try.underlying3 f6
  simp at e0 e1 e2 e3 e4 e5 e6
  obtain ⟨e4, e4'⟩ := e4
  obtain ⟨e5, e5'⟩ := e5
  subst e0 e1 e2 e3 e4 e4' e5 e5' e6
  exact ⟨⟨a0, a1, a2, a3, s4, s5, a6⟩, rfl, i64_wf w2, i64_wf w3⟩
theorem open_ops {fuel : Nat} {v : Value} {x : DataW H × List MemPlace} (hf : DataW.trod enc Try.prog W 0 (fun _ => true) true fuel 52 [v] = some x) :
    ∃ (a : Option Addr) (ds : List OpM) (c : Nat), v = .slice a ds.length c ∧ Lies W a (rowsC opL ds) ∧ (∀ d ∈ ds, I64 d.cn ∧ I64 d.gn) ∧ ds.length ≤ 9223372036854775807 := by
  obtain ⟨a, ds, c, h1, h2, h3, h4⟩ := open_rows opL (fun d => I64 d.cn ∧ I64 d.gn) Try.underlying52 cells64 (by decide) (fun _ => rfl) (fun h => open_op h) hf
  exact ⟨a, ds, c, h1, h2, h3, by unfold maxLen at h4; omega⟩
end Go.Proofs.Ytimakfnlcgedkaa
