import Derived.Test.YtcnlcmdppkdmmaaEcO
import Derived.Test.YtcnlcmdppkdmmaaEc37
namespace Go.Proofs.Ytcnlcmdppkdmmaa
open Go.ChangeShapes Go.WideShapes Go.ChangeAt Go.RowKit Go.Joins Go.QK Quota
set_option maxRecDepth 100000
variable {H : Type} {enc : TypeId × Value → H} {W : World}

theorem cells69 : Try.prog.cellsOf 69 = 4 := by kernel_rfl
theorem open_op {fuel : Nat} {cs : List Value} {x : DataW H × List MemPlace} (h : DataW.trod enc Try.prog W 0 (fun _ => true) true fuel 69 cs = some x) : ∃ o : Opn, cs = opC o ∧ I64 o.2.2.1 ∧ I64 o.2.2.2 := by
  obtain ⟨ys, n, _, rfl, hl, hlen, hf⟩ := DataW.trod_struct Try.underlying69 h
  rw [cells69] at hl
  obtain ⟨c0, c1, c2, c3, rfl⟩ : ∃ a b c d, cs = [a, b, c, d] := by
    match cs, hl with
    | [a, b, c, d], _ => exact ⟨a, b, c, d, rfl⟩
  have hlen' : ys.length = 4 := by simpa using hlen
  have f0 := hf 0 _ rfl
  have f1 := hf 1 _ rfl
  have f2 := hf 2 _ rfl
  have f3 := hf 3 _ rfl
  simp [cells3, cells2, hlen'] at f0 f1 f2 f3
  obtain ⟨a, e0, _, wa⟩ := DataW.trod_int Try.underlying3 f0
  obtain ⟨b, e1, _, wb⟩ := DataW.trod_int Try.underlying3 f1
  obtain ⟨c, e2, _, wc⟩ := DataW.trod_int Try.underlying3 f2
  obtain ⟨d, e3, _, wd⟩ := DataW.trod_int Try.underlying2 f3
  simp at e0 e1 e2 e3
  subst e0 e1 e2 e3
  exact ⟨(a, b, c, d), rfl, i64_wf wc, i64_wf wd⟩
theorem open_ops {fuel : Nat} {v : Value} {x : DataW H × List MemPlace} (hf : DataW.trod enc Try.prog W 0 (fun _ => true) true fuel 64 [v] = some x) :
    ∃ (a : Option Addr) (os : List Opn) (c : Nat), v = .slice a os.length c ∧ Lies W a (rowsC opC os) ∧ (∀ o ∈ os, I64 o.2.2.1 ∧ I64 o.2.2.2) ∧ os.length ≤ 9223372036854775807 := by
  obtain ⟨a, os, c, h1, h2, h3, h4⟩ := open_rows opC (fun o => I64 o.2.2.1 ∧ I64 o.2.2.2) Try.underlying64 cells69 (by decide) (fun _ => rfl) (fun h => open_op h) hf
  exact ⟨a, os, c, h1, h2, h3, by unfold maxLen at h4; omega⟩
end Go.Proofs.Ytcnlcmdppkdmmaa
