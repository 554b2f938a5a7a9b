import Derived.Test.YtoocbpbaieedmaaApO
import Derived.Test.YtoocbpbaieedmaaAp40
namespace Go.Proofs.Ytoocbpbaieedmaa
open Go.ChangeShapes Go.WideShapes Go.ChangeAt Go.RowKit Go.Deep Go.QK Go.Joins Quota
set_option maxRecDepth 100000
theorem cells64 : Try.prog.cellsOf 64 = 22 := by kernel_rfl
variable {H : Type} {enc : TypeId × Value → H} {W : World}
theorem lst22 {α : Type} {l : List α} (h : l.length = 22) : ∃ (a : List α) (x b c d e : α), l = a ++ [x, b, c, d, e] ∧ a.length = 17 := by
  match l, h with
  | [a0, a1, a2, a3, a4, a5, a6, a7, a8, a9, a10, a11, a12, a13, a14, a15, a16, x, b, c, d, e], _ => exact ⟨[a0, a1, a2, a3, a4, a5, a6, a7, a8, a9, a10, a11, a12, a13, a14, a15, a16], x, b, c, d, e, rfl, rfl⟩
theorem open_op {fuel : Nat} {cs : List Value} {x : DataW H × List MemPlace} (h : DataW.trod enc Try.prog W 0 (fun _ => true) true fuel 64 cs = some x) : ∃ o : OpX, cs = opL o ∧ o.Ok W := by
  obtain ⟨ys, n, _, rfl, hl, hlen, hf⟩ := DataW.trod_struct Try.underlying64 h
  rw [cells64] at hl
  obtain ⟨rs, x0, p0, p1, p2, p3, rfl, hr⟩ := lst22 hl
  have hlen' : ys.length = 3 := by simpa using hlen
  obtain ⟨y0, y1, y2, rfl⟩ := lst3 hlen'
  have f0 := hf 0 _ rfl
  have f1 := hf 1 _ rfl
  have f2 := hf 2 _ rfl
  simp [cells38, cells4, cells25, hr] at f0 f1 f2
  obtain ⟨r, e0, hfit, hone⟩ := open_rec f0
  obtain ⟨b, e1, _⟩ := DataW.trod_bool Try.underlying4 f1
  obtain ⟨p, t, e2, hin, hnum⟩ := open_page f2
  simp at e1
  subst e0 e1
  simp only [pgL] at e2
  obtain ⟨rfl, rfl, rfl, rfl⟩ := e2
  exact ⟨⟨r, b, p, t⟩, rfl, ⟨hfit, hone, hnum, hin⟩⟩
theorem open_ops {fuel : Nat} {v : Value} {x : DataW H × List MemPlace} (hf : DataW.trod enc Try.prog W 0 (fun _ => true) true fuel 56 [v] = some x) :
    ∃ (a : Option Addr) (ds : List OpX) (c : Nat), v = .slice a ds.length c ∧ Lies W a (rowsC opL ds) ∧ (∀ d ∈ ds, d.Ok W) := by
  obtain ⟨a, ds, c, h1, h2, h3, _⟩ := open_rowsN opL (fun d => d.Ok W) Try.underlying56 cells64 (by decide) (fun _ => rfl) (fun h => open_op h) hf
  exact ⟨a, ds, c, h1, h2, h3⟩
end Go.Proofs.Ytoocbpbaieedmaa
