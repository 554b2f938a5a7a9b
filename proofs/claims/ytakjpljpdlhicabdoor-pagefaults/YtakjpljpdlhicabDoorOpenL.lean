import Derived.Test.YtakjpljpdlhicabDoorOpenP
namespace Go.Proofs.YtakjpljpdlhicabDoor
open Go.ChangeShapes Go.WideShapes Go.ChangeAt Go.RowKit Go.Joins Go.QK Go.Pg
set_option maxRecDepth 100000
variable {H : Type} {enc : TypeId × Value → H} {W : World}
theorem cellsL : Tryd.prog.cellsOf 27 = 8 := by kernel_rfl
theorem list8 {α : Type} {l : List α} (h : l.length = 8) : ∃ a b c d e f g i, l = [a, b, c, d, e, f, g, i] := by
  match l, h with
  | [a, b, c, d, e, f, g, i], _ => exact ⟨a, b, c, d, e, f, g, i, rfl⟩
theorem open_lay {fuel : Nat} {cs : List Value} {x : DataW H × List MemPlace} (h : DataW.trod enc Tryd.prog W 0 (fun _ => true) true fuel 27 cs = some x) :
    ∃ (p : PageM) (t : At) (kd cnt at_ odd : Int), cs = [.int .i64 p.num, .int .i64 p.lsn, .slice t.a p.cs.length t.c, .slice t.b p.gs.length t.d, .int .i64 kd, .int .i64 cnt, .int .i64 at_, .int .i64 odd] ∧ PageIn W p t := by
  obtain ⟨ys, n, _, rfl, hl, hlen, hf⟩ := DataW.trod_struct Tryd.underlying27 h
  rw [cellsL] at hl
  obtain ⟨c0, c1, c2, c3, c4, c5, c6, c7, rfl⟩ := list8 hl
  obtain ⟨y0, y1, y2, y3, y4, rfl⟩ := list5 (show ys.length = 5 by simpa using hlen)
  have f0 := hf 0 _ rfl
  have f1 := hf 1 _ rfl
  have f2 := hf 2 _ rfl
  have f3 := hf 3 _ rfl
  have f4 := hf 4 _ rfl
  simp [cells3, cells34] at f0 f1 f2 f3 f4
  obtain ⟨p, t, e0, pin, _⟩ := open_page f0
  obtain ⟨a, e1, _, _⟩ := DataW.trod_int Tryd.underlying3 f1
  obtain ⟨b, e2, _, _⟩ := DataW.trod_int Tryd.underlying3 f2
  obtain ⟨c, e3, _, _⟩ := DataW.trod_int Tryd.underlying3 f3
  obtain ⟨d, e4, _, _⟩ := DataW.trod_int Tryd.underlying3 f4
  simp at e0 e1 e2 e3 e4
  obtain ⟨e01, e02, e03, e04⟩ := e0
  subst e01 e02 e03 e04 e1 e2 e3 e4
  exact ⟨p, t, a, b, c, d, rfl, pin⟩
end Go.Proofs.YtakjpljpdlhicabDoor
