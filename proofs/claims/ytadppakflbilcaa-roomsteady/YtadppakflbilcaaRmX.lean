import Derived.Test.YtadppakflbilcaaRm1
namespace Go.Proofs.Ytadppakflbilcaa
open Go.RowKit Go.QK Go.Maps Go.QM Go.QR
set_option maxRecDepth 100000
/-- A call of the script. -/
structure OpX where
  kind : Int
  two : Bool
  tx : Int
  ctr : Int
  what : Int
  free : Int
  more : Int
def OpX.cs (o : OpX) : List Value := [.int .i64 o.kind, .bool o.two, .int .i64 o.tx, .int .i64 o.ctr, .int .i64 o.what, .int .i64 o.free, .int .i64 o.more]
structure OpX.Ok (o : OpX) : Prop where
  tx : I64 o.tx
  ctr : I64 o.ctr
  free : I64 o.free
  more : I64 o.more
theorem opx_len (o : OpX) : o.cs.length = 7 := rfl
/-- The cells of a call of the script. -/
theorem op_at {w : World} {sa : Option Addr} {xs : List OpX} (h : Lies w sa (rowsC OpX.cs xs)) {k : Nat} (hk : k < xs.length) : ∃ gb off, sa = some ⟨gb, off, none⟩ ∧ gb < w.heap.size ∧ ∀ w' : World, w'.heap[gb]? = w.heap[gb]? → ∀ j v, (xs[k].cs)[j]? = some v → w'.cell? ⟨gb, off + k * 7 + j, none⟩ = some v := by
  obtain ⟨gb, off, h1, h2, h3⟩ := Lies.rowAt OpX.cs 7 opx_len h k hk (by decide)
  refine ⟨gb, off, h1, h2, fun w' hw j v hv => ?_⟩
  rw [← h3 j v hv]
  exact World.cell?_of_block (w := w) hw
end Go.Proofs.Ytadppakflbilcaa
