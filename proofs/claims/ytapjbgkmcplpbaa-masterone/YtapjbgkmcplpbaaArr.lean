import Derived.Test.YtapjbgkmcplpbaaDev12
import Derived.Test.YtapjbgkmcplpbaaSlot
import Derived.Deep.WholeRow
import Derived.LaidEql
namespace Go.QK
open Go.RowKit

/-! Arrays of bytes: a block of their own, and by value. -/
def bytesV (L : List Nat) : Array Value := ((ints L).map (Value.int .u8)).toArray
@[simp] theorem bytesV_size (L : List Nat) : (bytesV L).size = L.length := by simp [bytesV]
/-- The array L lies at block g. -/
def Arr (w : World) (t : TypeId) (g : Nat) (L : List Nat) : Prop := w.heap[g]? = some (.cells (bytesV L) t)
section
variable {w w' : World} {t : TypeId} {g : Nat} {L : List Nat} {S : Nat → Prop}
theorem Arr.lt (h : Arr w t g L) : g < w.heap.size := (Array.getElem?_eq_some_iff.1 h).1
theorem Arr.keep (h : Arr w t g L) (hk : Keep S w w') (hn : ¬ S g) : Arr w' t g L := (hk.block g h.lt hn).trans h
theorem Arr.below (h : Arr w t g L) (hk : Below w.heap.size w w') : Arr w' t g L := (hk.block g h.lt).trans h
theorem Arr.new (w : World) (t : TypeId) (L : List Nat) : Arr (w.alloc (.cells (bytesV L) t)) t w.heap.size L := heap_alloc_last w _
theorem Arr.cell (h : Arr w t g L) (i : Nat) (hi : i < L.length) : w.cell? ⟨g, i, none⟩ = some (.int .u8 ((L.getD i 0 : Nat) : Int)) := by
  rw [cell_of_row w g i _ t (0, 0) h]
  simp [bytesV, ints, hi]
theorem Arr.frozen (h : Arr w t g L) (i : Nat) : w.frozen? ⟨g, i, none⟩ = false := by
  have h' : w.heap[g]? = some (.cells (bytesV L) t (0, 0)) := h
  simp [World.frozen?, h']
theorem Arr.seen (h : Arr w t g L) : Bytes w (some ⟨g, 0, none⟩) L := by
  refine .inr ⟨g, 0, rfl, h.lt, fun i hi => ?_⟩
  rw [Nat.zero_add, h.cell i (by simpa using hi), ints_getD]
theorem Arr.set (h : Arr w t g L) (i y : Nat) : Arr (w.setCell ⟨g, i, none⟩ (.int .u8 (y : Int))) t g (L.set i y) := by
  have h' : w.heap[g]? = some (.cells (bytesV L) t (0, 0)) := h
  unfold Arr
  have e : bytesV (L.set i y) = (bytesV L).setIfInBounds i (.int .u8 (y : Int)) := by
    simp [bytesV, ints_set', List.map_set]
  rw [e]
  simp [World.setCell, Array.getElem?_modify, h']
end
end Go.QK
