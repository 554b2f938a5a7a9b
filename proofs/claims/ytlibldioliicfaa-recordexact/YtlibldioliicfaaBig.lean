import Derived.Test.YtlibldioliicfaaDec2
import Derived.Deep.WholeRow
namespace Go.QK
open Go.RowKit

/-- A whole variable lies at block b. -/
def RBox (w : World) (b : Nat) (t : TypeId) (cs : Array Value) : Prop := w.heap[b]? = some (.cells cs t)
section
variable {w w' : World} {b : Nat} {t : TypeId} {cs : Array Value} {S : Nat → Prop}
theorem RBox.lt (h : RBox w b t cs) : b < w.heap.size := (Array.getElem?_eq_some_iff.1 h).1
theorem RBox.keep (h : RBox w b t cs) (hk : Keep S w w') (hn : ¬ S b) : RBox w' b t cs := (hk.block b h.lt hn).trans h
theorem RBox.below (h : RBox w b t cs) (hk : Below w.heap.size w w') : RBox w' b t cs := (hk.block b h.lt).trans h
theorem RBox.new (w : World) (cs : Array Value) (t : TypeId) : RBox (w.alloc (.cells cs t)) w.heap.size t cs := heap_alloc_last w _
theorem RBox.cells (h : RBox w b t cs) : Cells w b cs.toList := by
  refine ⟨h.lt, fun j hj => ⟨?_, ?_⟩⟩
  · rw [cell_of_row w b j _ t (0, 0) h]
    simp at hj
    simp [hj]
  · have h' : w.heap[b]? = some (.cells cs t (0, 0)) := h
    simp [World.frozen?, h']
theorem RBox.setCell (h : RBox w b t cs) (j : Nat) (v : Value) : RBox (w.setCell ⟨b, j, none⟩ v) b t (cs.setIfInBounds j v) := by
  have h' : w.heap[b]? = some (.cells cs t (0, 0)) := h
  unfold RBox
  simp [World.setCell, Array.getElem?_modify, h']
theorem RBox.setRow (h : RBox w b t cs) (cs' : Array Value) : RBox (w.setRow b cs') b t cs' := by
  have h' : w.heap[b]? = some (.cells cs t (0, 0)) := h
  unfold RBox
  simp [World.setRow, Array.getElem?_modify, h']
theorem keep_setRow (w : World) (b : Nat) (cs' : Array Value) : Keep (fun k => k = b) w (w.setRow b cs') := by
  refine ⟨rfl, rfl, rfl, by simp [World.setRow], fun k hk hn => ?_⟩
  have : ¬ b = k := fun q => hn q.symm
  simp [World.setRow, Array.getElem?_modify, this]
end
end Go.QK
namespace Go.Proofs.Ytlibldioliicfaa
open Go.RowKit Go.QK

set_option maxRecDepth 100000
theorem size36 : (Try.prog.info? 36).map (·.size) = some 17 := by kernel_rfl
theorem size36' {cs : Array Value} (h : cs.size = 17) : (Try.prog.info? 36).map (·.size) = some cs.size := by rw [h]; exact size36
variable {ops : Array Oper} {rest : List Oper} {a : Act} {w : World} {Q : Exit → Act → World → Prop} {d : Option Tmp} {ty : TypeId} {ps : String} {af : Array Edge} {x y : Operand} {b : Nat} {cs cs' : Array Value}
theorem wpList_load36 (hb : RBox w b 36 cs) (hs : cs.size = 17) (hx : a.eval x = .pointer (some ⟨b, 0, none⟩)) (h : wpList Try.prog ops Q rest (a.put d (.agg cs)) w) :
    wpList Try.prog ops Q ({ dst := d, op := .load 36 x, type := ty, pos := ps, after := af, guard := none } :: rest) a w :=
  wpList_load_row rfl 36 x rfl b hx 36 cs (0, 0) _ hb Try.underlying36 rfl (size36' hs) h
theorem wpList_store36 (hb : RBox w b 36 cs) (hs : cs.size = 17) (hs' : cs'.size = 17) (h1 : cs'.toList.all (·.oneCell') = true) (hx : a.eval x = .pointer (some ⟨b, 0, none⟩)) (hy : a.eval y = .agg cs')
    (h : ∀ w', RBox w' b 36 cs' → Keep (fun k => k = b) w w' → wpList Try.prog ops Q rest (a.put d undef) w') :
    wpList Try.prog ops Q ({ dst := d, op := .store 36 x y, type := ty, pos := ps, after := af, guard := none } :: rest) a w := by
  have hrun := run_storeVar_row (P := Try.prog) w b 36 36 cs cs' hb (size36' hs') (by rw [hs, hs']) (by rw [← Array.all_toList]; exact h1)
  refine wpList_plain rfl fun K hK => ?_
  unfold Oper.wp execOp
  simp only [hx, hy, Instr.storeAt, Instr.sureAddr, Sem.run_bind, Sem.run_pure, Result.andThen_ok, hrun]
  exact hK _ _ (h _ (RBox.setRow hb cs') (keep_setRow _ _ _))
theorem results_box {fn : Func} {p : Tmp} (h : fn.results = #[.cell p 36]) (tmps : Array Value) (w : World) {b : Nat} {cs : Array Value} (hp : tmps.getD p undef = .pointer (some ⟨b, 0, none⟩)) (hb : RBox w b 36 cs) (hs : cs.size = 17) :
    (results fn tmps).run Try.prog w = .ok (.agg cs) w :=
  results_cell_row h tmps w b 36 cs (0, 0) _ hp hb Try.underlying36 rfl (size36' hs)
theorem results_box2 {fn : Func} {p q : Tmp} (h : fn.results = #[.cell p 36, .tmp q]) (tmps : Array Value) (w : World) {b : Nat} {cs : Array Value} (hp : tmps.getD p undef = .pointer (some ⟨b, 0, none⟩)) (hb : RBox w b 36 cs) (hs : cs.size = 17) :
    (results fn tmps).run Try.prog w = .ok (.tuple #[.agg cs, tmps.getD q undef]) w := by
  have hp' : tmps[p]?.getD undef = .pointer (some ⟨b, 0, none⟩) := by simpa using hp
  simp [results, h, hp', asAddr, run_loadVar_row w b 36 36 cs (0, 0) _ hb Try.underlying36 rfl (size36' hs)]
end Go.Proofs.Ytlibldioliicfaa
