import Derived.Test.YtblngphjoafidaaGreatChk2
import Derived.Deep.WholeRow
namespace Go.Proofs.YtblngphjoafidaaGreat
open Go.RowKit Go.QK

set_option maxRecDepth 100000
theorem size36 : (Tryz.prog.info? 55).map (·.size) = some 17 := by kernel_rfl
theorem size36' {cs : Array Value} (h : cs.size = 17) : (Tryz.prog.info? 55).map (·.size) = some cs.size := by rw [h]; exact size36
variable {ops : Array Oper} {rest : List Oper} {a : Act} {w : World} {Q : Exit → Act → World → Prop} {d : Option Tmp} {ty : TypeId} {ps : String} {af : Array Edge} {x y : Operand} {b : Nat} {cs cs' : Array Value}
theorem wpList_load36 (hb : RBox w b 55 cs) (hs : cs.size = 17) (hx : a.eval x = .pointer (some ⟨b, 0, none⟩)) (h : wpList Tryz.prog ops Q rest (a.put d (.agg cs)) w) :
    wpList Tryz.prog ops Q ({ dst := d, op := .load 55 x, type := ty, pos := ps, after := af, guard := none } :: rest) a w :=
  wpList_load_row rfl 55 x rfl b hx 55 cs (0, 0) _ hb Tryz.underlying55 rfl (size36' hs) h
theorem wpList_store36 (hb : RBox w b 55 cs) (hs : cs.size = 17) (hs' : cs'.size = 17) (h1 : cs'.toList.all (·.oneCell') = true) (hx : a.eval x = .pointer (some ⟨b, 0, none⟩)) (hy : a.eval y = .agg cs')
    (h : ∀ w', RBox w' b 55 cs' → Keep (fun k => k = b) w w' → wpList Tryz.prog ops Q rest (a.put d undef) w') :
    wpList Tryz.prog ops Q ({ dst := d, op := .store 55 x y, type := ty, pos := ps, after := af, guard := none } :: rest) a w := by
  have hrun := run_storeVar_row (P := Tryz.prog) w b 55 55 cs cs' hb (size36' hs') (by rw [hs, hs']) (by rw [← Array.all_toList]; exact h1)
  refine wpList_plain rfl fun K hK => ?_
  unfold Oper.wp execOp
  simp only [hx, hy, Instr.storeAt, Instr.sureAddr, Sem.run_bind, Sem.run_pure, Result.andThen_ok, hrun]
  exact hK _ _ (h _ (RBox.setRow hb cs') (keep_setRow _ _ _))
theorem results_box55 {fn : Func} {p : Tmp} (h : fn.results = #[.cell p 55]) (tmps : Array Value) (w : World) {b : Nat} {cs : Array Value} (hp : tmps.getD p undef = .pointer (some ⟨b, 0, none⟩)) (hb : RBox w b 55 cs) (hs : cs.size = 17) :
    (results fn tmps).run Tryz.prog w = .ok (.agg cs) w :=
  results_cell_row h tmps w b 55 cs (0, 0) _ hp hb Tryz.underlying55 rfl (size36' hs)
theorem results_two46 {fn : Func} {p q : Tmp} (h : fn.results = #[.cell p 55, .tmp q]) (tmps : Array Value) (w : World) {b : Nat} {cs : Array Value} (hp : tmps.getD p undef = .pointer (some ⟨b, 0, none⟩)) (hb : RBox w b 55 cs) (hs : cs.size = 17) :
    (results fn tmps).run Tryz.prog w = .ok (.tuple #[.agg cs, tmps.getD q undef]) w := by
  have hp' : tmps[p]?.getD undef = .pointer (some ⟨b, 0, none⟩) := by simpa using hp
  simp [results, h, hp', asAddr, run_loadVar_row w b 55 55 cs (0, 0) _ hb Tryz.underlying55 rfl (size36' hs)]
/-- The same where a test that was taken ahead lets it by. -/
theorem wpList_load36g {g : Option (Nat × Bool)} (hb : RBox w b 55 cs) (hs : cs.size = 17) (hx : a.eval x = .pointer (some ⟨b, 0, none⟩)) (hw : Region.wanted { dst := d, op := .load 55 x, type := ty, pos := ps, after := af, guard := g } (yielded ops a.tmps) = true) (h : wpList Tryz.prog ops Q rest (a.put d (.agg cs)) w) :
    wpList Tryz.prog ops Q ({ dst := d, op := .load 55 x, type := ty, pos := ps, after := af, guard := g } :: rest) a w :=
  wpList_step fun _ hK => by
    rw [if_pos hw]
    exact wp_load_row 55 x rfl b hx 55 cs (0, 0) _ hb Tryz.underlying55 rfl (size36' hs) (hK _ _ h)
theorem newBox {w w' : World} {o : Obj} (h : Keep (fun k => k = w.heap.size) (w.alloc o) w') : Below w.heap.size w w' := by
  have h1 := alloc_below w o
  exact h1.trans (h.below h1.size (fun k hk q => by omega))
end Go.Proofs.YtblngphjoafidaaGreat
