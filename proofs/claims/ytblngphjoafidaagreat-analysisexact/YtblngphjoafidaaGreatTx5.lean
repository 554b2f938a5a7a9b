import Derived.Test.YtblngphjoafidaaGreatTx4
namespace Go.Proofs.YtblngphjoafidaaGreat
open Go.RowKit Go.QK Go.Maps Go.QM Go.QT
set_option maxRecDepth 100000
/-! The table of functions by kind. -/
abbrev rulesL (a3 a4 a5 a6 a7 : Nat) : Array Value := #[.nilFunc, .nilFunc, fv 61, fv 62, fv 63, fv 64, cv a3, fv 67, cv a4, fv 67, cv a5, fv 69, cv a6, fv 70, cv a7, fv 72, fv 63, fv 64]
theorem size92 : (Tryz.prog.info? 104).map (·.size) = some 18 := by kernel_rfl
theorem size92' {cs : Array Value} (h : cs.size = 18) : (Tryz.prog.info? 104).map (·.size) = some cs.size := by rw [h]; exact size92
section
variable {ops : Array Oper} {rest : List Oper} {a : Act} {w : World} {Q : Exit → Act → World → Prop} {d : Option Tmp} {ty : TypeId} {ps : String} {af : Array Edge} {x y : Operand} {b : Nat} {cs cs' : Array Value}
theorem wpList_store92 (hb : RBox w b 104 cs) (hs : cs.size = 18) (hs' : cs'.size = 18) (h1 : cs'.toList.all (·.oneCell') = true) (hx : a.eval x = .pointer (some ⟨b, 0, none⟩)) (hy : a.eval y = .agg cs')
    (h : ∀ w', RBox w' b 104 cs' → Keep (fun k => k = b) w w' → wpList Tryz.prog ops Q rest (a.put d undef) w') :
    wpList Tryz.prog ops Q ({ dst := d, op := .store 104 x y, type := ty, pos := ps, after := af, guard := none } :: rest) a w := by
  have hrun := run_storeVar_row (P := Tryz.prog) w b 104 104 cs cs' hb (size92' hs') (by rw [hs, hs']) (by rw [← Array.all_toList]; exact h1)
  refine wpList_plain rfl fun K hK => ?_
  unfold Oper.wp execOp
  simp only [hx, hy, Instr.storeAt, Instr.sureAddr, Sem.run_bind, Sem.run_pure, Result.andThen_ok, hrun]
  exact hK _ _ (h _ (RBox.setRow hb cs') (keep_setRow _ _ _))
end
theorem results_box {fn : Func} {p : Tmp} (h : fn.results = #[.cell p 104]) (tmps : Array Value) (w : World) {b : Nat} {cs : Array Value} (hp : tmps.getD p undef = .pointer (some ⟨b, 0, none⟩)) (hb : RBox w b 104 cs) (hs : cs.size = 18) :
    (results fn tmps).run Tryz.prog w = .ok (.agg cs) w :=
  results_cell_row h tmps w b 104 cs (0, 0) _ hp hb Tryz.underlying104 rfl (size92' hs)
def RulesPost (w : World) (e : Ending) (w' : World) : Prop := ∃ a3 a4 a5 a6 a7, e = .returned (.agg (rulesL a3 a4 a5 a6 a7)) ∧ Cells w' a3 [fv 66] ∧ Cells w' a4 [fv 68] ∧ Cells w' a5 [fv 66] ∧ Cells w' a6 [fv 66] ∧ Cells w' a7 [fv 71] ∧ Below w.heap.size w w'
set_option maxHeartbeats 4000000 in
theorem rules_any (w : World) : Calls Tryz.prog 46 #[] w (RulesPost w) := by
  unfold RulesPost
  have KU := fun n w => unless_any n w
  go_enter Tryz.func46, Tryz.ntmps46
  go_upto_region 1 with fail
  refine named (P := Code.wp _ _ _ _) ?_
  intro w1 hw1
  obtain ⟨rb, hrb⟩ : ∃ rb, rb = w.heap.size := ⟨_, rfl⟩
  obtain ⟨cs, hX, hsz⟩ : ∃ cs, RBox w1 rb 104 cs ∧ cs.size = 18 := by rw [hw1, hrb]; exact ⟨_, RBox.new _ _ _, rfl⟩
  have X1 := hide hX
  have HS := hide hsz
  have B1 := hide (show Below w.heap.size w w1 by rw [hw1]; exact alloc_below _ _)
  have HL0 := hide (show w.heap.size ≤ rb by rw [hrb]; exact Nat.le_refl _)
  rw [← hrb]
  clear hw1 hrb hX hsz
  go_wp2_with fail
  refine (KU _ _).mono ?_
  rintro e w3 ⟨rfl, h3⟩
  have B3 := hide (show Below w.heap.size w w3 by rw [h3]; exact B1.out.alloc B1.out.size _)
  have X3 := hide (show RBox w3 rb 104 cs by rw [h3]; exact X1.out.below (alloc_below _ _))
  have L3 := hide X1.out.lt
  have C33 := hide (show Cells w3 w1.heap.size [fv 66] by rw [h3]; exact Cells.new _ _ _)
  clear h3 B1 X1 
  generalize w1.heap.size = a3 at *
  clear w1
  go_wp2_with fail
  refine (KU _ _).mono ?_
  rintro e w4 ⟨rfl, h3⟩
  have B4 := hide (show Below w.heap.size w w4 by rw [h3]; exact B3.out.alloc B3.out.size _)
  have X4 := hide (show RBox w4 rb 104 cs by rw [h3]; exact X3.out.below (alloc_below _ _))
  have L4 := hide X3.out.lt
  have C44 := hide (show Cells w4 w3.heap.size [fv 68] by rw [h3]; exact Cells.new _ _ _)
  have C34 := hide (show Cells w4 a3 [fv 66] by rw [h3]; exact C33.out.below (alloc_below _ _))
  clear h3 B3 X3 C33
  generalize w3.heap.size = a4 at *
  clear w3
  go_wp2_with fail
  refine (KU _ _).mono ?_
  rintro e w5 ⟨rfl, h3⟩
  have B5 := hide (show Below w.heap.size w w5 by rw [h3]; exact B4.out.alloc B4.out.size _)
  have X5 := hide (show RBox w5 rb 104 cs by rw [h3]; exact X4.out.below (alloc_below _ _))
  have L5 := hide X4.out.lt
  have C55 := hide (show Cells w5 w4.heap.size [fv 66] by rw [h3]; exact Cells.new _ _ _)
  have C35 := hide (show Cells w5 a3 [fv 66] by rw [h3]; exact C34.out.below (alloc_below _ _))
  have C45 := hide (show Cells w5 a4 [fv 68] by rw [h3]; exact C44.out.below (alloc_below _ _))
  clear h3 B4 X4 C34 C44
  generalize w4.heap.size = a5 at *
  clear w4
  go_wp2_with fail
  refine (KU _ _).mono ?_
  rintro e w6 ⟨rfl, h3⟩
  have B6 := hide (show Below w.heap.size w w6 by rw [h3]; exact B5.out.alloc B5.out.size _)
  have X6 := hide (show RBox w6 rb 104 cs by rw [h3]; exact X5.out.below (alloc_below _ _))
  have L6 := hide X5.out.lt
  have C66 := hide (show Cells w6 w5.heap.size [fv 66] by rw [h3]; exact Cells.new _ _ _)
  have C36 := hide (show Cells w6 a3 [fv 66] by rw [h3]; exact C35.out.below (alloc_below _ _))
  have C46 := hide (show Cells w6 a4 [fv 68] by rw [h3]; exact C45.out.below (alloc_below _ _))
  have C56 := hide (show Cells w6 a5 [fv 66] by rw [h3]; exact C55.out.below (alloc_below _ _))
  clear h3 B5 X5 C35 C45 C55
  generalize w5.heap.size = a6 at *
  clear w5
  go_wp2_with fail
  refine (KU _ _).mono ?_
  rintro e w7 ⟨rfl, h3⟩
  have B7 := hide (show Below w.heap.size w w7 by rw [h3]; exact B6.out.alloc B6.out.size _)
  have X7 := hide (show RBox w7 rb 104 cs by rw [h3]; exact X6.out.below (alloc_below _ _))
  have L7 := hide X6.out.lt
  have C77 := hide (show Cells w7 w6.heap.size [fv 71] by rw [h3]; exact Cells.new _ _ _)
  have C37 := hide (show Cells w7 a3 [fv 66] by rw [h3]; exact C36.out.below (alloc_below _ _))
  have C47 := hide (show Cells w7 a4 [fv 68] by rw [h3]; exact C46.out.below (alloc_below _ _))
  have C57 := hide (show Cells w7 a5 [fv 66] by rw [h3]; exact C56.out.below (alloc_below _ _))
  have C67 := hide (show Cells w7 a6 [fv 66] by rw [h3]; exact C66.out.below (alloc_below _ _))
  clear h3 B6 X6 C36 C46 C56 C66
  generalize w6.heap.size = a7 at *
  clear w6
  clear KU
  go_wp2_with (refine wpList_store92 X7.out HS.out rfl rfl rfl rfl ?_; intro w8 hb8 hk8)
  have X8 := hide hb8
  have K8 := hide hk8
  clear hb8 hk8
  refine bodyPost_ret (v := .agg (rulesL a3 a4 a5 a6 a7)) (results_box Tryz.results46 _ _ rfl X8.out rfl) rfl ⟨a3, a4, a5, a6, a7, rfl, ?_⟩
  have := L3.out
  have := L4.out
  have := L5.out
  have := L6.out
  have := L7.out
  have := HL0.out
  exact ⟨C37.out.keep K8.out (by omega), C47.out.keep K8.out (by omega), C57.out.keep K8.out (by omega), C67.out.keep K8.out (by omega), C77.out.keep K8.out (by omega), B7.out.trans (K8.out.below B7.out.size (fun k hk q => by omega))⟩
end Go.Proofs.YtblngphjoafidaaGreat
