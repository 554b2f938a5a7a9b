import Derived.Test.YtgpmghdoofcpaaaGreatDec2
import Derived.Deep.WholeRow
namespace Go.QK
open Go.RowKit

/-- A whole variable lies at block b. -/
def RBox (w : World) (b : Nat) (t : TypeId) (cs : Array Value) : Prop := w.heap[b]? = some (.cells cs t)
section
variable {w w' : World} {b : Nat} {t : TypeId} {cs : Array Value} {S : Nat → Prop}
theorem RBox.lt (h : RBox w b t cs) : b < w.heap.size := (Array.getElem?_eq_some_iff.1 h).1
theorem RBox.keep (h : RBox w b t cs) (hk : Keep S w w') (hn : ¬ S b) : RBox w' b t cs := (hk.block b h.lt hn).trans h
theorem RBox.below (h : RBox w b t cs) (hk : Below w.heap.size w w') : RBox w' b t cs := (hk.block b h.lt).trans h
theorem RBox.new (w : World) (cs : Array Value) (t : TypeId) : RBox (w.alloc (.cells cs t)) w.heap.size t cs := heap_alloc_last w _
theorem RBox.cells (h : RBox w b t cs) : Cells w b cs.toList := by
  refine ⟨h.lt, fun j hj => ⟨?_, ?_⟩⟩
  · rw [cell_of_row w b j _ t (0, 0) h]
    simp at hj
    simp [hj]
  · have h' : w.heap[b]? = some (.cells cs t (0, 0)) := h
    simp [World.frozen?, h']
theorem RBox.setCell (h : RBox w b t cs) (j : Nat) (v : Value) : RBox (w.setCell ⟨b, j, none⟩ v) b t (cs.setIfInBounds j v) := by
  have h' : w.heap[b]? = some (.cells cs t (0, 0)) := h
  unfold RBox
  simp [World.setCell, Array.getElem?_modify, h']
theorem RBox.setRow (h : RBox w b t cs) (cs' : Array Value) : RBox (w.setRow b cs') b t cs' := by
  have h' : w.heap[b]? = some (.cells cs t (0, 0)) := h
  unfold RBox
  simp [World.setRow, Array.getElem?_modify, h']
theorem keep_setRow (w : World) (b : Nat) (cs' : Array Value) : Keep (fun k => k = b) w (w.setRow b cs') := by
  refine ⟨rfl, rfl, rfl, by simp [World.setRow], fun k hk hn => ?_⟩
  have : ¬ b = k := fun q => hn q.symm
  simp [World.setRow, Array.getElem?_modify, this]
end
end Go.QK
namespace Go.Proofs.YtgpmghdoofcpaaaGreat
open Go.RowKit Go.QK

set_option maxRecDepth 100000
theorem size36 : (Tryz.prog.info? 44).map (·.size) = some 17 := by kernel_rfl
theorem size36' {cs : Array Value} (h : cs.size = 17) : (Tryz.prog.info? 44).map (·.size) = some cs.size := by rw [h]; exact size36
variable {ops : Array Oper} {rest : List Oper} {a : Act} {w : World} {Q : Exit → Act → World → Prop} {d : Option Tmp} {ty : TypeId} {ps : String} {af : Array Edge} {x y : Operand} {b : Nat} {cs cs' : Array Value}
theorem wpList_load36 (hb : RBox w b 44 cs) (hs : cs.size = 17) (hx : a.eval x = .pointer (some ⟨b, 0, none⟩)) (h : wpList Tryz.prog ops Q rest (a.put d (.agg cs)) w) :
    wpList Tryz.prog ops Q ({ dst := d, op := .load 44 x, type := ty, pos := ps, after := af, guard := none } :: rest) a w :=
  wpList_load_row rfl 44 x rfl b hx 44 cs (0, 0) _ hb Tryz.underlying44 rfl (size36' hs) h
theorem wpList_store36 (hb : RBox w b 44 cs) (hs : cs.size = 17) (hs' : cs'.size = 17) (h1 : cs'.toList.all (·.oneCell') = true) (hx : a.eval x = .pointer (some ⟨b, 0, none⟩)) (hy : a.eval y = .agg cs')
    (h : ∀ w', RBox w' b 44 cs' → Keep (fun k => k = b) w w' → wpList Tryz.prog ops Q rest (a.put d undef) w') :
    wpList Tryz.prog ops Q ({ dst := d, op := .store 44 x y, type := ty, pos := ps, after := af, guard := none } :: rest) a w := by
  have hrun := run_storeVar_row (P := Tryz.prog) w b 44 44 cs cs' hb (size36' hs') (by rw [hs, hs']) (by rw [← Array.all_toList]; exact h1)
  refine wpList_plain rfl fun K hK => ?_
  unfold Oper.wp execOp
  simp only [hx, hy, Instr.storeAt, Instr.sureAddr, Sem.run_bind, Sem.run_pure, Result.andThen_ok, hrun]
  exact hK _ _ (h _ (RBox.setRow hb cs') (keep_setRow _ _ _))
theorem results_box {fn : Func} {p : Tmp} (h : fn.results = #[.cell p 44]) (tmps : Array Value) (w : World) {b : Nat} {cs : Array Value} (hp : tmps.getD p undef = .pointer (some ⟨b, 0, none⟩)) (hb : RBox w b 44 cs) (hs : cs.size = 17) :
    (results fn tmps).run Tryz.prog w = .ok (.agg cs) w :=
  results_cell_row h tmps w b 44 cs (0, 0) _ hp hb Tryz.underlying44 rfl (size36' hs)
theorem results_box2 {fn : Func} {p q : Tmp} (h : fn.results = #[.cell p 44, .tmp q]) (tmps : Array Value) (w : World) {b : Nat} {cs : Array Value} (hp : tmps.getD p undef = .pointer (some ⟨b, 0, none⟩)) (hb : RBox w b 44 cs) (hs : cs.size = 17) :
    (results fn tmps).run Tryz.prog w = .ok (.tuple #[.agg cs, tmps.getD q undef]) w := by
  have hp' : tmps[p]?.getD undef = .pointer (some ⟨b, 0, none⟩) := by simpa using hp
  simp [results, h, hp', asAddr, run_loadVar_row w b 44 44 cs (0, 0) _ hb Tryz.underlying44 rfl (size36' hs)]
end Go.Proofs.YtgpmghdoofcpaaaGreat

namespace Go.Proofs.YtgpmghdoofcpaaaGreat
open Go.RowKit Go.QK

/-- A record that was just read: its value, its rows. -/
def RecOut (B : Nat) (w' : World) (x : Value) (r : RecM) : Prop :=
  ∃ (la da : Option Addr) (lc dc : Nat), x = .agg (recC r la lc da dc) ∧ LRow w' B (.slice la r.live.length lc) r.live ∧ DRow w' B (.slice da r.dirty.length dc) r.dirty ∧ (∀ g, (Value.slice la r.live.length lc).ownBlock = some g → (Value.slice da r.dirty.length dc).ownBlock ≠ some g)
set_option maxRecDepth 100000
set_option maxHeartbeats 4000000 in
theorem read_pat1 (kn : Nat) (p : Nat) (a : Option Addr) (c : Nat) (l : List Nat) (s : RS) (w : World) (h : Rds w p a c l s) (hk1 : 1 ≤ kn) (hk8 : kn ≤ 8)
    (e1 : hTx kn = true) (e2 : hPrev kn = false) (e3 : hCtr kn = false) (e4 : hFirst kn = false) (e5 : hDelta kn = false) (e6 : hPts kn = false) :
    Calls Tryz.prog 72 #[.pointer (some ⟨p, 0, none⟩), .int .i64 kn] w fun x w' => ∃ v, x = .returned v ∧ RSt w p a c l w' (readM kn l s).2 ∧ RecOut w.heap.size w' v (readM kn l s).1 := by
  have g0 := fun w => fieldsOf_any kn (by omega) (by omega) w
  simp only [hasC, e1, e2, e3, e4, e5, e6] at g0
  obtain ⟨RR, hRR⟩ : ∃ q, q = readM kn l s := ⟨_, rfl⟩
  rw [← hRR]
  simp only [readM, condM, e1, e2, e3, e4, e5, e6, bindM, pureM, cond_true, cond_false, zeroR] at hRR
  have HRR := hide hRR
  have st0 := (RSt.start h).below (alloc_below w (.cells #[.int .i64 0, .int .i64 0, .int .i64 0, .int .i64 0, .int .i64 0, .int .i64 0, .int .i64 0, .int .i64 0, .int .i64 0, .int .i64 0, .int .i64 0, .int .i64 0, .int .i64 0, .int .i64 0, .slice none 0 0, .slice none 0 0, .int .i64 0] 44))
  have C0 := RBox.new w #[.int .i64 0, .int .i64 0, .int .i64 0, .int .i64 0, .int .i64 0, .int .i64 0, .int .i64 0, .int .i64 0, .int .i64 0, .int .i64 0, .int .i64 0, .int .i64 0, .int .i64 0, .int .i64 0, .slice none 0 0, .slice none 0 0, .int .i64 0] 44
  generalize hw0 : w.alloc (.cells #[.int .i64 0, .int .i64 0, .int .i64 0, .int .i64 0, .int .i64 0, .int .i64 0, .int .i64 0, .int .i64 0, .int .i64 0, .int .i64 0, .int .i64 0, .int .i64 0, .int .i64 0, .int .i64 0, .slice none 0 0, .slice none 0 0, .int .i64 0] 44) = w0 at *
  have ST0 := hide st0
  clear st0 h e1 e2 e3 e4 e5 e6 hRR
  go_enter Tryz.func72, Tryz.ntmps72
  go_wp2_with fail
  refine (g0 _).mono ?_
  rintro e w1 ⟨rfl, b1⟩
  have ST1 := ST0.out.below b1
  have C1 := C0.below b1
  have X1 := Cells.new w1 #[.bool true, .bool false, .bool false, .bool false, .bool false, .bool false] 158
  have ST2 := ST1.below (alloc_below w1 (.cells #[.bool true, .bool false, .bool false, .bool false, .bool false, .bool false] 158))
  have C2 := C1.below (alloc_below w1 (.cells #[.bool true, .bool false, .bool false, .bool false, .bool false, .bool false] 158))
  have lt1 := C1.lt
  have le1 := ST1.size
  generalize hw2 : w1.alloc (.cells #[.bool true, .bool false, .bool false, .bool false, .bool false, .bool false] 158) = w2 at *
  have HW2 := hide hw2
  have ST2 := hide ST2
  clear hw2 hw0 ST1 C1 C0 b1 ST0 g0
  go_upto_region 2 with fail
  rw [HW2.out]
  generalize w1.heap.size = bx at *
  clear HW2
  have lt2 := X1.1
  have C3 := C2.below (alloc_below w2 (.cells #[.int .i64 0, .int .i64 0, .int .i64 0, .int .i64 0, .int .i64 0, .int .i64 0, .int .i64 0, .int .i64 0, .int .i64 0, .int .i64 0, .int .i64 0, .int .i64 0, .int .i64 0, .int .i64 0, .slice none 0 0, .slice none 0 0, .int .i64 0] 44))
  have X3 := X1.below (alloc_below w2 (.cells #[.int .i64 0, .int .i64 0, .int .i64 0, .int .i64 0, .int .i64 0, .int .i64 0, .int .i64 0, .int .i64 0, .int .i64 0, .int .i64 0, .int .i64 0, .int .i64 0, .int .i64 0, .int .i64 0, .slice none 0 0, .slice none 0 0, .int .i64 0] 44))
  have ST3 := ST2.out.below (alloc_below w2 (.cells #[.int .i64 0, .int .i64 0, .int .i64 0, .int .i64 0, .int .i64 0, .int .i64 0, .int .i64 0, .int .i64 0, .int .i64 0, .int .i64 0, .int .i64 0, .int .i64 0, .int .i64 0, .int .i64 0, .slice none 0 0, .slice none 0 0, .int .i64 0] 44))
  go_upto_region 3 with (refine wpList_store36 (RBox.new _ _ _) rfl rfl rfl rfl rfl ?_; intro W0 R3 hk3)
  have RR0 := hide R3
  have CC0 := hide (C3.keep hk3 (by omega))
  have XX0 := hide (X3.keep hk3 (by omega))
  have SS0 := hide (ST3.touch hk3 (fun k q => by omega))
  generalize w2.heap.size = br at *
  clear C2 C3 X1 X3 ST2 ST3 R3 hk3
  have F := fun w' h => take_r p a c l s w' h
  generalize hq1 : takeM l s = q1 at F
  obtain ⟨n1, s1⟩ := q1
  simp only at F
  have F := hide F
  have HQ1 := hide hq1
  clear hq1
  have m0 := (XX0.out.get 0 _ rfl).1
  have m1 := (XX0.out.get 1 _ rfl).1
  have m2 := (XX0.out.get 2 _ rfl).1
  have m3 := (XX0.out.get 3 _ rfl).1
  have m4 := (XX0.out.get 4 _ rfl).1
  have m5 := (XX0.out.get 5 _ rfl).1
  go_wp2_with fail
  refine (F.out _ SS0.out.rd).mono ?_
  rintro e w11 ⟨rfl, r⟩
  have ss := SS0.out.next r
  have cc := CC0.out.keep r.keep (SS0.out.ne (Nat.le_refl _))
  have xx := XX0.out.keep r.keep (SS0.out.ne (by omega))
  have rr := RR0.out.keep r.keep (SS0.out.ne (by omega))
  have k2 := rr.cells.get 2 _ rfl
  obtain ⟨k2, z2⟩ := k2
  have SS1 := hide (ss.store (b := br) (j := 2) (by omega) (.int .i64 n1))
  have CC1 := hide (cc.keep ((Keep.refl (fun k => k = br) w11).setCell (fun _ => rfl) (.int .i64 n1) (j := 2)) (by omega))
  have XX1 := hide (xx.other (g := br) (j := 2) (y := .int .i64 n1) (by omega))
  have RR1 := (rr.setCell 2 (.int .i64 n1))
  simp only [List.setIfInBounds_toArray, List.set_cons_zero, List.set_cons_succ] at RR1
  have RR1 := hide RR1
  clear ss cc xx rr r F SS0 CC0 XX0 RR0 m0 m1 m2 m3 m4 m5
  go_upto_region 5 with fail
  generalize hWn : (w11.setCell ⟨br, 2, none⟩ (.int .i64 n1)) = W1 at *
  clear hWn k2 z2
  have m0 := (XX1.out.get 0 _ rfl).1
  have m1 := (XX1.out.get 1 _ rfl).1
  have m2 := (XX1.out.get 2 _ rfl).1
  have m3 := (XX1.out.get 3 _ rfl).1
  have m4 := (XX1.out.get 4 _ rfl).1
  have m5 := (XX1.out.get 5 _ rfl).1
  go_upto_region 18 with fail
  go_wp2_with (first | refine wpList_load36 RR1.out rfl rfl ?_ | (refine wpList_store36 CC1.out rfl rfl rfl rfl rfl ?_; intro wf hbf hkf))
  have ee := HRR.out
  simp only [HQ1.out] at ee
  subst ee
  exact bodyPost_ret (results_box rfl _ _ rfl hbf rfl) rfl ⟨_, rfl, SS1.out.touch hkf (fun k q => by omega), none, none, 0, 0, rfl, World.ownsRow_nil _ _ _ _, World.ownsRow_nil _ _ _ _, nofun⟩

end Go.Proofs.YtgpmghdoofcpaaaGreat

namespace Go.Proofs.YtgpmghdoofcpaaaGreat
open Go.RowKit Go.QK

set_option maxRecDepth 100000
set_option maxHeartbeats 4000000 in
theorem read_pat2 (kn : Nat) (p : Nat) (a : Option Addr) (c : Nat) (l : List Nat) (s : RS) (w : World) (h : Rds w p a c l s) (hk1 : 1 ≤ kn) (hk8 : kn ≤ 8)
    (e1 : hTx kn = false) (e2 : hPrev kn = false) (e3 : hCtr kn = true) (e4 : hFirst kn = true) (e5 : hDelta kn = false) (e6 : hPts kn = false) :
    Calls Tryz.prog 72 #[.pointer (some ⟨p, 0, none⟩), .int .i64 kn] w fun x w' => ∃ v, x = .returned v ∧ RSt w p a c l w' (readM kn l s).2 ∧ RecOut w.heap.size w' v (readM kn l s).1 := by
  have g0 := fun w => fieldsOf_any kn (by omega) (by omega) w
  simp only [hasC, e1, e2, e3, e4, e5, e6] at g0
  obtain ⟨RR, hRR⟩ : ∃ q, q = readM kn l s := ⟨_, rfl⟩
  rw [← hRR]
  simp only [readM, condM, e1, e2, e3, e4, e5, e6, bindM, pureM, cond_true, cond_false, zeroR] at hRR
  have HRR := hide hRR
  have st0 := (RSt.start h).below (alloc_below w (.cells #[.int .i64 0, .int .i64 0, .int .i64 0, .int .i64 0, .int .i64 0, .int .i64 0, .int .i64 0, .int .i64 0, .int .i64 0, .int .i64 0, .int .i64 0, .int .i64 0, .int .i64 0, .int .i64 0, .slice none 0 0, .slice none 0 0, .int .i64 0] 44))
  have C0 := RBox.new w #[.int .i64 0, .int .i64 0, .int .i64 0, .int .i64 0, .int .i64 0, .int .i64 0, .int .i64 0, .int .i64 0, .int .i64 0, .int .i64 0, .int .i64 0, .int .i64 0, .int .i64 0, .int .i64 0, .slice none 0 0, .slice none 0 0, .int .i64 0] 44
  generalize hw0 : w.alloc (.cells #[.int .i64 0, .int .i64 0, .int .i64 0, .int .i64 0, .int .i64 0, .int .i64 0, .int .i64 0, .int .i64 0, .int .i64 0, .int .i64 0, .int .i64 0, .int .i64 0, .int .i64 0, .int .i64 0, .slice none 0 0, .slice none 0 0, .int .i64 0] 44) = w0 at *
  have ST0 := hide st0
  clear st0 h e1 e2 e3 e4 e5 e6 hRR
  go_enter Tryz.func72, Tryz.ntmps72
  go_wp2_with fail
  refine (g0 _).mono ?_
  rintro e w1 ⟨rfl, b1⟩
  have ST1 := ST0.out.below b1
  have C1 := C0.below b1
  have X1 := Cells.new w1 #[.bool false, .bool false, .bool true, .bool true, .bool false, .bool false] 158
  have ST2 := ST1.below (alloc_below w1 (.cells #[.bool false, .bool false, .bool true, .bool true, .bool false, .bool false] 158))
  have C2 := C1.below (alloc_below w1 (.cells #[.bool false, .bool false, .bool true, .bool true, .bool false, .bool false] 158))
  have lt1 := C1.lt
  have le1 := ST1.size
  generalize hw2 : w1.alloc (.cells #[.bool false, .bool false, .bool true, .bool true, .bool false, .bool false] 158) = w2 at *
  have HW2 := hide hw2
  have ST2 := hide ST2
  clear hw2 hw0 ST1 C1 C0 b1 ST0 g0
  go_upto_region 2 with fail
  rw [HW2.out]
  generalize w1.heap.size = bx at *
  clear HW2
  have lt2 := X1.1
  have C3 := C2.below (alloc_below w2 (.cells #[.int .i64 0, .int .i64 0, .int .i64 0, .int .i64 0, .int .i64 0, .int .i64 0, .int .i64 0, .int .i64 0, .int .i64 0, .int .i64 0, .int .i64 0, .int .i64 0, .int .i64 0, .int .i64 0, .slice none 0 0, .slice none 0 0, .int .i64 0] 44))
  have X3 := X1.below (alloc_below w2 (.cells #[.int .i64 0, .int .i64 0, .int .i64 0, .int .i64 0, .int .i64 0, .int .i64 0, .int .i64 0, .int .i64 0, .int .i64 0, .int .i64 0, .int .i64 0, .int .i64 0, .int .i64 0, .int .i64 0, .slice none 0 0, .slice none 0 0, .int .i64 0] 44))
  have ST3 := ST2.out.below (alloc_below w2 (.cells #[.int .i64 0, .int .i64 0, .int .i64 0, .int .i64 0, .int .i64 0, .int .i64 0, .int .i64 0, .int .i64 0, .int .i64 0, .int .i64 0, .int .i64 0, .int .i64 0, .int .i64 0, .int .i64 0, .slice none 0 0, .slice none 0 0, .int .i64 0] 44))
  go_upto_region 3 with (refine wpList_store36 (RBox.new _ _ _) rfl rfl rfl rfl rfl ?_; intro W0 R3 hk3)
  have RR0 := hide R3
  have CC0 := hide (C3.keep hk3 (by omega))
  have XX0 := hide (X3.keep hk3 (by omega))
  have SS0 := hide (ST3.touch hk3 (fun k q => by omega))
  generalize w2.heap.size = br at *
  clear C2 C3 X1 X3 ST2 ST3 R3 hk3
  have F := fun w' h => readSlot_s p a c l s w' h
  generalize hq1 : slotM l s = q1 at F
  obtain ⟨⟨n1a, n1b⟩, s1⟩ := q1
  simp only at F
  have F := hide F
  have HQ1 := hide hq1
  clear hq1
  have m0 := (XX0.out.get 0 _ rfl).1
  have m1 := (XX0.out.get 1 _ rfl).1
  have m2 := (XX0.out.get 2 _ rfl).1
  have m3 := (XX0.out.get 3 _ rfl).1
  have m4 := (XX0.out.get 4 _ rfl).1
  have m5 := (XX0.out.get 5 _ rfl).1
  go_wp2_with fail
  refine (F.out _ SS0.out.rd).mono ?_
  rintro e w11 ⟨rfl, r⟩
  have ss := SS0.out.next r
  have cc := CC0.out.keep r.keep (SS0.out.ne (Nat.le_refl _))
  have xx := XX0.out.keep r.keep (SS0.out.ne (by omega))
  have rr := RR0.out.keep r.keep (SS0.out.ne (by omega))
  have SS1 := hide ss
  have CC1 := hide cc
  have XX1 := hide xx
  have RR1 := hide rr
  clear ss cc xx rr r F SS0 CC0 XX0 RR0 m0 m1 m2 m3 m4 m5
  have F := fun w' h => readSlot_s p a c l s1 w' h
  generalize hq2 : slotM l s1 = q2 at F
  obtain ⟨⟨n2a, n2b⟩, s2⟩ := q2
  simp only at F
  have F := hide F
  have HQ2 := hide hq2
  clear hq2
  have m0 := (XX1.out.get 0 _ rfl).1
  have m1 := (XX1.out.get 1 _ rfl).1
  have m2 := (XX1.out.get 2 _ rfl).1
  have m3 := (XX1.out.get 3 _ rfl).1
  have m4 := (XX1.out.get 4 _ rfl).1
  have m5 := (XX1.out.get 5 _ rfl).1
  go_wp2_with fail
  refine (F.out _ SS1.out.rd).mono ?_
  rintro e w12 ⟨rfl, r⟩
  have ss := SS1.out.next r
  have cc := CC1.out.keep r.keep (SS1.out.ne (Nat.le_refl _))
  have xx := XX1.out.keep r.keep (SS1.out.ne (by omega))
  have rr := RR1.out.keep r.keep (SS1.out.ne (by omega))
  have k4 := rr.cells.get 4 _ rfl
  obtain ⟨k4, z4⟩ := k4
  have k5 := rr.cells.get 5 _ rfl
  obtain ⟨k5, z5⟩ := k5
  have k6 := rr.cells.get 6 _ rfl
  obtain ⟨k6, z6⟩ := k6
  have k7 := rr.cells.get 7 _ rfl
  obtain ⟨k7, z7⟩ := k7
  have SS2 := hide ((((ss.store (b := br) (j := 4) (by omega) (.int .i64 n1a)).store (b := br) (j := 5) (by omega) (.int .i64 n1b)).store (b := br) (j := 6) (by omega) (.int .i64 n2a)).store (b := br) (j := 7) (by omega) (.int .i64 n2b))
  have CC2 := hide (cc.keep (((((Keep.refl (fun k => k = br) w12).setCell (fun _ => rfl) (.int .i64 n1a) (j := 4)).setCell (fun _ => rfl) (.int .i64 n1b) (j := 5)).setCell (fun _ => rfl) (.int .i64 n2a) (j := 6)).setCell (fun _ => rfl) (.int .i64 n2b) (j := 7)) (by omega))
  have XX2 := hide ((((xx.other (g := br) (j := 4) (y := .int .i64 n1a) (by omega)).other (g := br) (j := 5) (y := .int .i64 n1b) (by omega)).other (g := br) (j := 6) (y := .int .i64 n2a) (by omega)).other (g := br) (j := 7) (y := .int .i64 n2b) (by omega))
  have RR2 := ((((rr.setCell 4 (.int .i64 n1a)).setCell 5 (.int .i64 n1b)).setCell 6 (.int .i64 n2a)).setCell 7 (.int .i64 n2b))
  simp only [List.setIfInBounds_toArray, List.set_cons_zero, List.set_cons_succ] at RR2
  have RR2 := hide RR2
  clear ss cc xx rr r F SS1 CC1 XX1 RR1 m0 m1 m2 m3 m4 m5
  go_upto_region 9 with fail
  generalize hWn : ((((w12.setCell ⟨br, 4, none⟩ (.int .i64 n1a)).setCell ⟨br, 5, none⟩ (.int .i64 n1b)).setCell ⟨br, 6, none⟩ (.int .i64 n2a)).setCell ⟨br, 7, none⟩ (.int .i64 n2b)) = W2 at *
  clear hWn k4 z4 k5 z5 k6 z6 k7 z7
  have F := fun w' h => take_r p a c l s2 w' h
  generalize hq3 : takeM l s2 = q3 at F
  obtain ⟨n3, s3⟩ := q3
  simp only at F
  have F := hide F
  have HQ3 := hide hq3
  clear hq3
  have m0 := (XX2.out.get 0 _ rfl).1
  have m1 := (XX2.out.get 1 _ rfl).1
  have m2 := (XX2.out.get 2 _ rfl).1
  have m3 := (XX2.out.get 3 _ rfl).1
  have m4 := (XX2.out.get 4 _ rfl).1
  have m5 := (XX2.out.get 5 _ rfl).1
  go_wp2_with fail
  refine (F.out _ SS2.out.rd).mono ?_
  rintro e w13 ⟨rfl, r⟩
  have ss := SS2.out.next r
  have cc := CC2.out.keep r.keep (SS2.out.ne (Nat.le_refl _))
  have xx := XX2.out.keep r.keep (SS2.out.ne (by omega))
  have rr := RR2.out.keep r.keep (SS2.out.ne (by omega))
  have k9 := rr.cells.get 9 _ rfl
  obtain ⟨k9, z9⟩ := k9
  have SS3 := hide (ss.store (b := br) (j := 9) (by omega) (.int .i64 n3))
  have CC3 := hide (cc.keep ((Keep.refl (fun k => k = br) w13).setCell (fun _ => rfl) (.int .i64 n3) (j := 9)) (by omega))
  have XX3 := hide (xx.other (g := br) (j := 9) (y := .int .i64 n3) (by omega))
  have RR3 := (rr.setCell 9 (.int .i64 n3))
  simp only [List.setIfInBounds_toArray, List.set_cons_zero, List.set_cons_succ] at RR3
  have RR3 := hide RR3
  clear ss cc xx rr r F SS2 CC2 XX2 RR2 m0 m1 m2 m3 m4 m5
  go_upto_region 10 with fail
  generalize hWn : (w13.setCell ⟨br, 9, none⟩ (.int .i64 n3)) = W3 at *
  clear hWn k9 z9
  have F := fun w' h => take_r p a c l s3 w' h
  generalize hq4 : takeM l s3 = q4 at F
  obtain ⟨n4, s4⟩ := q4
  simp only at F
  have F := hide F
  have HQ4 := hide hq4
  clear hq4
  have m0 := (XX3.out.get 0 _ rfl).1
  have m1 := (XX3.out.get 1 _ rfl).1
  have m2 := (XX3.out.get 2 _ rfl).1
  have m3 := (XX3.out.get 3 _ rfl).1
  have m4 := (XX3.out.get 4 _ rfl).1
  have m5 := (XX3.out.get 5 _ rfl).1
  go_wp2_with fail
  refine (F.out _ SS3.out.rd).mono ?_
  rintro e w14 ⟨rfl, r⟩
  have ss := SS3.out.next r
  have cc := CC3.out.keep r.keep (SS3.out.ne (Nat.le_refl _))
  have xx := XX3.out.keep r.keep (SS3.out.ne (by omega))
  have rr := RR3.out.keep r.keep (SS3.out.ne (by omega))
  have k10 := rr.cells.get 10 _ rfl
  obtain ⟨k10, z10⟩ := k10
  have SS4 := hide (ss.store (b := br) (j := 10) (by omega) (.int .i64 n4))
  have CC4 := hide (cc.keep ((Keep.refl (fun k => k = br) w14).setCell (fun _ => rfl) (.int .i64 n4) (j := 10)) (by omega))
  have XX4 := hide (xx.other (g := br) (j := 10) (y := .int .i64 n4) (by omega))
  have RR4 := (rr.setCell 10 (.int .i64 n4))
  simp only [List.setIfInBounds_toArray, List.set_cons_zero, List.set_cons_succ] at RR4
  have RR4 := hide RR4
  clear ss cc xx rr r F SS3 CC3 XX3 RR3 m0 m1 m2 m3 m4 m5
  go_upto_region 12 with fail
  generalize hWn : (w14.setCell ⟨br, 10, none⟩ (.int .i64 n4)) = W4 at *
  clear hWn k10 z10
  have F := fun w' h => readS_r p a c l s4 w' h
  generalize hq5 : signM l s4 = q5 at F
  obtain ⟨n5, s5⟩ := q5
  simp only at F
  have F := hide F
  have HQ5 := hide hq5
  clear hq5
  have m0 := (XX4.out.get 0 _ rfl).1
  have m1 := (XX4.out.get 1 _ rfl).1
  have m2 := (XX4.out.get 2 _ rfl).1
  have m3 := (XX4.out.get 3 _ rfl).1
  have m4 := (XX4.out.get 4 _ rfl).1
  have m5 := (XX4.out.get 5 _ rfl).1
  go_wp2_with fail
  refine (F.out _ SS4.out.rd).mono ?_
  rintro e w15 ⟨rfl, r⟩
  have ss := SS4.out.next r
  have cc := CC4.out.keep r.keep (SS4.out.ne (Nat.le_refl _))
  have xx := XX4.out.keep r.keep (SS4.out.ne (by omega))
  have rr := RR4.out.keep r.keep (SS4.out.ne (by omega))
  have SS5 := hide ss
  have CC5 := hide cc
  have XX5 := hide xx
  have RR5 := hide rr
  clear ss cc xx rr r F SS4 CC4 XX4 RR4 m0 m1 m2 m3 m4 m5
  have F := fun w' h => readS_r p a c l s5 w' h
  generalize hq6 : signM l s5 = q6 at F
  obtain ⟨n6, s6⟩ := q6
  simp only at F
  have F := hide F
  have HQ6 := hide hq6
  clear hq6
  have m0 := (XX5.out.get 0 _ rfl).1
  have m1 := (XX5.out.get 1 _ rfl).1
  have m2 := (XX5.out.get 2 _ rfl).1
  have m3 := (XX5.out.get 3 _ rfl).1
  have m4 := (XX5.out.get 4 _ rfl).1
  have m5 := (XX5.out.get 5 _ rfl).1
  go_wp2_with fail
  refine (F.out _ SS5.out.rd).mono ?_
  rintro e w16 ⟨rfl, r⟩
  have ss := SS5.out.next r
  have cc := CC5.out.keep r.keep (SS5.out.ne (Nat.le_refl _))
  have xx := XX5.out.keep r.keep (SS5.out.ne (by omega))
  have rr := RR5.out.keep r.keep (SS5.out.ne (by omega))
  have k11 := rr.cells.get 11 _ rfl
  obtain ⟨k11, z11⟩ := k11
  have k12 := rr.cells.get 12 _ rfl
  obtain ⟨k12, z12⟩ := k12
  have SS6 := hide ((ss.store (b := br) (j := 11) (by omega) (.int .i64 n5)).store (b := br) (j := 12) (by omega) (.int .i64 n6))
  have CC6 := hide (cc.keep (((Keep.refl (fun k => k = br) w16).setCell (fun _ => rfl) (.int .i64 n5) (j := 11)).setCell (fun _ => rfl) (.int .i64 n6) (j := 12)) (by omega))
  have XX6 := hide ((xx.other (g := br) (j := 11) (y := .int .i64 n5) (by omega)).other (g := br) (j := 12) (y := .int .i64 n6) (by omega))
  have RR6 := ((rr.setCell 11 (.int .i64 n5)).setCell 12 (.int .i64 n6))
  simp only [List.setIfInBounds_toArray, List.set_cons_zero, List.set_cons_succ] at RR6
  have RR6 := hide RR6
  clear ss cc xx rr r F SS5 CC5 XX5 RR5 m0 m1 m2 m3 m4 m5
  go_upto_region 13 with fail
  generalize hWn : ((w16.setCell ⟨br, 11, none⟩ (.int .i64 n5)).setCell ⟨br, 12, none⟩ (.int .i64 n6)) = W6 at *
  clear hWn k11 z11 k12 z12
  have F := fun w' h => readS_r p a c l s6 w' h
  generalize hq7 : signM l s6 = q7 at F
  obtain ⟨n7, s7⟩ := q7
  simp only at F
  have F := hide F
  have HQ7 := hide hq7
  clear hq7
  have m0 := (XX6.out.get 0 _ rfl).1
  have m1 := (XX6.out.get 1 _ rfl).1
  have m2 := (XX6.out.get 2 _ rfl).1
  have m3 := (XX6.out.get 3 _ rfl).1
  have m4 := (XX6.out.get 4 _ rfl).1
  have m5 := (XX6.out.get 5 _ rfl).1
  go_wp2_with fail
  refine (F.out _ SS6.out.rd).mono ?_
  rintro e w17 ⟨rfl, r⟩
  have ss := SS6.out.next r
  have cc := CC6.out.keep r.keep (SS6.out.ne (Nat.le_refl _))
  have xx := XX6.out.keep r.keep (SS6.out.ne (by omega))
  have rr := RR6.out.keep r.keep (SS6.out.ne (by omega))
  have k13 := rr.cells.get 13 _ rfl
  obtain ⟨k13, z13⟩ := k13
  have SS7 := hide (ss.store (b := br) (j := 13) (by omega) (.int .i64 n7))
  have CC7 := hide (cc.keep ((Keep.refl (fun k => k = br) w17).setCell (fun _ => rfl) (.int .i64 n7) (j := 13)) (by omega))
  have XX7 := hide (xx.other (g := br) (j := 13) (y := .int .i64 n7) (by omega))
  have RR7 := (rr.setCell 13 (.int .i64 n7))
  simp only [List.setIfInBounds_toArray, List.set_cons_zero, List.set_cons_succ] at RR7
  have RR7 := hide RR7
  clear ss cc xx rr r F SS6 CC6 XX6 RR6 m0 m1 m2 m3 m4 m5
  go_upto_region 14 with fail
  generalize hWn : (w17.setCell ⟨br, 13, none⟩ (.int .i64 n7)) = W7 at *
  clear hWn k13 z13
  have m0 := (XX7.out.get 0 _ rfl).1
  have m1 := (XX7.out.get 1 _ rfl).1
  have m2 := (XX7.out.get 2 _ rfl).1
  have m3 := (XX7.out.get 3 _ rfl).1
  have m4 := (XX7.out.get 4 _ rfl).1
  have m5 := (XX7.out.get 5 _ rfl).1
  go_upto_region 18 with fail
  go_wp2_with (first | refine wpList_load36 RR7.out rfl rfl ?_ | (refine wpList_store36 CC7.out rfl rfl rfl rfl rfl ?_; intro wf hbf hkf))
  have ee := HRR.out
  simp only [HQ1.out, HQ2.out, HQ3.out, HQ4.out, HQ5.out, HQ6.out, HQ7.out] at ee
  subst ee
  exact bodyPost_ret (results_box rfl _ _ rfl hbf rfl) rfl ⟨_, rfl, SS7.out.touch hkf (fun k q => by omega), none, none, 0, 0, rfl, World.ownsRow_nil _ _ _ _, World.ownsRow_nil _ _ _ _, nofun⟩

end Go.Proofs.YtgpmghdoofcpaaaGreat
