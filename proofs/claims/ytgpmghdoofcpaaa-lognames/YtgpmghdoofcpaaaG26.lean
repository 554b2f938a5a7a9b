import Derived.Test.YtgpmghdoofcpaaaDec2
import Derived.Deep.WholeRow
namespace Go.QK
open Go.RowKit

/-- A whole variable lies at block b. -/
def RBox (w : World) (b : Nat) (t : TypeId) (cs : Array Value) : Prop := w.heap[b]? = some (.cells cs t)
section
variable {w w' : World} {b : Nat} {t : TypeId} {cs : Array Value} {S : Nat → Prop}
theorem RBox.lt (h : RBox w b t cs) : b < w.heap.size := (Array.getElem?_eq_some_iff.1 h).1
theorem RBox.keep (h : RBox w b t cs) (hk : Keep S w w') (hn : ¬ S b) : RBox w' b t cs := (hk.block b h.lt hn).trans h
theorem RBox.below (h : RBox w b t cs) (hk : Below w.heap.size w w') : RBox w' b t cs := (hk.block b h.lt).trans h
theorem RBox.new (w : World) (cs : Array Value) (t : TypeId) : RBox (w.alloc (.cells cs t)) w.heap.size t cs := heap_alloc_last w _
theorem RBox.cells (h : RBox w b t cs) : Cells w b cs.toList := by
  refine ⟨h.lt, fun j hj => ⟨?_, ?_⟩⟩
  · rw [cell_of_row w b j _ t (0, 0) h]
    simp at hj
    simp [hj]
  · have h' : w.heap[b]? = some (.cells cs t (0, 0)) := h
    simp [World.frozen?, h']
theorem RBox.setCell (h : RBox w b t cs) (j : Nat) (v : Value) : RBox (w.setCell ⟨b, j, none⟩ v) b t (cs.setIfInBounds j v) := by
  have h' : w.heap[b]? = some (.cells cs t (0, 0)) := h
  unfold RBox
  simp [World.setCell, Array.getElem?_modify, h']
theorem RBox.setRow (h : RBox w b t cs) (cs' : Array Value) : RBox (w.setRow b cs') b t cs' := by
  have h' : w.heap[b]? = some (.cells cs t (0, 0)) := h
  unfold RBox
  simp [World.setRow, Array.getElem?_modify, h']
theorem keep_setRow (w : World) (b : Nat) (cs' : Array Value) : Keep (fun k => k = b) w (w.setRow b cs') := by
  refine ⟨rfl, rfl, rfl, by simp [World.setRow], fun k hk hn => ?_⟩
  have : ¬ b = k := fun q => hn q.symm
  simp [World.setRow, Array.getElem?_modify, this]
end
end Go.QK
namespace Go.Proofs.Ytgpmghdoofcpaaa
open Go.RowKit Go.QK

set_option maxRecDepth 100000
theorem size36 : (Try.prog.info? 48).map (·.size) = some 17 := by kernel_rfl
theorem size36' {cs : Array Value} (h : cs.size = 17) : (Try.prog.info? 48).map (·.size) = some cs.size := by rw [h]; exact size36
variable {ops : Array Oper} {rest : List Oper} {a : Act} {w : World} {Q : Exit → Act → World → Prop} {d : Option Tmp} {ty : TypeId} {ps : String} {af : Array Edge} {x y : Operand} {b : Nat} {cs cs' : Array Value}
theorem wpList_load36 (hb : RBox w b 48 cs) (hs : cs.size = 17) (hx : a.eval x = .pointer (some ⟨b, 0, none⟩)) (h : wpList Try.prog ops Q rest (a.put d (.agg cs)) w) :
    wpList Try.prog ops Q ({ dst := d, op := .load 48 x, type := ty, pos := ps, after := af, guard := none } :: rest) a w :=
  wpList_load_row rfl 48 x rfl b hx 48 cs (0, 0) _ hb Try.underlying48 rfl (size36' hs) h
theorem wpList_store36 (hb : RBox w b 48 cs) (hs : cs.size = 17) (hs' : cs'.size = 17) (h1 : cs'.toList.all (·.oneCell') = true) (hx : a.eval x = .pointer (some ⟨b, 0, none⟩)) (hy : a.eval y = .agg cs')
    (h : ∀ w', RBox w' b 48 cs' → Keep (fun k => k = b) w w' → wpList Try.prog ops Q rest (a.put d undef) w') :
    wpList Try.prog ops Q ({ dst := d, op := .store 48 x y, type := ty, pos := ps, after := af, guard := none } :: rest) a w := by
  have hrun := run_storeVar_row (P := Try.prog) w b 48 48 cs cs' hb (size36' hs') (by rw [hs, hs']) (by rw [← Array.all_toList]; exact h1)
  refine wpList_plain rfl fun K hK => ?_
  unfold Oper.wp execOp
  simp only [hx, hy, Instr.storeAt, Instr.sureAddr, Sem.run_bind, Sem.run_pure, Result.andThen_ok, hrun]
  exact hK _ _ (h _ (RBox.setRow hb cs') (keep_setRow _ _ _))
theorem results_box {fn : Func} {p : Tmp} (h : fn.results = #[.cell p 48]) (tmps : Array Value) (w : World) {b : Nat} {cs : Array Value} (hp : tmps.getD p undef = .pointer (some ⟨b, 0, none⟩)) (hb : RBox w b 48 cs) (hs : cs.size = 17) :
    (results fn tmps).run Try.prog w = .ok (.agg cs) w :=
  results_cell_row h tmps w b 48 cs (0, 0) _ hp hb Try.underlying48 rfl (size36' hs)
theorem results_box2 {fn : Func} {p q : Tmp} (h : fn.results = #[.cell p 48, .tmp q]) (tmps : Array Value) (w : World) {b : Nat} {cs : Array Value} (hp : tmps.getD p undef = .pointer (some ⟨b, 0, none⟩)) (hb : RBox w b 48 cs) (hs : cs.size = 17) :
    (results fn tmps).run Try.prog w = .ok (.tuple #[.agg cs, tmps.getD q undef]) w := by
  have hp' : tmps[p]?.getD undef = .pointer (some ⟨b, 0, none⟩) := by simpa using hp
  simp [results, h, hp', asAddr, run_loadVar_row w b 48 48 cs (0, 0) _ hb Try.underlying48 rfl (size36' hs)]
end Go.Proofs.Ytgpmghdoofcpaaa

namespace Go.Proofs.Ytgpmghdoofcpaaa
open Go.RowKit Go.QK

/-- A record that was just read: its value, its rows. -/
def RecOut (B : Nat) (w' : World) (x : Value) (r : RecM) : Prop :=
  ∃ (la da : Option Addr) (lc dc : Nat), x = .agg (recC r la lc da dc) ∧ LRow w' B (.slice la r.live.length lc) r.live ∧ DRow w' B (.slice da r.dirty.length dc) r.dirty ∧ (∀ g, (Value.slice la r.live.length lc).ownBlock = some g → (Value.slice da r.dirty.length dc).ownBlock ≠ some g)
set_option maxRecDepth 100000
set_option maxHeartbeats 4000000 in
theorem read_pat1 (kn : Nat) (p : Nat) (a : Option Addr) (c : Nat) (l : List Nat) (s : RS) (w : World) (h : Rds w p a c l s) (hk1 : 1 ≤ kn) (hk8 : kn ≤ 8)
    (e1 : hTx kn = true) (e2 : hPrev kn = false) (e3 : hCtr kn = false) (e4 : hFirst kn = false) (e5 : hDelta kn = false) (e6 : hPts kn = false) :
    Calls Try.prog 63 #[.pointer (some ⟨p, 0, none⟩), .int .i64 kn] w fun x w' => ∃ v, x = .returned v ∧ RSt w p a c l w' (readM kn l s).2 ∧ RecOut w.heap.size w' v (readM kn l s).1 := by
  have g0 := fun w => fieldsOf_any kn (by omega) (by omega) w
  simp only [hasC, e1, e2, e3, e4, e5, e6] at g0
  obtain ⟨RR, hRR⟩ : ∃ q, q = readM kn l s := ⟨_, rfl⟩
  rw [← hRR]
  simp only [readM, condM, e1, e2, e3, e4, e5, e6, bindM, pureM, cond_true, cond_false, zeroR] at hRR
  have HRR := hide hRR
  have st0 := (RSt.start h).below (alloc_below w (.cells #[.int .i64 0, .int .i64 0, .int .i64 0, .int .i64 0, .int .i64 0, .int .i64 0, .int .i64 0, .int .i64 0, .int .i64 0, .int .i64 0, .int .i64 0, .int .i64 0, .int .i64 0, .int .i64 0, .slice none 0 0, .slice none 0 0, .int .i64 0] 48))
  have C0 := RBox.new w #[.int .i64 0, .int .i64 0, .int .i64 0, .int .i64 0, .int .i64 0, .int .i64 0, .int .i64 0, .int .i64 0, .int .i64 0, .int .i64 0, .int .i64 0, .int .i64 0, .int .i64 0, .int .i64 0, .slice none 0 0, .slice none 0 0, .int .i64 0] 48
  generalize hw0 : w.alloc (.cells #[.int .i64 0, .int .i64 0, .int .i64 0, .int .i64 0, .int .i64 0, .int .i64 0, .int .i64 0, .int .i64 0, .int .i64 0, .int .i64 0, .int .i64 0, .int .i64 0, .int .i64 0, .int .i64 0, .slice none 0 0, .slice none 0 0, .int .i64 0] 48) = w0 at *
  have ST0 := hide st0
  clear st0 h e1 e2 e3 e4 e5 e6 hRR
  go_enter Try.func63, Try.ntmps63
  go_wp2_with fail
  refine (g0 _).mono ?_
  rintro e w1 ⟨rfl, b1⟩
  have ST1 := ST0.out.below b1
  have C1 := C0.below b1
  have X1 := Cells.new w1 #[.bool true, .bool false, .bool false, .bool false, .bool false, .bool false] 112
  have ST2 := ST1.below (alloc_below w1 (.cells #[.bool true, .bool false, .bool false, .bool false, .bool false, .bool false] 112))
  have C2 := C1.below (alloc_below w1 (.cells #[.bool true, .bool false, .bool false, .bool false, .bool false, .bool false] 112))
  have lt1 := C1.lt
  have le1 := ST1.size
  generalize hw2 : w1.alloc (.cells #[.bool true, .bool false, .bool false, .bool false, .bool false, .bool false] 112) = w2 at *
  have HW2 := hide hw2
  have ST2 := hide ST2
  clear hw2 hw0 ST1 C1 C0 b1 ST0 g0
  go_upto_region 2 with fail
  rw [HW2.out]
  generalize w1.heap.size = bx at *
  clear HW2
  have lt2 := X1.1
  have C3 := C2.below (alloc_below w2 (.cells #[.int .i64 0, .int .i64 0, .int .i64 0, .int .i64 0, .int .i64 0, .int .i64 0, .int .i64 0, .int .i64 0, .int .i64 0, .int .i64 0, .int .i64 0, .int .i64 0, .int .i64 0, .int .i64 0, .slice none 0 0, .slice none 0 0, .int .i64 0] 48))
  have X3 := X1.below (alloc_below w2 (.cells #[.int .i64 0, .int .i64 0, .int .i64 0, .int .i64 0, .int .i64 0, .int .i64 0, .int .i64 0, .int .i64 0, .int .i64 0, .int .i64 0, .int .i64 0, .int .i64 0, .int .i64 0, .int .i64 0, .slice none 0 0, .slice none 0 0, .int .i64 0] 48))
  have ST3 := ST2.out.below (alloc_below w2 (.cells #[.int .i64 0, .int .i64 0, .int .i64 0, .int .i64 0, .int .i64 0, .int .i64 0, .int .i64 0, .int .i64 0, .int .i64 0, .int .i64 0, .int .i64 0, .int .i64 0, .int .i64 0, .int .i64 0, .slice none 0 0, .slice none 0 0, .int .i64 0] 48))
  go_upto_region 3 with (refine wpList_store36 (RBox.new _ _ _) rfl rfl rfl rfl rfl ?_; intro W0 R3 hk3)
  have RR0 := hide R3
  have CC0 := hide (C3.keep hk3 (by omega))
  have XX0 := hide (X3.keep hk3 (by omega))
  have SS0 := hide (ST3.touch hk3 (fun k q => by omega))
  generalize w2.heap.size = br at *
  clear C2 C3 X1 X3 ST2 ST3 R3 hk3
  have F := fun w' h => take_r p a c l s w' h
  generalize hq1 : takeM l s = q1 at F
  obtain ⟨n1, s1⟩ := q1
  simp only at F
  have F := hide F
  have HQ1 := hide hq1
  clear hq1
  have m0 := (XX0.out.get 0 _ rfl).1
  have m1 := (XX0.out.get 1 _ rfl).1
  have m2 := (XX0.out.get 2 _ rfl).1
  have m3 := (XX0.out.get 3 _ rfl).1
  have m4 := (XX0.out.get 4 _ rfl).1
  have m5 := (XX0.out.get 5 _ rfl).1
  go_wp2_with fail
  refine (F.out _ SS0.out.rd).mono ?_
  rintro e w11 ⟨rfl, r⟩
  have ss := SS0.out.next r
  have cc := CC0.out.keep r.keep (SS0.out.ne (Nat.le_refl _))
  have xx := XX0.out.keep r.keep (SS0.out.ne (by omega))
  have rr := RR0.out.keep r.keep (SS0.out.ne (by omega))
  have k2 := rr.cells.get 2 _ rfl
  obtain ⟨k2, z2⟩ := k2
  have SS1 := hide (ss.store (b := br) (j := 2) (by omega) (.int .i64 n1))
  have CC1 := hide (cc.keep ((Keep.refl (fun k => k = br) w11).setCell (fun _ => rfl) (.int .i64 n1) (j := 2)) (by omega))
  have XX1 := hide (xx.other (g := br) (j := 2) (y := .int .i64 n1) (by omega))
  have RR1 := (rr.setCell 2 (.int .i64 n1))
  simp only [List.setIfInBounds_toArray, List.set_cons_zero, List.set_cons_succ] at RR1
  have RR1 := hide RR1
  clear ss cc xx rr r F SS0 CC0 XX0 RR0 m0 m1 m2 m3 m4 m5
  go_upto_region 5 with fail
  generalize hWn : (w11.setCell ⟨br, 2, none⟩ (.int .i64 n1)) = W1 at *
  clear hWn k2 z2
  have m0 := (XX1.out.get 0 _ rfl).1
  have m1 := (XX1.out.get 1 _ rfl).1
  have m2 := (XX1.out.get 2 _ rfl).1
  have m3 := (XX1.out.get 3 _ rfl).1
  have m4 := (XX1.out.get 4 _ rfl).1
  have m5 := (XX1.out.get 5 _ rfl).1
  go_upto_region 18 with fail
  go_wp2_with (first | refine wpList_load36 RR1.out rfl rfl ?_ | (refine wpList_store36 CC1.out rfl rfl rfl rfl rfl ?_; intro wf hbf hkf))
  have ee := HRR.out
  simp only [HQ1.out] at ee
  subst ee
  exact bodyPost_ret (results_box rfl _ _ rfl hbf rfl) rfl ⟨_, rfl, SS1.out.touch hkf (fun k q => by omega), none, none, 0, 0, rfl, World.ownsRow_nil _ _ _ _, World.ownsRow_nil _ _ _ _, nofun⟩

end Go.Proofs.Ytgpmghdoofcpaaa
