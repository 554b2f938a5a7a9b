import Derived.Test.YtblngphjoafidaaGreatTx1
namespace Go.Proofs.YtblngphjoafidaaGreat
open Go.RowKit Go.QK Go.Maps Go.QM Go.QT
set_option maxRecDepth 100000
theorem wp_upd {o : Oper} {a : Act} {x x' : World} {K : Act → World → Prop} {Q : Exit → Act → World → Prop} {cond : Bool} {t : TypeId} {v u y : Value} (s r z : Operand) (hc : cond = true)
    (ho : o.op = .mapUpdate t s r z) (hs : a.eval s = v) (hr : a.eval r = u) (hz : a.eval z = y) (hrun : (Instr.mapUpdate t v u y).run Tryz.prog x = .ok () x')
    (h : K (a.put o.dst undef) x') : if cond = true then Oper.wp Tryz.prog o a x K Q else K (a.put o.dst undef) x := by
  rw [if_pos hc]
  unfold Oper.wp
  simp [execOp, ho, hs, hr, hz, hrun, Result.andThen]
  rw [Oper.upon_skip]
  exact h
theorem wp_del {o : Oper} {a : Act} {x x' : World} {K : Act → World → Prop} {Q : Exit → Act → World → Prop} {cond : Bool} {t k : TypeId} {v u : Value} (s r : Operand) (hc : cond = true)
    (ho : o.op = .call { callee := .builtin .delete, args := #[s, r], argTypes := #[t, k] }) (hs : a.eval s = v) (hr : a.eval r = u) (hrun : (Builtin.delete_ #[t, k] o.type #[v, u]).run Tryz.prog x = .ok (.tuple #[]) x')
    (h : K (a.put o.dst (.tuple #[])) x') : if cond = true then Oper.wp Tryz.prog o a x K Q else K (a.put o.dst undef) x := by
  rw [if_pos hc]
  unfold Oper.wp
  simp [execOp, ho, resolve, invoke, builtin, hs, hr, hrun, Result.andThen]
  rw [Oper.upon_value]
  exact h
theorem any_upd {P : Program} {t k e : TypeId} (K : Keyed P k) (ht : P.underlying t = some (.map k e)) {w : World} {m : Nat} {L : Prs Value} (h : AnyAt P k w m L) (hu : Up L) {x : Int} (hk : keyOf P k (.int .i64 x) = some (.int .i64 x)) (hl : L.length < 4000000000) (v : Value) :
    ∃ w', (Instr.mapUpdate t (.map (some m)) (.int .i64 x) v).run P w = .ok () w' ∧ AnyAt P k w' m (putM x v L) ∧ w.grownBy w' (some m) := by
  obtain ⟨w', h1, h2, h3⟩ := World.ownsMap.update h K ht (by unfold maxLen; omega) hk (show anyElem v = some (.held v, []) from rfl)
  exact ⟨w', h1, AnyAt.put hu h2, h3⟩
theorem any_del {P : Program} {t k e : TypeId} (K : Keyed P k) (ht : P.underlying t = some (.map k e)) {w : World} {m : Nat} {L : Prs Value} (h : AnyAt P k w m L) {x : Int} (hk : keyOf P k (.int .i64 x) = some (.int .i64 x)) (ty : TypeId) :
    ∃ w', (Builtin.delete_ #[t, k] ty #[.map (some m), .int .i64 x]).run P w = .ok (.tuple #[]) w' ∧ AnyAt P k w' m (delM L x) ∧ w.grownBy w' (some m) := by
  obtain ⟨w', h1, h2, h3⟩ := World.ownsMap.drop h K ht hk ty
  exact ⟨w', h1, AnyAt.del h2, h3.grown⟩
theorem ok_i64 {t : TbM} (h : t.Ok) : I64 t.next := by have := h.n1; have := h.n2; unfold I64; omega
/-- One more has begun: the map and the number are written. -/
theorem PT.begun {w w1 w2 : World} {b m : Nat} {t : TbM} (h : PT w b m t) {lsn : Int} (hA : AnyAt Tryz.prog 3 w1 m (putM t.next (lvV ⟨t.next, lsn, false, false⟩) (prT t.L))) (hg : w.grownBy w1 (some m)) (hw : w2 = w1.setCell ⟨b, 1, none⟩ (.int .i64 (t.next + 1))) (h1 : isLsn lsn = true) (h2 : t.full = false) :
    PT w2 b m (t.begun lsn) ∧ Keep (fun z => z = b ∨ z = m) w w2 := by
  have hk := keepM hg
  have hb1 := h.box.keep hk h.ne
  have k2 : Keep (fun z => z = b) w1 w2 := by rw [hw]; exact (Keep.refl (fun z => z = b) w1).setCell (g := b) (j := 1) (fun _ => rfl) _
  refine ⟨⟨?_, ?_, h.ok.begun h1 h2⟩, ?_⟩
  · have := hb1.stored (j := 1) (by simp) (.int .i64 (t.next + 1))
    rw [← hw] at this
    exact this
  · rw [putM_snoc (v := ⟨t.next, lsn, false, false⟩) (fun x hx => (h.ok.each x hx).tx2)] at hA
    exact anyAt_keep hA k2 (fun q => h.ne q.symm)
  · exact (hk.mono (fun _ _ q => .inr q)).trans k2 (fun _ _ q => .inl q)
set_option maxHeartbeats 1000000 in
theorem begin_any (b m : Nat) (t : TbM) (lsn : Int) (w : World) (h : PT w b m t) (h1 : isLsn lsn = true) (h2 : t.full = false) : Calls Tryz.prog 85 #[ptr b, .int .i64 lsn] w fun r w' => r = .returned (.int .i64 t.next) ∧ PT w' b m (t.begun lsn) ∧ Keep (fun z => z = b ∨ z = m) w w' := by
  obtain ⟨k0, -⟩ := h.box.get 0 _ rfl
  obtain ⟨k1, -⟩ := h.box.get 1 _ rfl
  obtain ⟨w1, hr, hA, hg⟩ := any_upd lawK Tryz.underlying96 h.mp (prT_up h.ok.rise) (keyI (ok_i64 h.ok)) (by rw [prT_len]; have := h.ok.few; omega) (lvV ⟨t.next, lsn, false, false⟩)
  have hr : (Instr.mapUpdate 96 (.map (some m)) (.int .i64 t.next) (.agg #[.int .i64 t.next, .int .i64 lsn, .bool false, .bool false])).run Tryz.prog w = .ok () w1 := hr
  have hb1 := h.box.keep (keepM hg) h.ne
  obtain ⟨j1, f1⟩ := hb1.get 1 _ rfl
  have FIN := hide (fun w2 (hw : w2 = w1.setCell ⟨b, 1, none⟩ (.int .i64 (t.next + 1))) => h.begun hA hg hw h1 h2)
  have hw1 : wrap64 (t.next + 1) = t.next + 1 := wrapI (by have := h.ok.n1; have := h.ok.n2; unfold I64; omega)
  clear h hA hg hb1
  go_enter Tryz.func85, Tryz.ntmps85
  go_wp2
  go_ret
  exact ⟨rfl, FIN.out _ rfl⟩
def getV (L : List Lv) (k : Int) : Value := ((getT L k).map lvV).getD (lvV ⟨0, 0, false, false⟩)
def getE (L : List Lv) (k : Int) : Int := if (getT L k).isSome then 0 else 130
structure RecA (rc : Array Value) (lsn k tx prev : Int) : Prop where
  sz : rc.size = 17
  c0 : rc[0]? = some (.int .i64 lsn)
  c1 : rc[1]? = some (.int .i64 k)
  c2 : rc[2]? = some (.int .i64 tx)
  c3 : rc[3]? = some (.int .i64 prev)
  i2 : I64 tx
theorem RecA.box {rc : Array Value} {lsn k tx prev : Int} (h : RecA rc lsn k tx prev) {w : World} {b : Nat} (hb : RBox w b 55 rc) : w.cell? ⟨b, 0, none⟩ = some (.int .i64 lsn) ∧ w.cell? ⟨b, 1, none⟩ = some (.int .i64 k) ∧ w.cell? ⟨b, 2, none⟩ = some (.int .i64 tx) ∧ w.cell? ⟨b, 3, none⟩ = some (.int .i64 prev) := by
  have e := fun j => cell_of_row w b j rc 55 (0, 0) hb
  rw [e 0, e 1, e 2, e 3]
  exact ⟨h.c0, h.c1, h.c2, h.c3⟩
theorem size51 : (Tryz.prog.info? 55).map (·.size) = some 17 := by kernel_rfl
theorem size51' {cs : Array Value} (h : cs.size = 17) : (Tryz.prog.info? 55).map (·.size) = some cs.size := by rw [h]; exact size51
section
variable {ops : Array Oper} {rest : List Oper} {a : Act} {w : World} {Q : Exit → Act → World → Prop} {d : Option Tmp} {ty : TypeId} {ps : String} {af : Array Edge} {x y : Operand} {b : Nat} {cs cs' : Array Value}
theorem wpList_load51 (hb : RBox w b 55 cs) (hs : cs.size = 17) (hx : a.eval x = .pointer (some ⟨b, 0, none⟩)) (h : wpList Tryz.prog ops Q rest (a.put d (.agg cs)) w) :
    wpList Tryz.prog ops Q ({ dst := d, op := .load 55 x, type := ty, pos := ps, after := af, guard := none } :: rest) a w :=
  wpList_load_row rfl 55 x rfl b hx 55 cs (0, 0) _ hb Tryz.underlying55 rfl (size51' hs) h
end
set_option maxHeartbeats 1000000 in
theorem never_any (p : Value) (rc : Array Value) (w : World) : Calls Tryz.prog 63 #[p, .agg rc] w fun r w' => r = .returned (.int .i64 0) ∧ Below w.heap.size w w' := by
  go_enter Tryz.func63, Tryz.ntmps63
  go_wp2
  go_ret
  exact ⟨rfl, alloc_below _ _⟩
set_option maxHeartbeats 1000000 in
theorem nothing_any (p : Value) (rc : Array Value) (w : World) : Calls Tryz.prog 64 #[p, .agg rc] w fun r w' => r = .returned (.tuple #[]) ∧ Below w.heap.size w w' := by
  go_enter Tryz.func64, Tryz.ntmps64
  go_wp2
  go_end0
  exact ⟨rfl, alloc_below _ _⟩
end Go.Proofs.YtblngphjoafidaaGreat
