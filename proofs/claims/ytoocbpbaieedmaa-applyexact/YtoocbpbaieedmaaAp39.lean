import Derived.Test.YtoocbpbaieedmaaAp38
import Derived.Test.YtoocbpbaieedmaaAp34
import Derived.Test.YtoocbpbaieedmaaAp13
import Derived.Test.YtoocbpbaieedmaaAp18
namespace Go.Proofs.Ytoocbpbaieedmaa
open Go.RowKit Go.QK Quota
set_option maxRecDepth 100000
structure OpX where
  r : Rc
  too : Bool
  p : Pg
  t : At
abbrev opL (o : OpX) : List Value := [.int .i64 o.r.lsn, .int .i64 o.r.k, .int .i64 o.r.tx, .int .i64 o.r.prev, .int .i64 o.r.wp, .int .i64 o.r.wi, .int .i64 o.r.sp, .int .i64 o.r.si, .int .i64 o.r.delta, .int .i64 o.r.c.id, .int .i64 o.r.c.grp, .int .i64 o.r.c.lo, .int .i64 o.r.c.hi, .int .i64 o.r.c.val, o.r.x, o.r.y, o.r.z, .bool o.too, .int .i64 o.p.num, .int .i64 o.p.lsn, .slice o.t.a o.p.cs.length o.t.c, .slice o.t.b o.p.gs.length o.t.d]
structure OpX.Ok (w : World) (o : OpX) : Prop where
  fit : o.r.Fit
  one : Rc.One o.r
  num : o.p.Num
  in_ : PIn w o.p o.t
theorem opl_rec (o : OpX) (j : Nat) (v : Value) (h : (recA o.r).toList[j]? = some v) : (opL o)[j]? = some v := by
  have e : opL o = (recA o.r).toList ++ [.bool o.too, .int .i64 o.p.num, .int .i64 o.p.lsn, .slice o.t.a o.p.cs.length o.t.c, .slice o.t.b o.p.gs.length o.t.d] := rfl
  rw [e]
  obtain ⟨hi, _⟩ := List.getElem?_eq_some_iff.1 h
  rw [List.getElem?_append_left hi]
  exact h
theorem opl_one (o : OpX) (h : Rc.One o.r) : (opL o).all (·.oneCell') = true := by
  have e : opL o = (recA o.r).toList ++ [.bool o.too, .int .i64 o.p.num, .int .i64 o.p.lsn, .slice o.t.a o.p.cs.length o.t.c, .slice o.t.b o.p.gs.length o.t.d] := rfl
  rw [e, List.all_append, show (recA o.r).toList.all (·.oneCell') = true from h]
  rfl
theorem size64 : (Try.prog.info? 64).map (·.size) = some 22 := by kernel_rfl
theorem size64' {cs : Array Value} (h : cs.size = 22) : (Try.prog.info? 64).map (·.size) = some cs.size := by rw [h]; exact size64
section
variable {ops : Array Oper} {rest : List Oper} {a : Act} {w : World} {Q : Exit → Act → World → Prop} {d : Option Tmp} {ty : TypeId} {ps : String} {af : Array Edge} {x y : Operand} {b off : Nat} {cs cs' : Array Value}
theorem wpList_load64 (hc : ∀ j v, cs.toList[j]? = some v → w.cell? ⟨b, off + j, none⟩ = some v) (hs : cs.size = 22) (hx : a.eval x = .pointer (some ⟨b, off, none⟩)) (h : wpList Try.prog ops Q rest (a.put d (.agg cs)) w) :
    wpList Try.prog ops Q ({ dst := d, op := .load 64 x, type := ty, pos := ps, after := af, guard := none } :: rest) a w := by
  have hrun := run_loadAt w b off 64 cs _ hc Try.underlying64 rfl (size64' hs)
  refine wpList_plain rfl fun K hK => ?_
  unfold Oper.wp execOp
  simp only [hx, Instr.loadAt, Instr.sureAddr, Sem.run_bind, Sem.run_pure, Result.andThen_ok, hrun]
  exact hK _ _ h
theorem wpList_ld38of (hc : ∀ j v, cs.toList[j]? = some v → w.cell? ⟨b, off + j, none⟩ = some v) (hs : cs.size = 17) (hx : a.eval x = .pointer (some ⟨b, off, none⟩)) (h : wpList Try.prog ops Q rest (a.put d (.agg cs)) w) :
    wpList Try.prog ops Q ({ dst := d, op := .load 38 x, type := ty, pos := ps, after := af, guard := none } :: rest) a w := by
  have hrun := run_loadAt w b off 38 cs _ hc Try.underlying38 rfl (size38' hs)
  refine wpList_plain rfl fun K hK => ?_
  unfold Oper.wp execOp
  simp only [hx, Instr.loadAt, Instr.sureAddr, Sem.run_bind, Sem.run_pure, Result.andThen_ok, hrun]
  exact hK _ _ h
theorem wpList_store64 (hb : RBox w b 64 cs) (hs : cs.size = 22) (hs' : cs'.size = 22) (h1 : cs'.toList.all (·.oneCell') = true) (hx : a.eval x = .pointer (some ⟨b, 0, none⟩)) (hy : a.eval y = .agg cs')
    (h : ∀ w', RBox w' b 64 cs' → Keep (fun k => k = b) w w' → wpList Try.prog ops Q rest (a.put d undef) w') :
    wpList Try.prog ops Q ({ dst := d, op := .store 64 x y, type := ty, pos := ps, after := af, guard := none } :: rest) a w := by
  have hrun := run_storeVar_row (P := Try.prog) w b 64 64 cs cs' hb (size64' hs') (by rw [hs, hs']) (by rw [← Array.all_toList]; exact h1)
  refine wpList_plain rfl fun K hK => ?_
  unfold Oper.wp execOp
  simp only [hx, hy, Instr.storeAt, Instr.sureAddr, Sem.run_bind, Sem.run_pure, Result.andThen_ok, hrun]
  exact hK _ _ (h _ (RBox.setRow hb cs') (keep_setRow _ _ _))
end
/-- The page at hand. -/
abbrev pgC (p : Pg) (t : At) : List Value := [.int .i64 p.num, .int .i64 p.lsn, .slice t.a p.cs.length t.c, .slice t.b p.gs.length t.d]
structure Now (w : World) (S : Nat → Prop) (nw : Nat) (p : Pg) (t : At) : Prop where
  box : Cells w nw (pgC p t)
  in_ : PIn w p t
  fit : p.Fit
  ns : ¬ S nw
  out : ∀ ad : Addr, (t.a = some ad ∨ t.b = some ad) → ¬ S ad.block ∧ ad.block ≠ nw
theorem Now.below {w w' : World} {S : Nat → Prop} {nw : Nat} {p : Pg} {t : At} (h : Now w S nw p t) (hb : Below w.heap.size w w') : Now w' S nw p t := ⟨h.box.below hb, h.in_.below hb, h.fit, h.ns, h.out⟩
/-- A page is stored in the variable. -/
theorem Now.stored {w : World} {S : Nat → Prop} {nw : Nat} {p q : Pg} {t u : At} (h : Now w S nw p t) (hin : PIn w q u) (hf : q.Fit) (ho : ∀ ad : Addr, (u.a = some ad ∨ u.b = some ad) → ¬ S ad.block ∧ ad.block ≠ nw) :
    Now ((((w.setCell ⟨nw, 0, none⟩ (.int .i64 q.num)).setCell ⟨nw, 1, none⟩ (.int .i64 q.lsn)).setCell ⟨nw, 2, none⟩ (.slice u.a q.cs.length u.c)).setCell ⟨nw, 3, none⟩ (.slice u.b q.gs.length u.d)) S nw q u ∧
    Keep (fun k => k = nw) w ((((w.setCell ⟨nw, 0, none⟩ (.int .i64 q.num)).setCell ⟨nw, 1, none⟩ (.int .i64 q.lsn)).setCell ⟨nw, 2, none⟩ (.slice u.a q.cs.length u.c)).setCell ⟨nw, 3, none⟩ (.slice u.b q.gs.length u.d)) := by
  have kk : Keep (fun k => k = nw) w ((((w.setCell ⟨nw, 0, none⟩ (.int .i64 q.num)).setCell ⟨nw, 1, none⟩ (.int .i64 q.lsn)).setCell ⟨nw, 2, none⟩ (.slice u.a q.cs.length u.c)).setCell ⟨nw, 3, none⟩ (.slice u.b q.gs.length u.d)) :=
    ((((Keep.refl (fun k => k = nw) w).setCell (g := nw) (j := 0) (fun _ => rfl) _).setCell (g := nw) (j := 1) (fun _ => rfl) _).setCell (g := nw) (j := 2) (fun _ => rfl) _).setCell (g := nw) (j := 3) (fun _ => rfl) _
  refine ⟨⟨?_, ⟨hin.lc.keep kk (fun ad q => (ho ad (.inl q)).2), hin.lg.keep kk (fun ad q => (ho ad (.inr q)).2), hin.nc, hin.ng, hin.cc, hin.cg⟩, hf, h.ns, ho⟩, kk⟩
  have := (((h.box.stored (j := 0) (by simp) (.int .i64 q.num)).stored (j := 1) (by simp) (.int .i64 q.lsn)).stored (j := 2) (by simp) (.slice u.a q.cs.length u.c)).stored (j := 3) (by simp) (.slice u.b q.gs.length u.d)
  exact this
/-- Behind 'does' the page at hand stands, with the book's new blocks. -/
theorem Now.next {w w' : World} {S S' : Nat → Prop} {nw : Nat} {p : Pg} {t : At} (h : Now w S nw p t) (hk : Keep S w w') (hs : ∀ k, k < w.heap.size → S' k → S k) (hlt : ∀ ad : Addr, (t.a = some ad ∨ t.b = some ad) → ad.block < w.heap.size) : Now w' S' nw p t :=
  ⟨h.box.keep hk h.ns, ⟨h.in_.lc.keep hk (fun ad q => (h.out ad (.inl q)).1), h.in_.lg.keep hk (fun ad q => (h.out ad (.inr q)).1), h.in_.nc, h.in_.ng, h.in_.cc, h.in_.cg⟩, h.fit, fun z => h.ns (hs nw h.box.1 z), fun ad q => ⟨fun z => (h.out ad q).1 (hs ad.block (hlt ad q) z), (h.out ad q).2⟩⟩
theorem BK.start {w : World} {b : Nat} (h : Cells w b [.slice none 0 0, .slice none 0 0, .slice none 0 0, .slice none 0 0, .slice none 0 0, .slice none 0 0]) : BK w (fun k => k = b) b [.slice none 0 0, .slice none 0 0, .slice none 0 0, .slice none 0 0, .slice none 0 0, .slice none 0 0] [[], [], [], [], [], []] 0 := by
  have hv : ∀ (j : Nat) (v : Value), [Value.slice none 0 0, .slice none 0 0, .slice none 0 0, .slice none 0 0, .slice none 0 0, .slice none 0 0][j]? = some v → v = .slice none 0 0 := by
    intro j v hj
    have := List.mem_of_getElem? hj
    simp at this
    exact this
  have hR : ∀ (j : Nat) (R : List Value), [([] : List Value), [], [], [], [], []][j]? = some R → R = [] := by
    intro j R hj
    have := List.mem_of_getElem? hj
    simp at this
    exact this
  refine ⟨fun k q => by rw [q]; exact h.1, rfl, h, rfl, rfl, fun j v R h1 h2 => ?_, fun j v g h1 h2 => ?_, fun i j v u g _ h1 _ h3 => ?_, fun j R k lv hk => by omega⟩
  · rw [hv j v h1, hR j R h2]
    exact World.ownsRow_nil _ _ _ _
  · rw [hv j v h1] at h2
    cases h2
  · rw [hv i v h1] at h3
    cases h3
end Go.Proofs.Ytoocbpbaieedmaa
