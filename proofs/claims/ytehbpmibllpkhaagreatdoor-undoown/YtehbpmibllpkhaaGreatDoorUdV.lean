import Derived.Test.YtehbpmibllpkhaaGreatDoorUdTa
set_option linter.all false
namespace Go.Proofs.YtehbpmibllpkhaaGreatDoor
open Go.RowKit Go.QK Go.Maps Go.QM Go.QU
set_option maxRecDepth 100000
theorem info4z : (Tryz.prog.info? 4).map (fun i => (i.zero, i.size, i.bytes)) = some (some (.bool false), 1, 1) := by kernel_rfl
theorem made_ints (n : Nat) : (madeCells (Value.cells (.int .i64 0)) (n * 1)).toList = intsV (List.replicate n 0) := by
  simp only [madeCells, Value.cells, intsV, Nat.mul_one]
  apply List.ext_getElem
  · simp
  · intro i _ _
    simp [Nat.mod_one]
theorem made_bools (n : Nat) : (madeCells (Value.cells (.bool false)) (n * 1)).toList = boolsV (List.replicate n false) := by
  simp only [madeCells, Value.cells, boolsV, Nat.mul_one]
  apply List.ext_getElem
  · simp
  · intro i _ _
    simp [Nat.mod_one]
/-- 'make([]int64, 200)'. -/
theorem make72 (w : World) : ∃ w1, (Instr.makeSlice 72 (.int .i64 200) (.int .i64 200)).run Tryz.prog w = .ok (.slice (some ⟨w.heap.size, 0, none⟩) 200 200) w1 ∧
    GRow w1 w.heap.size 2 1 (.slice (some ⟨w.heap.size, 0, none⟩) 200 200) 200 (intsV (List.replicate 200 0)) ∧ Below w.heap.size w w1 := by
  obtain ⟨i0, hi, hz0, hz1, hz2⟩ := info_of info2z
  obtain ⟨w1, h1, h2, h3⟩ := run_makeSlice_full (P := Tryz.prog) (w := w) w.heap.size 72 2 i0 (.int .i64 0) 1 Tryz.underlying72 hi hz0 hz1 .i64 .i64 200 (by decide) (by rw [hz2]; decide) (by decide) (Nat.le_refl _)
  rw [made_ints] at h2
  exact ⟨w1, h1, h2, (Below.refl _ _).grown h3 (Nat.le_refl _) (by nofun)⟩
/-- 'make([]bool, 200)'. -/
theorem make131 (w : World) : ∃ w1, (Instr.makeSlice 131 (.int .i64 200) (.int .i64 200)).run Tryz.prog w = .ok (.slice (some ⟨w.heap.size, 0, none⟩) 200 200) w1 ∧
    GRow w1 w.heap.size 4 1 (.slice (some ⟨w.heap.size, 0, none⟩) 200 200) 200 (boolsV (List.replicate 200 false)) ∧ Below w.heap.size w w1 := by
  obtain ⟨i0, hi, hz0, hz1, hz2⟩ := info_of info4z
  obtain ⟨w1, h1, h2, h3⟩ := run_makeSlice_full (P := Tryz.prog) (w := w) w.heap.size 131 4 i0 (.bool false) 1 Tryz.underlying131 hi hz0 hz1 .i64 .i64 200 (by decide) (by rw [hz2]; decide) (by decide) (Nat.le_refl _)
  rw [made_bools] at h2
  exact ⟨w1, h1, h2, (Below.refl _ _).grown h3 (Nat.le_refl _) (by nofun)⟩
theorem fill133 (x : OpM) : Instr.fill (fun i => some (i * 5, 5)) ((Array.range (1 * 5)).map ((Value.agg #[.int .i64 0, .int .i64 0, .bool false, .slice none 0 0, .slice none 0 0]).cells[· % (Value.agg #[.int .i64 0, .int .i64 0, .bool false, .slice none 0 0, .slice none 0 0]).cells.size]!)) [(0, .agg (opA x))] = some (opA x) := by kernel_rfl
theorem wp_b71 {o : Oper} {a : Act} {w : World} {K : Act → World → Prop} {Q : Exit → Act → World → Prop} {y : Operand} {x : OpM} (ho : o.op = .buildSlice 71 1 #[(0, y)]) (hx : a.eval y = .agg (opA x))
    (h : K (a.put o.dst (.slice (some ⟨w.heap.size, 0, none⟩) 1 1)) (w.alloc (.cells (opA x) 133))) : o.wp Tryz.prog a w K Q := by
  obtain ⟨i0, hi, h0, h2, h3⟩ := info_of info133
  refine wp_buildSlice 71 133 1 #[(0, y)] ho (opA x) i0 _ Tryz.underlying71 hi h0 (by rw [h2]; decide) (by rw [h2]; decide) ?_ h
  rw [h2]
  simp only [List.map_toArray, List.map_cons, List.map_nil, hx]
  exact fill133 x
structure SomeB (e : Ending) : Prop where
  ex : ∃ b, e = .returned (.bool b)
/-- What a deed leaves. -/
structure Bnd (s s' : SV) : Prop where
  r : s'.R.length ≤ s.R.length + 70
  p : s'.P.length ≤ s.P.length + 1
  v : s'.V.length ≤ 20
  len : Len s'
section
variable {w w' : World} {B sb : Nat} {s : SV} {S : Nat → Prop}
/-- One that lives is laid behind the others. -/
theorem Sty.pushV (h : Sty w B sb s) {w1 : World} {v' : Value} {o : OpM} (g1 : GRow w1 B 133 5 v' (s.V ++ [o]).length (rowsC opC (s.V ++ [o]))) (k : Keep (fun z => s.vV.ownBlock = some z) w w1) (ho : OpOk w B s.vS o) : Sty (w1.setCell ⟨sb, 5, none⟩ v') B sb { s with vV := v', V := s.V ++ [o] } :=
  h.setV g1 k (fun q hq => by
    have t := ofty_row h.v
    rcases List.mem_append.1 hq with z | z
    · exact (h.op q z).keepT k t (by decide) (by decide)
    · rw [List.mem_singleton] at z
      subst z
      exact ho.keepT k t (by decide) (by decide))
/-- The next transaction's number. -/
theorem Sty.setNext (h : Sty w B sb s) (z : Int) : Sty (w.setCell ⟨sb, 6, none⟩ (.int .i64 z)) B sb { s with next := z } := by
  have k : Keep (fun y => y = sb) w (w.setCell ⟨sb, 6, none⟩ (.int .i64 z)) := (Keep.refl (fun y => y = sb) w).setCell (g := sb) (j := 6) (fun _ => rfl) _
  have t := ofty_box h.box
  exact ⟨RBox.setCell h.box 6 _, h.hb, h.r.keepT k t (by decide), h.l.keepT k t (by decide), h.g.keepT k t (by decide), h.i.keepT k t (by decide), h.v.keepT k t (by decide), h.ss.keepT k t (by decide), fun o ho => (h.op o ho).keepT k t (by decide) (by decide), h.pg, h.rok, h.pok⟩
/-- Nets and holds of one that lives, and what is settled, lie so. -/
theorem Sty.netsAt (h : Sty w B sb s) {t : Nat} (ht : t < s.V.length) : ∃ gN cN gH cH, s.V[t].nv = .slice (some ⟨gN, 0, none⟩) 200 cN ∧ s.V[t].hv = .slice (some ⟨gH, 0, none⟩) 200 cH ∧ (∃ cur, w.heap[gN]? = some (.cells cur 2 (0, 0))) ∧ (∃ cur, w.heap[gH]? = some (.cells cur 4 (0, 0))) ∧ (s.vS.ownBlock ≠ some gN) ∧ B ≤ gN ∧ B ≤ gH ∧
    (∀ i, i < 200 → ∃ z, I64 z ∧ w.cell? ⟨gN, i, none⟩ = some (.int .i64 z)) ∧ (∀ i, i < 200 → ∃ b, w.cell? ⟨gH, i, none⟩ = some (.bool b)) ∧ (∀ i, w.frozen? ⟨gN, i, none⟩ = false) ∧ (∀ i, w.frozen? ⟨gH, i, none⟩ = false) := by
  have o := h.op _ (List.getElem_mem ht)
  obtain ⟨xs, hx, hr⟩ := o.n
  obtain ⟨bs, hy, hs⟩ := o.h
  obtain ⟨gN, cN, eN, -⟩ := grow_open hr (by decide)
  obtain ⟨gH, cH, eH, -⟩ := grow_open hs (by decide)
  refine ⟨gN, cN, gH, cH, eN, eH, grow_ty hr (by rw [eN]; rfl), grow_ty hs (by rw [eH]; rfl), o.ap gN (by rw [eN]; rfl), (World.ownsRow.lt hr gN (by rw [eN]; rfl)).1, (World.ownsRow.lt hs gH (by rw [eH]; rfl)).1, fun i hi => ?_, fun i hi => ?_, fun i => ?_, fun i => ?_⟩
  · rw [eN] at hr
    obtain ⟨_, _, e1, li, -⟩ := GRow.lies hr
    cases e1
    have hi2 : i < xs.length := by rw [hx.1]; exact hi
    obtain ⟨b, off, e2, hb, hc⟩ := li.cellAt i (.int .i64 xs[i]) (by simp [hi2])
    cases e2
    rw [Nat.zero_add] at hc
    exact ⟨xs[i], hx.2 _ (List.getElem_mem hi2), hc⟩
  · rw [eH] at hs
    obtain ⟨_, _, e1, li, -⟩ := GRow.lies hs
    cases e1
    have hi2 : i < bs.length := by rw [hy]; exact hi
    obtain ⟨b, off, e2, hb, hc⟩ := li.cellAt i (.bool bs[i]) (by simp [hi2])
    cases e2
    rw [Nat.zero_add] at hc
    exact ⟨bs[i], hc⟩
  · rw [eN] at hr
    exact World.ownsRow.frozenAt hr i
  · rw [eH] at hs
    exact World.ownsRow.frozenAt hs i
theorem Sty.setAt (h : Sty w B sb s) {i : Nat} (hi : i < s.S.length) : ∃ gS cS, s.vS = .slice (some ⟨gS, 0, none⟩) s.S.length cS ∧ B ≤ gS ∧ (∃ cur, w.heap[gS]? = some (.cells cur 2 (0, 0))) ∧ w.cell? ⟨gS, i, none⟩ = some (.int .i64 s.S[i]) ∧ w.frozen? ⟨gS, i, none⟩ = false := by
  obtain ⟨g, c, e, -⟩ := grow_open h.ss (by omega)
  have hv := h.ss
  rw [e] at hv
  refine ⟨g, c, e, (World.ownsRow.lt hv g rfl).1, grow_ty hv rfl, ?_, World.ownsRow.frozenAt hv i⟩
  obtain ⟨_, _, e1, li, -⟩ := GRow.lies hv
  cases e1
  obtain ⟨b, off, e2, hb, hc⟩ := li.cellAt i (.int .i64 s.S[i]) (by simp [hi])
  cases e2
  rw [Nat.zero_add] at hc
  exact hc
end
theorem i64_0 : I64 0 := by unfold I64; omega
theorem wrap_i64 (z : Int) : I64 (wrap64 z) := by unfold I64 wrap64; omega
theorem wrap_i64' (z : Int) : I64 (IntKind.i64.wrap z) := by rw [IntKind.wrap_i64]; unfold I64; omega
theorem cutAt_le {α : Type} (l : List α) (t : Nat) : (cutAt l t).length ≤ l.length := by
  unfold cutAt
  rw [List.length_append, List.length_take, List.length_drop]
  omega
/-! Within a deed. -/
theorem At4.wrote {w0 w w' : World} {B sb X0 : Nat} {A0 : Array Value} {s s' : SV} (h : At4 w0 w B sb X0 A0 s) (hB : B ≤ w0.heap.size) (h3 : Sty w' B sb s') (k3 : Keep (fun j => j = sb ∨ s.vR.ownBlock = some j) w w') : At4 w0 w' B sb X0 A0 s' :=
  ⟨h3, RBox.keep h.dd k3 (fun q => q.elim (box_ne h.dd h.st.box (by decide)) (box_row h.dd h.st.r (by decide))), bkeep h.bw k3 hB (fun j hj => by
    rcases hj with q | q
    · rw [q]; exact h.st.hb
    · exact (World.ownsRow.lt h.st.r j q).1), Nat.le_trans h.up k3.size⟩
theorem At4.set {w0 w : World} {B sb X0 g j : Nat} {t : TypeId} {A0 : Array Value} {s s' : SV} {v : Value} (h : At4 w0 w B sb X0 A0 s) (hB : B ≤ w0.heap.size) (hg : B ≤ g) (ht : ∃ cur, w.heap[g]? = some (.cells cur t (0, 0))) (ne : 102 ≠ t) (h3 : Sty (w.setCell ⟨g, j, none⟩ v) B sb s') : At4 w0 (w.setCell ⟨g, j, none⟩ v) B sb X0 A0 s' := by
  have k : Keep (fun z => z = g) w (w.setCell ⟨g, j, none⟩ v) := (Keep.refl (fun z => z = g) w).setCell (g := g) (j := j) (fun _ => rfl) v
  exact ⟨h3, RBox.keepT h.dd k (fun y _ e => by subst e; exact ht) ne, bkeep h.bw k hB (fun y e => by rw [e]; exact hg), Nat.le_trans h.up k.size⟩
structure NX (w : World) (sb : Nat) (v : Value) : Prop where
  bx : ∃ A : Array Value, RBox w sb 74 A ∧ A.toList[6]? = some v
section
variable {w w' : World} {sb : Nat} {v : Value}
theorem NX.q6 (h : NX w sb v) : w.cell? ⟨sb, 6, none⟩ = some v := by
  obtain ⟨A, b, e⟩ := h.bx
  exact ((RBox.cells b).get 6 _ e).1
theorem NX.below (h : NX w sb v) (hk : Below w.heap.size w w') : NX w' sb v := by
  obtain ⟨A, b, e⟩ := h.bx
  exact ⟨A, RBox.below b hk, e⟩
theorem NX.keepT {S : Nat → Prop} {t : TypeId} (h : NX w sb v) (k : Keep S w w') (hS : OfTy w t S) (n : 74 ≠ t) : NX w' sb v := by
  obtain ⟨A, b, e⟩ := h.bx
  exact ⟨A, RBox.keepT b k hS n, e⟩
theorem NX.set {j : Nat} {u : Value} (h : NX w sb v) (hj : j ≠ 6) : NX (w.setCell ⟨sb, j, none⟩ u) sb v := by
  obtain ⟨A, b, e⟩ := h.bx
  refine ⟨_, RBox.setCell b j u, ?_⟩
  rw [← e]
  simp [hj]
end
/-- Within a deed of one that lives. -/
structure At8 (w0 w : World) (B sb X0 : Nat) (A0 : Array Value) (s : SV) (X8 gV : Nat) (op : OpM) (t nV cV gN cN gH cH : Nat) : Prop where
  a : At4 w0 w B sb X0 A0 s
  o : RBox w X8 133 (opA op)
  ne : X8 ≠ gV
  vv : s.vV = .slice (some ⟨gV, 0, none⟩) nV cV
  nv : nV = s.V.length
  tl : t < nV
  nets : ∀ (h : t < s.V.length), s.V[t].nv = op.nv ∧ s.V[t].hv = op.hv
  en : op.nv = .slice (some ⟨gN, 0, none⟩) 200 cN
  eh : op.hv = .slice (some ⟨gH, 0, none⟩) 200 cH
section
variable {w0 w w' : World} {B sb X0 : Nat} {A0 : Array Value} {s : SV} {X8 gV : Nat} {op : OpM} {t nV cV gN cN gH cH : Nat}
theorem At8.lt (h : At8 w0 w B sb X0 A0 s X8 gV op t nV cV gN cN gH cH) : t < s.V.length := by have := h.nv; have := h.tl; omega
theorem At8.below (h : At8 w0 w B sb X0 A0 s X8 gV op t nV cV gN cN gH cH) (hk : Below w.heap.size w w') (hB : B ≤ w0.heap.size) : At8 w0 w' B sb X0 A0 s X8 gV op t nV cV gN cN gH cH :=
  ⟨h.a.below hk (Nat.le_trans hB h.a.up), RBox.below h.o hk, h.ne, h.vv, h.nv, h.tl, h.nets, h.en, h.eh⟩
theorem At8.row (h : At8 w0 w B sb X0 A0 s X8 gV op t nV cV gN cN gH cH) : GRow w B 133 5 (.slice (some ⟨gV, 0, none⟩) nV cV) nV (rowsC opC s.V) := by
  have := h.a.st.v
  rw [h.vv, ← h.nv] at this
  exact this
theorem At8.q5 (h : At8 w0 w B sb X0 A0 s X8 gV op t nV cV gN cN gH cH) : w.cell? ⟨sb, 5, none⟩ = some (.slice (some ⟨gV, 0, none⟩) nV cV) := by
  have q := ((RBox.cells h.a.st.box).get 5 _ rfl).1
  rw [h.vv] at q
  exact q
/-- A cell of the one that lives. -/
theorem At8.cellV (h : At8 w0 w B sb X0 A0 s X8 gV op t nV cV gN cN gH cH) {j : Nat} {v : Value} (e : (opA (s.V[t]'h.lt)).toList[j]? = some v) : w.cell? ⟨gV, t * 5 + j, none⟩ = some v ∧ w.frozen? ⟨gV, t * 5 + j, none⟩ = false := by
  obtain ⟨g, c, e1, q⟩ := h.a.st.openAt h.lt
  rw [h.vv] at e1
  injection e1 with i1 i2 i3
  cases i1
  exact ⟨q w (Below.refl _ _) j v e, World.ownsRow.frozenAt h.row _⟩
theorem At8.wrote {s' : SV} (h : At8 w0 w B sb X0 A0 s X8 gV op t nV cV gN cN gH cH) (hB : B ≤ w0.heap.size) (h3 : Sty w' B sb s') (k3 : Keep (fun j => j = sb ∨ s.vR.ownBlock = some j) w w') (eV : s'.vV = s.vV) (eV2 : s'.V = s.V) : At8 w0 w' B sb X0 A0 s' X8 gV op t nV cV gN cN gH cH :=
  ⟨h.a.wrote hB h3 k3, RBox.keep h.o k3 (fun q => q.elim (box_ne h.o h.a.st.box (by decide)) (box_row h.o h.a.st.r (by decide))), h.ne, by rw [eV]; exact h.vv, by rw [eV2]; exact h.nv, h.tl, by
    intro q
    have q2 : t < s.V.length := by rw [← eV2]; exact q
    have e : s'.V[t] = s.V[t] := by simp only [eV2]
    rw [e]
    exact h.nets q2, h.en, h.eh⟩
theorem At8.setOpen (h : At8 w0 w B sb X0 A0 s X8 gV op t nV cV gN cN gH cH) (hB : B ≤ w0.heap.size) {j : Nat} {u : Value} {o' : OpM} (e : (opC (s.V[t]'h.lt)).set j u = opC o') (hj : j < 5) (hn : o'.nv = (s.V[t]'h.lt).nv) (hh : o'.hv = (s.V[t]'h.lt).hv) : At8 w0 (w.setCell ⟨gV, t * 5 + j, none⟩ u) B sb X0 A0 { s with V := s.V.set t o' } X8 gV op t nV cV gN cN gH cH := by
  have st := h.a.st.setOpen (g := gV) (c := cV) (t := t) h.lt (by rw [h.vv, h.nv]) e hj hn hh
  have tg := grow_ty h.row (g := gV) rfl
  have k : Keep (fun z => z = gV) w (w.setCell ⟨gV, t * 5 + j, none⟩ u) := (Keep.refl (fun z => z = gV) w).setCell (g := gV) (j := t * 5 + j) (fun _ => rfl) u
  refine ⟨h.a.set hB (World.ownsRow.lt h.row gV rfl).1 tg (by decide) st, RBox.keep h.o k h.ne, h.ne, h.vv, by rw [h.nv]; simp, h.tl, ?_, h.en, h.eh⟩
  intro q
  have n := h.nets h.lt
  show (s.V.set t o')[t].nv = _ ∧ (s.V.set t o')[t].hv = _
  rw [List.getElem_set_self]
  exact ⟨hn.trans n.1, hh.trans n.2⟩
theorem At8.reads (h : At8 w0 w B sb X0 A0 s X8 gV op t nV cV gN cN gH cH) : (∃ cur, w.heap[gN]? = some (.cells cur 2 (0, 0))) ∧ (∃ cur, w.heap[gH]? = some (.cells cur 4 (0, 0))) ∧ s.vS.ownBlock ≠ some gN ∧ B ≤ gN ∧ B ≤ gH ∧
    (∀ i, i < 200 → ∃ z, I64 z ∧ w.cell? ⟨gN, i, none⟩ = some (.int .i64 z)) ∧ (∀ i, i < 200 → ∃ b, w.cell? ⟨gH, i, none⟩ = some (.bool b)) ∧ (∀ i, w.frozen? ⟨gN, i, none⟩ = false) ∧ (∀ i, w.frozen? ⟨gH, i, none⟩ = false) := by
  obtain ⟨gN', cN', gH', cH', e1, e2, r⟩ := h.a.st.netsAt h.lt
  have n := h.nets h.lt
  rw [n.1, h.en] at e1
  rw [n.2, h.eh] at e2
  cases e1
  cases e2
  exact r
theorem At8.setInt (h : At8 w0 w B sb X0 A0 s X8 gV op t nV cV gN cN gH cH) (hB : B ≤ w0.heap.size) {g i : Nat} (hg : B ≤ g) (ht : ∃ cur, w.heap[g]? = some (.cells cur 2 (0, 0))) (z : Int) (iz : I64 z) : ∃ l' : List Int, l'.length = s.S.length ∧ At8 w0 (w.setCell ⟨g, i, none⟩ (.int .i64 z)) B sb X0 A0 { s with S := l' } X8 gV op t nV cV gN cN gH cH := by
  obtain ⟨l', e, st⟩ := h.a.st.setNet (g := g) (j := i) ht z iz
  have k : Keep (fun y => y = g) w (w.setCell ⟨g, i, none⟩ (.int .i64 z)) := (Keep.refl (fun y => y = g) w).setCell (g := g) (j := i) (fun _ => rfl) _
  exact ⟨l', e, h.a.set hB hg ht (by decide) st, RBox.keepT h.o k (fun y _ e => by subst e; exact ht) (by decide), h.ne, h.vv, h.nv, h.tl, h.nets, h.en, h.eh⟩
theorem At8.setBool (h : At8 w0 w B sb X0 A0 s X8 gV op t nV cV gN cN gH cH) (hB : B ≤ w0.heap.size) {g i : Nat} (hg : B ≤ g) (ht : ∃ cur, w.heap[g]? = some (.cells cur 4 (0, 0))) (z : Bool) : At8 w0 (w.setCell ⟨g, i, none⟩ (.bool z)) B sb X0 A0 s X8 gV op t nV cV gN cN gH cH := by
  have st := h.a.st.setHold (g := g) (j := i) ht z
  have k : Keep (fun y => y = g) w (w.setCell ⟨g, i, none⟩ (.bool z)) := (Keep.refl (fun y => y = g) w).setCell (g := g) (j := i) (fun _ => rfl) _
  exact ⟨h.a.set hB hg ht (by decide) st, RBox.keepT h.o k (fun y _ e => by subst e; exact ht) (by decide), h.ne, h.vv, h.nv, h.tl, h.nets, h.en, h.eh⟩
theorem At8.changed {s' : SV} (h : At8 w0 w B sb X0 A0 s X8 gV op t nV cV gN cN gH cH) (hB : B ≤ w0.heap.size) (h3 : Sty w' B sb s') (k3 : Keep (fun j => j = sb ∨ s.vR.ownBlock = some j ∨ s.vV.ownBlock = some j) w w') (eV : s'.vV = s.vV) (el : s'.V.length = s.V.length) (en : ∀ (h1 : t < s.V.length) (h2 : t < s'.V.length), s'.V[t].nv = s.V[t].nv ∧ s'.V[t].hv = s.V[t].hv) : At8 w0 w' B sb X0 A0 s' X8 gV op t nV cV gN cN gH cH := by
  have a := h.a
  have hb : ∀ j, (j = sb ∨ s.vR.ownBlock = some j ∨ s.vV.ownBlock = some j) → B ≤ j := fun j hj => by
    rcases hj with q | q | q
    · rw [q]; exact a.st.hb
    · exact (World.ownsRow.lt a.st.r j q).1
    · exact (World.ownsRow.lt a.st.v j q).1
  refine ⟨⟨h3, RBox.keep a.dd k3 (fun q => ?_), bkeep a.bw k3 hB hb, Nat.le_trans a.up k3.size⟩, RBox.keep h.o k3 (fun q => ?_), h.ne, by rw [eV]; exact h.vv, by rw [el]; exact h.nv, h.tl, fun q => ?_, h.en, h.eh⟩
  · rcases q with q | q | q
    · exact box_ne a.dd a.st.box (by decide) q
    · exact box_row a.dd a.st.r (by decide) q
    · exact box_row a.dd a.st.v (by decide) q
  · rcases q with q | q | q
    · exact box_ne h.o a.st.box (by decide) q
    · exact box_row h.o a.st.r (by decide) q
    · rw [h.vv] at q
      cases q
      exact h.ne rfl
  · have e := en h.lt q
    have n := h.nets h.lt
    exact ⟨e.1.trans n.1, e.2.trans n.2⟩
end
end Go.Proofs.YtehbpmibllpkhaaGreatDoor
