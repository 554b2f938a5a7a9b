import Derived.Test.YtoocbpbaieedmaaAp4
import Derived.Test.YtoocbpbaieedmaaHold
namespace Go.Proofs.Ytoocbpbaieedmaa
open Go.RowKit Go.QK Quota
set_option maxRecDepth 100000
theorem run_loadAt (w : World) (b off : Nat) (ty : TypeId) (cs : Array Value) (d : TypeDesc) (hc : ∀ j v, cs.toList[j]? = some v → w.cell? ⟨b, off + j, none⟩ = some v) (hu : Try.prog.underlying ty = some d) (hd : (match d with | .struct _ | .array _ _ => true | _ => false) = true) (hi : (Try.prog.info? ty).map (·.size) = some cs.size) :
    (loadVar ty ⟨b, off, none⟩).run Try.prog w = .ok (.agg cs) w := by
  have hl : (loadCells ⟨b, off, none⟩ cs.toList.length).run Try.prog w = .ok cs.toList.toArray w :=
    run_loadCells_list (P := Try.prog) w ⟨b, off, none⟩ cs.toList (fun j v hv => by
      rw [addr_add]
      exact hc j v hv)
  cases hq : Try.prog.info? ty with
  | none => simp [hq] at hi
  | some i =>
    have hs : i.size = cs.size := by simpa [hq] using hi
    have hagg : (isAgg ty).run Try.prog w = .ok true w := by
      unfold isAgg
      rw [Sem.run_bind, run_underlying hu w]
      cases d <;> simp_all
    simp only [Array.length_toList, Array.toArray_toList] at hl
    simp [loadVar, Sem.run_bind, hagg, sizeOf, typeInfo, hq, hs, hl]
theorem exec_load38 {o : Oper} {ev : Operand → Value} {x : Operand} {b off : Nat} {cs : Array Value} {w : World} (ho : o.op = .load 38 x) (hx : ev x = .pointer (some ⟨b, off, none⟩)) (hc : ∀ j v, cs.toList[j]? = some v → w.cell? ⟨b, off + j, none⟩ = some v) (hs : cs.size = 17) : (execOp ev o).run Try.prog w = .ok (.value (.agg cs)) w := by
  have h := run_loadAt w b off 38 cs _ hc Try.underlying38 rfl (size38' hs)
  unfold execOp
  simp only [ho, hx, Instr.loadAt, Instr.sureAddr, Sem.run_bind, Sem.run_pure, Result.andThen_ok, h]
theorem rb_at {w : World} {b : Nat} {t : TypeId} {cs : Array Value} (h : RBox w b t cs) : ∀ j v, cs.toList[j]? = some v → w.cell? ⟨b, 0 + j, none⟩ = some v := fun j v hv => by
  rw [Nat.zero_add]
  exact (h.cells.get j v hv).1
/-- Rows with one cell changed. -/
theorem rowsC_set {α : Type} (f : α → List Value) (n : Nat) (hf : ∀ x, (f x).length = n) (ls : List α) (i j : Nat) (hj : j < n) (hi : i < ls.length) (u : Value) (y : α) (hy : f y = (f ls[i]).set j u) : (rowsC f ls).set (i * n + j) u = rowsC f (ls.set i y) := by
  induction ls generalizing i with
  | nil => simp at hi
  | cons l ls ih =>
    have hl := hf l
    cases i with
    | zero =>
      simp only [rowsC, List.flatMap_cons, Nat.zero_mul, Nat.zero_add, List.set_cons_zero]
      rw [List.set_append_left _ _ (by omega)]
      rw [hy]
      rfl
    | succ i =>
      simp only [rowsC, List.flatMap_cons, List.set_cons_succ]
      have e : (i + 1) * n + j = n + (i * n + j) := by rw [Nat.succ_mul]; omega
      rw [List.set_append_right _ _ (by omega), hl]
      have := ih i (by simpa using hi) (by simpa using hy)
      simp only [rowsC] at this
      rw [← this]
      congr 2
      omega
theorem rowsC_snoc {α : Type} (f : α → List Value) (ls : List α) (x : α) : rowsC f (ls ++ [x]) = rowsC f ls ++ f x := by simp [rowsC]
/-- A page variable of the program's own. -/
structure PQ (w : World) (B b : Nat) (v1 v2 : Value) (p : Pg) : Prop where
  cl : Cells w b [.int .i64 p.num, .int .i64 p.lsn, v1, v2]
  g1 : GRow w B 32 5 v1 p.cs.length (rowsC ctrC p.cs)
  g2 : GRow w B 69 2 v2 p.gs.length (rowsC grpC p.gs)
  ap : ∀ g, v1.ownBlock = some g → v2.ownBlock ≠ some g
  b1 : v1.ownBlock ≠ some b
  b2 : v2.ownBlock ≠ some b
  hB : B ≤ b
theorem PQ.keep {S : Nat → Prop} {w w' : World} {B b : Nat} {v1 v2 : Value} {p : Pg} (h : PQ w B b v1 v2 p) (hk : Keep S w w') (hb : ¬ S b) (h1 : ∀ g, v1.ownBlock = some g → ¬ S g) (h2 : ∀ g, v2.ownBlock = some g → ¬ S g) : PQ w' B b v1 v2 p :=
  ⟨h.cl.keep hk hb, GRow.keep h.g1 hk h1, GRow.keep h.g2 hk h2, h.ap, h.b1, h.b2, h.hB⟩
theorem PQ.below {w w' : World} {B b : Nat} {v1 v2 : Value} {p : Pg} (h : PQ w B b v1 v2 p) (hk : Below w.heap.size w w') : PQ w' B b v1 v2 p :=
  h.keep (Keep.of_below (S := fun _ => False) hk) id (fun _ _ => id) (fun _ _ => id)
theorem PQ.lt {w : World} {B b : Nat} {v1 v2 : Value} {p : Pg} (h : PQ w B b v1 v2 p) : b < w.heap.size := h.cl.1
theorem PQ.out {w : World} {B b : Nat} {v1 v2 : Value} {p : Pg} (h : PQ w B b v1 v2 p) : PgOut w B (.agg (pgA p.num p.lsn v1 v2)) p := ⟨v1, v2, rfl, h.g1, h.g2, h.ap⟩
theorem PQ.stL {w : World} {B b : Nat} {v1 v2 : Value} {p : Pg} (h : PQ w B b v1 v2 p) (n : Int) : PQ (w.setCell ⟨b, 1, none⟩ (.int .i64 n)) B b v1 v2 (setL p n) := by
  have K : Keep (fun k => k = b) w (w.setCell ⟨b, 1, none⟩ (.int .i64 n)) := (Keep.refl (fun k => k = b) w).setCell (g := b) (j := 1) (fun _ => rfl) _
  exact ⟨h.cl.stored (j := 1) (by simp) _, GRow.keep h.g1 K (fun g hg q => by subst q; exact h.b1 hg), GRow.keep h.g2 K (fun g hg q => by subst q; exact h.b2 hg), h.ap, h.b1, h.b2, h.hB⟩
theorem PQ.stV {w : World} {B b g c : Nat} {v2 : Value} {p : Pg} {i : Nat} (h : PQ w B b (.slice (some ⟨g, 0, none⟩) p.cs.length c) v2 p) (hi : i < p.cs.length) (m : Int) :
    PQ (w.setCell ⟨g, i * 5 + 4, none⟩ (.int .i64 m)) B b (.slice (some ⟨g, 0, none⟩) p.cs.length c) v2 ⟨p.num, p.lsn, putV p.cs (i : Int) m, p.gs⟩ ∧ Below B w (w.setCell ⟨g, i * 5 + 4, none⟩ (.int .i64 m)) := by
  have K : Keep (fun k => k = g) w (w.setCell ⟨g, i * 5 + 4, none⟩ (.int .i64 m)) := (Keep.refl (fun k => k = g) w).setCell (g := g) (j := i * 5 + 4) (fun _ => rfl) _
  have hg1 : B ≤ g := (World.ownsRow.lt h.g1 g rfl).1
  have hne : g ≠ b := fun e => h.b1 (by rw [← e]; rfl)
  have st := World.ownsRow.stored h.g1 (i * 5 + 4) (.int .i64 m)
  rw [rowsC_set ctrC 5 (fun _ => rfl) p.cs i 4 (by decide) hi (.int .i64 m) ⟨p.cs[i].id, p.cs[i].grp, p.cs[i].lo, p.cs[i].hi, m⟩ rfl] at st
  have e : (putV p.cs (i : Int) m) = p.cs.set i ⟨p.cs[i].id, p.cs[i].grp, p.cs[i].lo, p.cs[i].hi, m⟩ := by
    unfold putV
    rw [ctrAt_nat p.cs i hi, Int.toNat_natCast]
  refine ⟨⟨h.cl.keep K (fun q => hne q.symm), ?_, GRow.keep h.g2 K (fun k hk q => by subst q; exact h.ap k rfl hk), h.ap, h.b1, h.b2, h.hB⟩, K.below (Nat.le_trans h.hB (Nat.le_of_lt h.lt)) (fun k hk q => by omega)⟩
  show GRow _ B 32 5 _ (putV p.cs (i : Int) m).length (rowsC ctrC (putV p.cs (i : Int) m))
  rw [e, List.length_set]
  exact st.1
theorem PQ.stS {w : World} {B b g c : Nat} {v1 : Value} {p : Pg} {i : Nat} (h : PQ w B b v1 (.slice (some ⟨g, 0, none⟩) p.gs.length c) p) (hi : i < p.gs.length) (m : Int) :
    PQ (w.setCell ⟨g, i * 2 + 1, none⟩ (.int .i64 m)) B b v1 (.slice (some ⟨g, 0, none⟩) p.gs.length c) ⟨p.num, p.lsn, p.cs, putS p.gs (i : Int) m⟩ ∧ Below B w (w.setCell ⟨g, i * 2 + 1, none⟩ (.int .i64 m)) := by
  have K : Keep (fun k => k = g) w (w.setCell ⟨g, i * 2 + 1, none⟩ (.int .i64 m)) := (Keep.refl (fun k => k = g) w).setCell (g := g) (j := i * 2 + 1) (fun _ => rfl) _
  have hg1 : B ≤ g := (World.ownsRow.lt h.g2 g rfl).1
  have hne : g ≠ b := fun e => h.b2 (by rw [← e]; rfl)
  have st := World.ownsRow.stored h.g2 (i * 2 + 1) (.int .i64 m)
  rw [rowsC_set grpC 2 (fun _ => rfl) p.gs i 1 (by decide) hi (.int .i64 m) ⟨p.gs[i].id, m⟩ rfl] at st
  have e : (putS p.gs (i : Int) m) = p.gs.set i ⟨p.gs[i].id, m⟩ := by
    unfold putS
    rw [grpAt_nat p.gs i hi, Int.toNat_natCast]
  refine ⟨⟨h.cl.keep K (fun q => hne q.symm), GRow.keep h.g1 K (fun k hk q => by subst q; exact h.ap k hk rfl), ?_, h.ap, h.b1, h.b2, h.hB⟩, K.below (Nat.le_trans h.hB (Nat.le_of_lt h.lt)) (fun k hk q => by omega)⟩
  show GRow _ B 69 2 _ (putS p.gs (i : Int) m).length (rowsC grpC (putS p.gs (i : Int) m))
  rw [e, List.length_set]
  exact st.1
theorem PQ.pushC {w x x3 : World} {B b : Nat} {v1 v2 v3 : Value} {p : Pg} {c : Ctr} (h : PQ w B b v1 v2 p) (hb : Below w.heap.size w x) (hO : GRow x3 B 32 5 v3 (p.cs.length + 1) (rowsC ctrC p.cs ++ ctrC c)) (hg : x.grownBy x3 v1.ownBlock) (hn : v3.ownBlock = v1.ownBlock ∨ v3.ownBlock = some x.heap.size) :
    PQ (x3.setCell ⟨b, 2, none⟩ v3) B b v3 v2 ⟨p.num, p.lsn, p.cs ++ [c], p.gs⟩ ∧ Below B w (x3.setCell ⟨b, 2, none⟩ v3) := by
  have hx := h.below hb
  have hblt := h.lt
  have hs := hb.size
  have K1 : Keep (fun k => v1.ownBlock = some k) x x3 := (Keep.refl (fun k => v1.ownBlock = some k) x).grown hg (fun _ e _ => e)
  have c3 := hx.cl.keep K1 hx.b1
  have K2 : Keep (fun k => k = b) x3 (x3.setCell ⟨b, 2, none⟩ v3) := (Keep.refl (fun k => k = b) x3).setCell (g := b) (j := 2) (fun _ => rfl) _
  have nb : v3.ownBlock ≠ some b := by
    rcases hn with e | e
    · rw [e]; exact h.b1
    · rw [e]; intro q; cases q; omega
  have nap : ∀ g, v3.ownBlock = some g → v2.ownBlock ≠ some g := by
    intro g hg3 q
    rcases hn with e | e
    · rw [e] at hg3; exact h.ap g hg3 q
    · rw [e] at hg3; cases hg3
      have := (World.ownsRow.lt hx.g2 _ q).2
      omega
  have low : ∀ k, v1.ownBlock = some k → B ≤ k := fun k hk => (World.ownsRow.lt h.g1 k hk).1
  refine ⟨⟨c3.stored (j := 2) (by simp) v3, ?_, ?_, nap, nb, h.b2, h.hB⟩, ?_⟩
  · have := GRow.keep hO K2 (fun g hg q => by subst q; exact nb hg)
    show GRow _ B 32 5 v3 (p.cs ++ [c]).length (rowsC ctrC (p.cs ++ [c]))
    rw [rowsC_snoc, List.length_append]
    exact this
  · exact GRow.keep (GRow.keep hx.g2 K1 (fun g hg q => h.ap g q hg)) K2 (fun g hg q => by subst q; exact h.b2 hg)
  · have hBw : B ≤ w.heap.size := Nat.le_trans h.hB (Nat.le_of_lt hblt)
    exact (hb.mono hBw).trans ((K1.below (Nat.le_trans hBw hs) (fun k hk q => by have := low k q; omega)).trans (K2.below (Nat.le_trans hBw (Nat.le_trans hs K1.size)) (fun k hk q => by have := h.hB; omega)))
theorem PQ.pushG {w x x3 : World} {B b : Nat} {v1 v2 v3 : Value} {p : Pg} {c : Grp} (h : PQ w B b v1 v2 p) (hb : Below w.heap.size w x) (hO : GRow x3 B 69 2 v3 (p.gs.length + 1) (rowsC grpC p.gs ++ grpC c)) (hg : x.grownBy x3 v2.ownBlock) (hn : v3.ownBlock = v2.ownBlock ∨ v3.ownBlock = some x.heap.size) :
    PQ (x3.setCell ⟨b, 3, none⟩ v3) B b v1 v3 ⟨p.num, p.lsn, p.cs, p.gs ++ [c]⟩ ∧ Below B w (x3.setCell ⟨b, 3, none⟩ v3) := by
  have hx := h.below hb
  have hblt := h.lt
  have hs := hb.size
  have K1 : Keep (fun k => v2.ownBlock = some k) x x3 := (Keep.refl (fun k => v2.ownBlock = some k) x).grown hg (fun _ e _ => e)
  have c3 := hx.cl.keep K1 hx.b2
  have K2 : Keep (fun k => k = b) x3 (x3.setCell ⟨b, 3, none⟩ v3) := (Keep.refl (fun k => k = b) x3).setCell (g := b) (j := 3) (fun _ => rfl) _
  have nb : v3.ownBlock ≠ some b := by
    rcases hn with e | e
    · rw [e]; exact h.b2
    · rw [e]; intro q; cases q; omega
  have nap : ∀ g, v1.ownBlock = some g → v3.ownBlock ≠ some g := by
    intro g q hg3
    rcases hn with e | e
    · rw [e] at hg3; exact h.ap g q hg3
    · rw [e] at hg3; cases hg3
      have := (World.ownsRow.lt hx.g1 _ q).2
      omega
  have low : ∀ k, v2.ownBlock = some k → B ≤ k := fun k hk => (World.ownsRow.lt h.g2 k hk).1
  refine ⟨⟨c3.stored (j := 3) (by simp) v3, ?_, ?_, nap, h.b1, nb, h.hB⟩, ?_⟩
  · exact GRow.keep (GRow.keep hx.g1 K1 (fun g hg q => h.ap g hg q)) K2 (fun g hg q => by subst q; exact h.b1 hg)
  · have := GRow.keep hO K2 (fun g hg q => by subst q; exact nb hg)
    show GRow _ B 69 2 v3 (p.gs ++ [c]).length (rowsC grpC (p.gs ++ [c]))
    rw [rowsC_snoc, List.length_append]
    exact this
  · have hBw : B ≤ w.heap.size := Nat.le_trans h.hB (Nat.le_of_lt hblt)
    exact (hb.mono hBw).trans ((K1.below (Nat.le_trans hBw hs) (fun k hk q => by have := low k q; omega)).trans (K2.below (Nat.le_trans hBw (Nat.le_trans hs K1.size)) (fun k hk q => by have := h.hB; omega)))
theorem PQ.in_ {w : World} {B b : Nat} {v1 v2 : Value} {p : Pg} (h : PQ w B b v1 v2 p) : ∃ t, v1 = .slice t.a p.cs.length t.c ∧ v2 = .slice t.b p.gs.length t.d ∧ PIn w p t := by
  obtain ⟨a, c, e1, l1, m1, _, n1, -⟩ := GRow.lies h.g1
  obtain ⟨b, d, e2, l2, m2, _, n2, -⟩ := GRow.lies h.g2
  exact ⟨⟨a, c, b, d⟩, e1, e2, ⟨l1, l2, fun e => ⟨n1 e, by have := n1 e; omega⟩, fun e => ⟨n2 e, by have := n2 e; omega⟩, m1, m2⟩⟩
theorem lies_new (w : World) (l : List Value) (t : TypeId) : Lies (w.alloc (.cells l.toArray t)) (some ⟨w.heap.size, 0, none⟩) l := by
  refine .inr ⟨w.heap.size, 0, rfl, by simp, fun i hi => ?_⟩
  have := ((Cells.new w l.toArray t).get i l[i] (by simp)).1
  rw [Nat.zero_add]
  exact this
end Go.Proofs.Ytoocbpbaieedmaa
