import Derived.Test.YtoocbpbaieedmaaAp18
import Derived.Great.BuildSlice
namespace Go.Proofs.Ytoocbpbaieedmaa
open Go.RowKit Go.QK Quota
set_option maxRecDepth 100000
theorem info38 : (Try.prog.info? 38).map (fun i => (i.zero, i.size, i.bytes)) = some (some (.agg #[.int .i64 0, .int .i64 0, .int .i64 0, .int .i64 0, .int .i64 0, .int .i64 0, .int .i64 0, .int .i64 0, .int .i64 0, .int .i64 0, .int .i64 0, .int .i64 0, .int .i64 0, .int .i64 0, .slice none 0 0, .slice none 0 0, .int .i64 0]), 17, 168) := by kernel_rfl
/-- 'append(v, x..)' of a row of records. -/
theorem run_push38 (ty : TypeId) (x : World) (B : Nat) (v : Value) (n : Nat) (xs : List Value) (hown : GRow x B 38 17 v n xs) (ad : Addr) (m c : Nat) (news : List Value) (hl : news.length = m * 17) (hnews : Lies x (some ad) news) (h1 : ∀ u ∈ news, u.oneCell' = true) (h63 : n + m ≤ 200000) (hB : B ≤ x.heap.size) :
    ∃ v' x', (Builtin.append_ #[53, 53] ty #[v, .slice (some ad) m c]).run Try.prog x = .ok v' x' ∧ GRow x' B 38 17 v' (n + m) (xs ++ news) ∧ x.grownBy x' v.ownBlock ∧ (v'.ownBlock = v.ownBlock ∨ v'.ownBlock = some x.heap.size) := by
  obtain ⟨i0, hi, h0, h2, h3⟩ := info_of info38
  obtain ⟨v', w', hr, q2, q3, q4, q5⟩ := run_append_own_at (P := Try.prog) x B 53 ty 38 i0 _ 17 168 Try.underlying53 hi h0 h2 h3 rfl (by decide) v n xs hown ad m c news hl
    (by
      intro j u hj
      obtain ⟨b, off, e1, _, hc⟩ := hnews.cellAt j u hj
      cases e1
      rw [addr_add]
      exact hc) h1 (by unfold maxLen; omega) (by omega) hB
  exact ⟨v', w', hr, q2, q3, q5⟩
section
variable {ops : Array Oper} {rest : List Oper} {a : Act} {w : World} {Q : Exit → Act → World → Prop} {d : Option Tmp} {ty : TypeId} {ps : String} {af : Array Edge} {x : Operand}
theorem wpList_ld38At {b off : Nat} {cs : Array Value} (hc : ∀ j v, cs.toList[j]? = some v → w.cell? ⟨b, off + j, none⟩ = some v) (hs : cs.size = 17) (hx : a.eval x = .pointer (some ⟨b, off, none⟩)) (h : wpList Try.prog ops Q rest (a.put d (.agg cs)) w) :
    wpList Try.prog ops Q ({ dst := d, op := .load 38 x, type := ty, pos := ps, after := af, guard := none } :: rest) a w := by
  have hrun := run_loadAt w b off 38 cs _ hc Try.underlying38 rfl (size38' hs)
  refine wpList_plain rfl fun K hK => ?_
  unfold Oper.wp execOp
  simp only [hx, Instr.loadAt, Instr.sureAddr, Sem.run_bind, Sem.run_pure, Result.andThen_ok, hrun]
  exact hK _ _ h
theorem fill38 (r : Rc) : Instr.fill (fun i => some (i * 17, 17)) ((Array.range (1 * 17)).map ((Value.agg #[.int .i64 0, .int .i64 0, .int .i64 0, .int .i64 0, .int .i64 0, .int .i64 0, .int .i64 0, .int .i64 0, .int .i64 0, .int .i64 0, .int .i64 0, .int .i64 0, .int .i64 0, .int .i64 0, .slice none 0 0, .slice none 0 0, .int .i64 0]).cells[· % (Value.agg #[.int .i64 0, .int .i64 0, .int .i64 0, .int .i64 0, .int .i64 0, .int .i64 0, .int .i64 0, .int .i64 0, .int .i64 0, .int .i64 0, .int .i64 0, .int .i64 0, .int .i64 0, .int .i64 0, .slice none 0 0, .slice none 0 0, .int .i64 0]).cells.size]!)) [(0, .agg (recA r))] = some (recA r) := by kernel_rfl
theorem wpList_build53 {r : Rc} (hx : a.eval x = .agg (recA r)) (h : wpList Try.prog ops Q rest (a.put d (.slice (some ⟨w.heap.size, 0, none⟩) 1 1)) (w.alloc (.cells (recA r) 38))) :
    wpList Try.prog ops Q ({ dst := d, op := .buildSlice 53 1 #[(0, x)], type := ty, pos := ps, after := af, guard := none } :: rest) a w := by
  obtain ⟨i0, hi, h0, h2, h3⟩ := info_of info38
  refine wpList_buildSlice rfl 53 38 1 #[(0, x)] rfl (recA r) i0 _ Try.underlying53 hi h0 (by rw [h2]; decide) (by rw [h2]; decide) ?_ h
  rw [h2]
  simp only [List.map_toArray, List.map_cons, List.map_nil, hx]
  exact fill38 r
end
def numR (i : Nat) (r : Rc) : Rc := asK r r.k (3 * (i : Int) + 1)
def ren (l : List Rc) : List Rc := l.mapIdx numR
theorem ren_len (l : List Rc) : (ren l).length = l.length := by simp [ren]
theorem ren_snoc (l : List Rc) (r : Rc) : ren (l ++ [r]) = ren l ++ [numR l.length r] := by simp [ren]
theorem ren_rise (l : List Rc) : (ren l).Pairwise (fun a b => a.lsn < b.lsn) := by
  rw [List.pairwise_iff_getElem]
  intro i j hi hj hij
  simp only [ren, List.getElem_mapIdx]
  show 3 * (i : Int) + 1 < 3 * (j : Int) + 1
  omega
theorem ren_fit (l : List Rc) (h : ∀ r ∈ l, r.Fit) : ∀ r ∈ ren l, r.Fit := by
  intro r hr
  obtain ⟨i, hi, rfl⟩ := List.getElem_of_mem hr
  simp only [ren, List.getElem_mapIdx]
  exact ⟨(h _ (List.getElem_mem _)).d, (h _ (List.getElem_mem _)).v⟩
theorem allOf_at (p : Pg) (t : At) (l : List Rc) (sa : Option Addr) (sc : Nat) (w : World) (h : PIn w p t) (hf : p.Fit) (hl : Lies w sa (rowsC recL l)) (hr : ∀ r ∈ l, r.Fit) (hn : l.length ≤ 1000) (n : Nat) (he : l.length = n) : Calls Try.prog 16 #[pgV p t, .slice sa n sc] w fun e w' => ∃ u, e = .returned (pgV (runP p l) u) ∧ PIn w' (runP p l) u ∧ (∀ b, b < w.heap.size → Off p t b → Off (runP p l) u b) ∧ Below w.heap.size w w' := by
  subst he
  exact allOf_any p t l sa sc w h hf hl hr hn
theorem lent_off (p : Pg) (t : At) (w : World) (h : PIn w p t) (hf : p.Fit) : Calls Try.prog 10 #[pgV p t] w fun e w' => ∃ u, e = .returned (pgV p u) ∧ PIn w' p u ∧ (∀ b, b < w.heap.size → Off p t b → Off p u b) ∧ Below w.heap.size w w' := by
  refine (lent_any p t w h (Nat.le_trans hf.lc (by decide)) (Nat.le_trans hf.lg (by decide))).mono ?_
  rintro e w' ⟨u, g1, g2, rfl, h4, h5⟩
  refine ⟨u, rfl, h4.in_, fun b hb _ => off_new (fun ad q => ?_), h5⟩
  rcases q with q | q
  · rw [h4.ta] at q
    cases q
    have := (World.ownsRow.lt h4.r1 g1 (by rw [h4.ta]; rfl)).1
    show b < g1
    omega
  · rw [h4.tb] at q
    cases q
    have := (World.ownsRow.lt h4.r2 g2 (by rw [h4.tb]; rfl)).1
    show b < g2
    omega
end Go.Proofs.Ytoocbpbaieedmaa
