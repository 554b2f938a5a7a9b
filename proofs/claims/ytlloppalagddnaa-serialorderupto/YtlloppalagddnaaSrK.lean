import Derived.Test.YtlloppalagddnaaProg
import Derived.Test.YtlloppalagddnaaKit
import Derived.Test.YtlloppalagddnaaSum
import Derived.Test.YtlloppalagddnaaMapE
import Derived.Maps.AppendAt
import Derived.Maps.OwnOps
import Derived.OwnWalk
import Derived.WalkKit
import Derived.WalkSpells
import Derived.WalkLawsBesides
import Derived.Laws.Externs
import Derived.Deep.RegionWith
import Derived.Deep.WholeRow
set_option linter.all false
namespace Go.QK
open Go.RowKit

/-! What a call may have touched: the blocks of S, and new ones. -/

structure Keep (S : Nat → Prop) (w w' : World) : Prop where
  os : w'.os = w.os
  tape : w'.tape = w.tape
  output : w'.output = w.output
  size : w.heap.size ≤ w'.heap.size
  block : ∀ k, k < w.heap.size → ¬ S k → w'.heap[k]? = w.heap[k]?

section
variable {S T : Nat → Prop} {w w0 w1 w' : World}

theorem Keep.refl (S : Nat → Prop) (w : World) : Keep S w w := ⟨rfl, rfl, rfl, Nat.le_refl _, fun _ _ _ => rfl⟩
theorem Keep.mono (h : Keep S w w') (q : ∀ k, k < w.heap.size → S k → T k) : Keep T w w' := ⟨h.os, h.tape, h.output, h.size, fun k hk hn => h.block k hk (fun s => hn (q k hk s))⟩
theorem Keep.of_below (h : Below w.heap.size w w') : Keep S w w' := ⟨h.os, h.tape, h.output, h.size, fun k hk _ => h.block k hk⟩
theorem Keep.below {B : Nat} (h : Keep S w w') (hB : B ≤ w.heap.size) (q : ∀ k, k < B → ¬ S k) : Below B w w' := ⟨h.os, h.tape, h.output, h.size, fun k hk => h.block k (Nat.lt_of_lt_of_le hk hB) (q k hk)⟩
theorem Keep.trans (h : Keep S w0 w) (k : Keep T w w') (q : ∀ j, j < w0.heap.size → T j → S j) : Keep S w0 w' :=
  ⟨k.os.trans h.os, k.tape.trans h.tape, k.output.trans h.output, Nat.le_trans h.size k.size, fun j hj hn => (k.block j (Nat.lt_of_lt_of_le hj h.size) (fun s => hn (q j hj s))).trans (h.block j hj hn)⟩
theorem Keep.then_below (h : Keep S w0 w) (k : Below w.heap.size w w') : Keep S w0 w' := h.trans (Keep.of_below (S := fun _ => False) k) (fun _ _ f => f.elim)
theorem Keep.drew (h : Keep S w0 w) : Keep S w0 w.drew := ⟨h.os, h.tape, h.output, h.size, h.block⟩
theorem Keep.undrew (h : Keep S w0.drew w) : Keep S w0 w := ⟨h.os, h.tape, h.output, h.size, h.block⟩
theorem Keep.alloc (h : Keep S w0 w) (o : Obj) : Keep S w0 (w.alloc o) := h.then_below ((Below.refl _ _).alloc (Nat.le_refl _) _)
theorem Keep.setCell (h : Keep S w0 w) {g j : Nat} (hs : g < w0.heap.size → S g) (u : Value) : Keep S w0 (w.setCell ⟨g, j, none⟩ u) :=
  ⟨h.os, h.tape, h.output, by simpa using h.size, fun k hk hn => (Below.heap_setCell w ⟨g, j, none⟩ u k (by intro e; subst e; exact hn (hs hk))).trans (h.block k hk hn)⟩
theorem Keep.grown {row : Option Nat} (h : Keep S w0 w) (hg : w.grownBy w' row) (hs : ∀ g, row = some g → g < w0.heap.size → S g) : Keep S w0 w' := by
  have e : Below 0 w w' := (Below.refl 0 w).grown hg (Nat.zero_le _) (fun _ _ => Nat.zero_le _)
  refine ⟨e.os.trans h.os, e.tape.trans h.tape, e.output.trans h.output, Nat.le_trans h.size e.size, fun k hk hn => ?_⟩
  refine Eq.trans ?_ (h.block k hk hn)
  have q : World.grownBy w w' row := hg
  exact q.block k (Nat.lt_of_lt_of_le hk h.size) (fun r => hn (hs k r.symm hk))
theorem Keep.cell (h : Keep S w w') {p : Addr} (hp : p.block < w.heap.size) (hn : ¬ S p.block) : w'.cell? p = w.cell? p := World.cell?_of_block (w := w) (h.block p.block hp hn)
theorem Keep.frozen (h : Keep S w w') {p : Addr} (hp : p.block < w.heap.size) (hn : ¬ S p.block) : w'.frozen? p = w.frozen? p := World.frozen?_of_block (w := w) (h.block p.block hp hn)

theorem Seen.keep {k : IntKind} {a : Option Addr} {xs : List Int} (h : Seen k w a xs) (hb : Keep S w w') (hn : ∀ ad, a = some ad → ¬ S ad.block) : Seen k w' a xs := by
  rcases h with h | ⟨b, off, ha, hlt, hc⟩
  · exact .inl h
  · exact .inr ⟨b, off, ha, Nat.lt_of_lt_of_le hlt hb.size, fun i hi => (hb.cell (p := ⟨b, off + i, none⟩) hlt (by have := hn _ ha; exact this)).trans (hc i hi)⟩
theorem Owns.keep {k : IntKind} {e : TypeId} {B : Nat} {v : Value} {xs : List Int} (h : Owns k e w B v xs) (hb : Keep S w w') (hn : ∀ g, v.ownBlock = some g → ¬ S g) : Owns k e w' B v xs := by
  refine ⟨h.1, ?_⟩
  rcases h.2 with q | ⟨g, cap, cur, q, hbg, hg, rest⟩
  · exact .inl q
  · have hlt := (World.ownsRow.lt h g (by rw [q]; rfl)).2
    exact .inr ⟨g, cap, cur, q, hbg, (hb.block g hlt (hn g (by rw [q]; rfl))).trans hg, rest⟩
theorem Cells.keep {b : Nat} {cs : List Value} (h : Cells w b cs) (hb : Keep S w w') (hn : ¬ S b) : Cells w' b cs :=
  ⟨Nat.lt_of_lt_of_le h.1 hb.size, fun j hj => ⟨(hb.cell (p := ⟨b, j, none⟩) h.1 hn).trans (h.2 j hj).1, (hb.frozen (p := ⟨b, j, none⟩) h.1 hn).trans (h.2 j hj).2⟩⟩
end

/-- A whole variable lies at block b. -/
def RBox (w : World) (b : Nat) (t : TypeId) (cs : Array Value) : Prop := w.heap[b]? = some (.cells cs t)
section
variable {w w' : World} {b : Nat} {t : TypeId} {cs : Array Value} {S : Nat → Prop}
theorem RBox.lt (h : RBox w b t cs) : b < w.heap.size := (Array.getElem?_eq_some_iff.1 h).1
theorem RBox.keep (h : RBox w b t cs) (hk : Keep S w w') (hn : ¬ S b) : RBox w' b t cs := (hk.block b h.lt hn).trans h
theorem RBox.below (h : RBox w b t cs) (hk : Below w.heap.size w w') : RBox w' b t cs := (hk.block b h.lt).trans h
theorem RBox.new (w : World) (cs : Array Value) (t : TypeId) : RBox (w.alloc (.cells cs t)) w.heap.size t cs := heap_alloc_last w _
theorem RBox.cells (h : RBox w b t cs) : Cells w b cs.toList := by
  refine ⟨h.lt, fun j hj => ⟨?_, ?_⟩⟩
  · rw [cell_of_row w b j _ t (0, 0) h]
    simp at hj
    simp [hj]
  · have h' : w.heap[b]? = some (.cells cs t (0, 0)) := h
    simp [World.frozen?, h']
theorem RBox.setCell (h : RBox w b t cs) (j : Nat) (v : Value) : RBox (w.setCell ⟨b, j, none⟩ v) b t (cs.setIfInBounds j v) := by
  have h' : w.heap[b]? = some (.cells cs t (0, 0)) := h
  unfold RBox
  simp [World.setCell, Array.getElem?_modify, h']
theorem RBox.setRow (h : RBox w b t cs) (cs' : Array Value) : RBox (w.setRow b cs') b t cs' := by
  have h' : w.heap[b]? = some (.cells cs t (0, 0)) := h
  unfold RBox
  simp [World.setRow, Array.getElem?_modify, h']
theorem keep_setRow (w : World) (b : Nat) (cs' : Array Value) : Keep (fun k => k = b) w (w.setRow b cs') := by
  refine ⟨rfl, rfl, rfl, by simp [World.setRow], fun k hk hn => ?_⟩
  have : ¬ b = k := fun q => hn q.symm
  simp [World.setRow, Array.getElem?_modify, this]
end
end Go.QK
namespace Go.Proofs.Ytlloppalagddnaa
open Go.RowKit Go.QK
theorem hide {p : Prop} (h : p) : Hid p := h
/-- The cells that a slice leads to. -/
def Lies (w : World) (a : Option Addr) (cs : List Value) : Prop :=
  cs = [] ∨ ∃ b off, a = some ⟨b, off, none⟩ ∧ b < w.heap.size ∧ ∀ i (h : i < cs.length), w.cell? ⟨b, off + i, none⟩ = some cs[i]
theorem Lies.keep {S : Nat → Prop} {w w' : World} {a : Option Addr} {cs : List Value} (h : Lies w a cs) (hb : Keep S w w') (hn : ∀ ad, a = some ad → ¬ S ad.block) : Lies w' a cs := by
  rcases h with h | ⟨b, off, ha, hlt, hc⟩
  · exact .inl h
  · exact .inr ⟨b, off, ha, Nat.lt_of_lt_of_le hlt hb.size, fun i hi => (hb.cell (p := ⟨b, off + i, none⟩) hlt (by have := hn _ ha; exact this)).trans (hc i hi)⟩
theorem Lies.below {w w' : World} {a : Option Addr} {cs : List Value} (h : Lies w a cs) (hk : Below w.heap.size w w') : Lies w' a cs :=
  h.keep (Keep.of_below (S := fun _ => False) hk) (fun _ _ => id)
theorem Lies.cellAt {w : World} {a : Option Addr} {cs : List Value} (h : Lies w a cs) (i : Nat) (v : Value) (hv : cs[i]? = some v) : ∃ b off, a = some ⟨b, off, none⟩ ∧ b < w.heap.size ∧ w.cell? ⟨b, off + i, none⟩ = some v := by
  obtain ⟨hi, hv⟩ := List.getElem?_eq_some_iff.1 hv
  rcases h with h | ⟨b, off, ha, hlt, hc⟩
  · rw [h] at hi; simp at hi
  · exact ⟨b, off, ha, hlt, by rw [hc i hi, hv]⟩

/-! Rows of whatever cells, so many each. -/
def rowsC {α : Type} (f : α → List Value) (l : List α) : List Value := l.flatMap f
theorem rowsC_get {α : Type} (f : α → List Value) (n : Nat) (hf : ∀ x, (f x).length = n) (ls : List α) (k : Nat) (hk : k < ls.length) (j : Nat) (hj : j < n) : (rowsC f ls)[n * k + j]? = (f ls[k])[j]? := by
  induction ls generalizing k with
  | nil => simp at hk
  | cons l ls ih =>
    have hl := hf l
    cases k with
    | zero =>
      simp only [rowsC, List.flatMap_cons, Nat.mul_zero, Nat.zero_add]
      rw [List.getElem?_append_left (by omega)]
      rfl
    | succ k =>
      have e : n * (k + 1) = n * k + n := Nat.mul_succ n k
      simp only [rowsC, List.flatMap_cons]
      rw [List.getElem?_append_right (by omega)]
      have := ih k (by simpa using hk)
      simp only [List.getElem_cons_succ]
      rw [← this]
      show (rowsC f ls)[_]? = _
      congr 1
      omega
theorem Lies.rowAt {α : Type} {w : World} {a : Option Addr} (f : α → List Value) (n : Nat) (hf : ∀ x, (f x).length = n) {ls : List α} (h : Lies w a (rowsC f ls)) (k : Nat) (hk : k < ls.length) (hn : 0 < n) :
    ∃ b off, a = some ⟨b, off, none⟩ ∧ b < w.heap.size ∧ ∀ j v, (f ls[k])[j]? = some v → w.cell? ⟨b, off + k * n + j, none⟩ = some v := by
  rcases h with h | ⟨b, off, ha, hlt, hc⟩
  · have e := rowsC_get f n hf ls k hk 0 hn
    rw [h] at e
    have hl := hf ls[k]
    rw [List.getElem?_nil] at e
    have := List.getElem?_eq_none_iff.1 e.symm
    omega
  · refine ⟨b, off, ha, hlt, fun j v hv => ?_⟩
    have hj : j < n := by
      obtain ⟨hi, _⟩ := List.getElem?_eq_some_iff.1 hv
      have := hf ls[k]
      omega
    have e := rowsC_get f n hf ls k hk j hj
    rw [hv] at e
    obtain ⟨hi, hv'⟩ := List.getElem?_eq_some_iff.1 e
    have q := hc (n * k + j) hi
    rw [hv'] at q
    rw [← q]
    congr 2
    rw [Nat.mul_comm]
    omega


set_option maxRecDepth 100000
theorem info_of {e : TypeId} {z : Value} {s b : Nat} (hin : (Try.prog.info? e).map (fun i => (i.zero, i.size, i.bytes)) = some (some z, s, b)) : ∃ i0, Try.prog.info? e = some i0 ∧ i0.zero = some z ∧ i0.size = s ∧ i0.bytes = b := by
  cases hq : Try.prog.info? e with
  | none => rw [hq] at hin; cases hin
  | some i0 =>
    rw [hq] at hin
    simp only [Option.map_some, Option.some.injEq, Prod.mk.injEq] at hin
    exact ⟨i0, rfl, hin⟩

/-- A row of the program's own: its cells. -/
abbrev GRow (w : World) (B : Nat) (e : TypeId) (size : Nat) (v : Value) (n : Nat) (xs : List Value) : Prop := w.ownsRow B e size v n xs
theorem GRow.keep {S : Nat → Prop} {w w' : World} {B : Nat} {e : TypeId} {size n : Nat} {v : Value} {xs : List Value} (h : GRow w B e size v n xs) (hb : Keep S w w') (hn : ∀ g, v.ownBlock = some g → ¬ S g) : GRow w' B e size v n xs := by
  refine ⟨h.1, ?_⟩
  rcases h.2 with q | ⟨g, cap, cur, q, hbg, hg, rest⟩
  · exact .inl q
  · have hlt := (World.ownsRow.lt h g (by rw [q]; rfl)).2
    exact .inr ⟨g, cap, cur, q, hbg, (hb.block g hlt (hn g (by rw [q]; rfl))).trans hg, rest⟩
theorem GRow.below {w w' : World} {B : Nat} {e : TypeId} {size n : Nat} {v : Value} {xs : List Value} (h : GRow w B e size v n xs) (hb : Below w.heap.size w w') : GRow w' B e size v n xs :=
  GRow.keep h (Keep.of_below (S := fun _ => False) hb) (fun _ _ => id)
theorem GRow.mono {w : World} {B B' : Nat} {e : TypeId} {size n : Nat} {v : Value} {xs : List Value} (h : GRow w B e size v n xs) (hb : B' ≤ B) : GRow w B' e size v n xs := by
  refine ⟨h.1, ?_⟩
  rcases h.2 with q | ⟨g, cap, cur, q, hbg, rest⟩
  · exact .inl q
  · exact .inr ⟨g, cap, cur, q, Nat.le_trans hb hbg, rest⟩
theorem GRow.lies {w : World} {B : Nat} {e : TypeId} {size n : Nat} {v : Value} {xs : List Value} (h : GRow w B e size v n xs) : ∃ a c, v = .slice a n c ∧ Lies w a xs ∧ n ≤ c ∧ c ≤ maxLen ∧ (a = none → c = 0) ∧ (∀ ad, a = some ad → ad.off = 0 ∧ ad.spot = none) := by
  have hlt := World.ownsRow.lt h
  have hcs := fun g (hg : v.ownBlock = some g) => World.ownsRow.cells h hg
  obtain ⟨h1, h2⟩ := h
  rcases h2 with ⟨rfl, rfl⟩ | ⟨g, cap, cur, rfl, hbg, hg, hn, hm, hs, ht⟩
  · exact ⟨none, 0, rfl, .inl (List.length_eq_zero_iff.1 (by simpa using h1)), Nat.le_refl _, by unfold maxLen; omega, fun _ => rfl, nofun⟩
  · refine ⟨some ⟨g, 0, none⟩, cap, rfl, ?_, hn, hm, nofun, ?_⟩
    · refine .inr ⟨g, 0, rfl, (hlt g rfl).2, fun i hi => ?_⟩
      have := hcs g rfl i xs[i] (List.getElem?_eq_getElem hi)
      rw [addr_add] at this
      exact this
    · intro ad q
      cases q
      exact ⟨rfl, rfl⟩

/-- 'append(v, x..)' of a row of the program's own. -/
theorem run_pushR {t e : TypeId} {z : Value} {size bytes : Nat} (hu : Try.prog.underlying t = some (.slice e)) (hin : (Try.prog.info? e).map (fun i => (i.zero, i.size, i.bytes)) = some (some z, size, bytes)) (hz : z.cells.size = size) (hs : 0 < size) (hby : bytes ≤ 100) (ty : TypeId) (x : World)
    (B : Nat) (v : Value) (n : Nat) (xs : List Value) (hown : GRow x B e size v n xs) (ad : Addr) (m c : Nat) (news : List Value) (hl : news.length = m * size) (hnews : Lies x (some ad) news) (h1 : ∀ u ∈ news, u.oneCell' = true) (h63 : n + m ≤ 2000000) (hB : B ≤ x.heap.size) :
    ∃ v' x', (Builtin.append_ #[t, t] ty #[v, .slice (some ad) m c]).run Try.prog x = .ok v' x' ∧ GRow x' B e size v' (n + m) (xs ++ news) ∧ x.grownBy x' v.ownBlock ∧ (v'.ownBlock = v.ownBlock ∨ v'.ownBlock = some x.heap.size) := by
  obtain ⟨i0, hi, h0, h2, h3⟩ := info_of hin
  obtain ⟨v', w', hr, q2, q3, q4, q5⟩ := run_append_own_at (P := Try.prog) x B t ty e i0 z size bytes hu hi h0 h2 h3 hz hs v n xs hown ad m c news hl
    (by
      intro j u hj
      obtain ⟨b, off, e1, _, hc⟩ := hnews.cellAt j u hj
      cases e1
      rw [addr_add]
      exact hc) h1 (by unfold maxLen; omega) (by
      have : (n + m) * bytes ≤ 2000000 * 100 := Nat.mul_le_mul h63 hby
      omega) hB
  exact ⟨v', w', hr, q2, q3, q5⟩

/-- A builtin whose run is known, in a drawn region and in a plain one. -/
theorem wp_run {o : Oper} {a : Act} {x x' : World} {K : Act → World → Prop} {Q : Exit → Act → World → Prop} {cond : Bool} {t : TypeId} {v u v' : Value} (d : Nat) (s r : Operand) (hc : cond = true) (hd : o.dst = some d)
    (ho : o.op = .call { callee := .builtin .append, args := #[s, r], argTypes := #[t, t] }) (hs : a.eval s = v) (hr : a.eval r = u) (hrun : (Builtin.append_ #[t, t] o.type #[v, u]).run Try.prog x = .ok v' x')
    (h : K (a.put (some d) v') x') : if cond = true then Oper.wp Try.prog o a x K Q else K (a.put o.dst undef) x := by
  rw [if_pos hc]
  have hrun : (execOp a.eval o).run Try.prog x = .ok (.value v') x' := by
    unfold execOp
    simp only [ho, resolve, invoke, builtin, Sem.run_bind, Sem.run_pure, Result.andThen_ok, List.map_toArray, List.map_cons, List.map_nil, hs, hr, hrun]
  unfold Oper.wp
  rw [hrun]
  show K (a.put o.dst v') x'
  rw [hd]
  exact h
theorem wpList_run {o : Oper} {a : Act} {x x' : World} {ops : Array Oper} {rest : List Oper} {Q : Exit → Act → World → Prop} {t : TypeId} {v u v' : Value} (hgd : o.guard = none) (s r : Operand)
    (ho : o.op = .call { callee := .builtin .append, args := #[s, r], argTypes := #[t, t] }) (hs : a.eval s = v) (hr : a.eval r = u) (hrun : (Builtin.append_ #[t, t] o.type #[v, u]).run Try.prog x = .ok v' x')
    (h : wpList Try.prog ops Q rest (a.put o.dst v') x') : wpList Try.prog ops Q (o :: rest) a x := by
  refine wpList_plain hgd fun K hK => ?_
  have hrun : (execOp a.eval o).run Try.prog x = .ok (.value v') x' := by
    unfold execOp
    simp only [ho, resolve, invoke, builtin, Sem.run_bind, Sem.run_pure, Result.andThen_ok, List.map_toArray, List.map_cons, List.map_nil, hs, hr, hrun]
  unfold Oper.wp
  rw [hrun]
  exact hK _ _ h

theorem wpList_appR {t e : TypeId} {z : Value} {size bytes : Nat} (hu : Try.prog.underlying t = some (.slice e)) (hin : (Try.prog.info? e).map (fun i => (i.zero, i.size, i.bytes)) = some (some z, size, bytes)) (hz : z.cells.size = size) (hs0 : 0 < size) (hby : bytes ≤ 100)
    {w : World} {ops : Array Oper} {rest : List Oper} {o : Oper} {a : Act} {Q : Exit → Act → World → Prop} (hgd : o.guard = none) (s x : Operand) (ho : o.op = .call { callee := .builtin .append, args := #[s, x], argTypes := #[t, t] })
    (B : Nat) (v : Value) (n : Nat) (xs : List Value) (hs : a.eval s = v) (hown : GRow w B e size v n xs) (ax : Option Addr) (m c : Nat) (news : List Value) (hx : a.eval x = .slice ax m c) (hl : news.length = m * size) (hnews : Lies w ax news) (h1 : ∀ u ∈ news, u.oneCell' = true) (hnil : ax = none → c = 0 ∧ m = 0) (h63 : n + m ≤ 2000000) (hB : B ≤ w.heap.size)
    (h : ∀ v' w', GRow w' B e size v' (n + m) (xs ++ news) → w.grownBy w' v.ownBlock → (v'.ownBlock = v.ownBlock ∨ v'.ownBlock = some w.heap.size) → wpList Try.prog ops Q rest (a.put o.dst v') w') : wpList Try.prog ops Q (o :: rest) a w := by
  cases ax with
  | none =>
    obtain ⟨rfl, rfl⟩ := hnil rfl
    obtain ⟨i0, hi, h0, h2, h3⟩ := info_of hin
    have e0 : news = [] := List.eq_nil_of_length_eq_zero (by omega)
    subst e0
    refine wpList_append_own_none hgd s x t ho B e i0 size hu hi v n _ hs hown hx ?_
    exact h v w (by simpa using hown) (World.grownBy.refl _ _) (.inl rfl)
  | some ad =>
    obtain ⟨v', x', hr, q2, q3, q4⟩ := run_pushR hu hin hz hs0 hby o.type w B v n xs hown ad m c news hl hnews h1 h63 hB
    exact wpList_run hgd s x ho hs hx hr (h v' x' q2 q3 q4)


/-! Lists of whatever length. -/
theorem run_pushW {t e : TypeId} {z : Value} {size bytes : Nat} (hu : Try.prog.underlying t = some (.slice e)) (hin : (Try.prog.info? e).map (fun i => (i.zero, i.size, i.bytes)) = some (some z, size, bytes)) (hz : z.cells.size = size) (hs : 0 < size) (ty : TypeId) (x : World)
    (B : Nat) (v : Value) (n : Nat) (xs : List Value) (hown : GRow x B e size v n xs) (ad : Addr) (m c : Nat) (news : List Value) (hl : news.length = m * size) (hnews : Lies x (some ad) news) (h1 : ∀ u ∈ news, u.oneCell' = true) (h63 : (n + m) * bytes ≤ 140737488355328) (hb1 : 0 < bytes) (hB : B ≤ x.heap.size) :
    ∃ v' x', (Builtin.append_ #[t, t] ty #[v, .slice (some ad) m c]).run Try.prog x = .ok v' x' ∧ GRow x' B e size v' (n + m) (xs ++ news) ∧ x.grownBy x' v.ownBlock ∧ (v'.ownBlock = v.ownBlock ∨ v'.ownBlock = some x.heap.size) := by
  obtain ⟨i0, hi, h0, h2, h3⟩ := info_of hin
  obtain ⟨v', w', hr, q2, q3, q4, q5⟩ := run_append_own_at (P := Try.prog) x B t ty e i0 z size bytes hu hi h0 h2 h3 hz hs v n xs hown ad m c news hl
    (by
      intro j u hj
      obtain ⟨b, off, e1, _, hc⟩ := hnews.cellAt j u hj
      cases e1
      rw [addr_add]
      exact hc) h1 (by unfold maxLen; have := Nat.le_mul_of_pos_right (n + m) hb1; omega) h63 hB
  exact ⟨v', w', hr, q2, q3, q5⟩

theorem wpList_appW {t e : TypeId} {z : Value} {size bytes : Nat} (hu : Try.prog.underlying t = some (.slice e)) (hin : (Try.prog.info? e).map (fun i => (i.zero, i.size, i.bytes)) = some (some z, size, bytes)) (hz : z.cells.size = size) (hs0 : 0 < size) (hb1 : 0 < bytes)
    {w : World} {ops : Array Oper} {rest : List Oper} {o : Oper} {a : Act} {Q : Exit → Act → World → Prop} (hgd : o.guard = none) (s x : Operand) (ho : o.op = .call { callee := .builtin .append, args := #[s, x], argTypes := #[t, t] })
    (B : Nat) (v : Value) (n : Nat) (xs : List Value) (hs : a.eval s = v) (hown : GRow w B e size v n xs) (ax : Option Addr) (m c : Nat) (news : List Value) (hx : a.eval x = .slice ax m c) (hl : news.length = m * size) (hnews : Lies w ax news) (h1 : ∀ u ∈ news, u.oneCell' = true) (hnil : ax = none → c = 0 ∧ m = 0) (h63 : (n + m) * bytes ≤ 140737488355328) (hB : B ≤ w.heap.size)
    (h : ∀ v' w', GRow w' B e size v' (n + m) (xs ++ news) → w.grownBy w' v.ownBlock → (v'.ownBlock = v.ownBlock ∨ v'.ownBlock = some w.heap.size) → wpList Try.prog ops Q rest (a.put o.dst v') w') : wpList Try.prog ops Q (o :: rest) a w := by
  cases ax with
  | none =>
    obtain ⟨rfl, rfl⟩ := hnil rfl
    obtain ⟨i0, hi, h0, h2, h3⟩ := info_of hin
    have e0 : news = [] := List.eq_nil_of_length_eq_zero (by omega)
    subst e0
    refine wpList_append_own_none hgd s x t ho B e i0 size hu hi v n _ hs hown hx ?_
    exact h v w (by simpa using hown) (World.grownBy.refl _ _) (.inl rfl)
  | some ad =>
    obtain ⟨v', x', hr, q2, q3, q4⟩ := run_pushW hu hin hz hs0 o.type w B v n xs hown ad m c news hl hnews h1 h63 hb1 hB
    exact wpList_run hgd s x ho hs hx hr (h v' x' q2 q3 q4)

/-! Numbers, pointers, keys. -/
open Quota
theorem wrapI {z : Int} (h : I64 z) : wrap64 z = z := by unfold I64 at h; unfold wrap64; omega
theorem alloc_below (w : World) (o : Obj) : Below w.heap.size w (w.alloc o) := (Below.refl _ _).alloc (Nat.le_refl _) _
theorem bnext {B : Nat} {w w1 w2 : World} (h : Below B w w1) (k : Below w1.heap.size w1 w2) (hB : B ≤ w.heap.size) : Below B w w2 := h.trans (k.mono (Nat.le_trans hB h.size))
theorem bkeep {B : Nat} {S : Nat → Prop} {w w1 w2 : World} (h : Below B w w1) (k : Keep S w1 w2) (hB : B ≤ w.heap.size) (hS : ∀ j, S j → B ≤ j) : Below B w w2 :=
  h.trans (k.below (Nat.le_trans hB h.size) (fun j hj q => by have := hS j q; omega))
theorem below_drewN {B : Nat} {w w1 : World} (h : Below B w w1) (q : Nat) : Below B w (w1.drewN q) := ⟨h.os, h.tape, h.output, h.size, h.block⟩
open Go.Maps
theorem lawK : Keyed Try.prog 3 := int_keyed Try.underlying3
theorem wf64 {z : Int} (h : I64 z) : (Lit.int .i64 z).wf = true := WalkArith.wf_i64 h
theorem keyI {z : Int} (h : I64 z) : keyOf Try.prog 3 (.int .i64 z) = some (.int .i64 z) := keyOf_int_mk Try.underlying3 (wf64 h)
abbrev ptr (b : Nat) : Value := .pointer (some ⟨b, 0, none⟩)
open Go.QM
theorem anyAt_keep {S : Nat → Prop} {P : Program} {k : TypeId} {w w' : World} {m : Nat} {L : Prs Value} (h : AnyAt P k w m L) (hk : Keep S w w') (hn : ¬ S m) : AnyAt P k w' m L := by
  have hlt := World.ownsMap.lt h
  obtain ⟨es, clock, hb, F, hs, hD⟩ := h
  exact ⟨es, clock, (hk.block m hlt hn).trans hb, F, hs, hD⟩
theorem anyAt_below {P : Program} {k : TypeId} {w w' : World} {m : Nat} {L : Prs Value} (h : AnyAt P k w m L) (hk : Below w.heap.size w w') : AnyAt P k w' m L := anyAt_keep h (Keep.of_below (S := fun _ => False) hk) id
theorem any_run {P : Program} {t k e : TypeId} (K : Keyed P k) (ht : P.underlying t = some (.map k e)) {z : Value} (hz : ∀ u : World, (zeroValue e).run P u = .ok z u) {w : World} {m : Nat} {L : Prs Value} (h : AnyAt P k w m L) {x : Int} (hk : keyOf P k (.int .i64 x) = some (.int .i64 x)) :
    (Instr.lookup t (.map (some m)) (.int .i64 x) false).run P w = .ok ((getM L x).getD z) w := by
  obtain ⟨v, ps, hrun, hv⟩ := World.ownsMap.lookup h K ht (hz w) (show anyElem z = some (.held z, []) from rfl) hk
  rw [any_look hv] at hrun
  exact hrun
end Go.Proofs.Ytlloppalagddnaa
