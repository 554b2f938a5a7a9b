import Derived.Test.YtakjpljpdlhicaaDoorFixed
import Derived.Test.YtakjpljpdlhicaaDoorHold
import Derived.Test.YtakjpljpdlhicaaDoorPgM
import Derived.Maps.AppendAt
namespace Go.Proofs.YtakjpljpdlhicaaDoor
open Go.RowKit Go.QK Go.Pg

theorem hide {p : Prop} (h : p) : Hid p := h
/-- The cells that a slice leads to. -/
def Lies (w : World) (a : Option Addr) (cs : List Value) : Prop :=
  cs = [] ∨ ∃ b off, a = some ⟨b, off, none⟩ ∧ b < w.heap.size ∧ ∀ i (h : i < cs.length), w.cell? ⟨b, off + i, none⟩ = some cs[i]
theorem Lies.keep {S : Nat → Prop} {w w' : World} {a : Option Addr} {cs : List Value} (h : Lies w a cs) (hb : Keep S w w') (hn : ∀ ad, a = some ad → ¬ S ad.block) : Lies w' a cs := by
  rcases h with h | ⟨b, off, ha, hlt, hc⟩
  · exact .inl h
  · exact .inr ⟨b, off, ha, Nat.lt_of_lt_of_le hlt hb.size, fun i hi => (hb.cell (p := ⟨b, off + i, none⟩) hlt (by have := hn _ ha; exact this)).trans (hc i hi)⟩
theorem Lies.below {w w' : World} {a : Option Addr} {cs : List Value} (h : Lies w a cs) (hk : Below w.heap.size w w') : Lies w' a cs :=
  h.keep (Keep.of_below (S := fun _ => False) hk) (fun _ _ => id)
theorem Lies.cellAt {w : World} {a : Option Addr} {cs : List Value} (h : Lies w a cs) (i : Nat) (v : Value) (hv : cs[i]? = some v) : ∃ b off, a = some ⟨b, off, none⟩ ∧ b < w.heap.size ∧ w.cell? ⟨b, off + i, none⟩ = some v := by
  obtain ⟨hi, hv⟩ := List.getElem?_eq_some_iff.1 hv
  rcases h with h | ⟨b, off, ha, hlt, hc⟩
  · rw [h] at hi; simp at hi
  · exact ⟨b, off, ha, hlt, by rw [hc i hi, hv]⟩

/-! Rows of whatever cells, so many each. -/
def rowsC {α : Type} (f : α → List Value) (l : List α) : List Value := l.flatMap f
theorem rowsC_get {α : Type} (f : α → List Value) (n : Nat) (hf : ∀ x, (f x).length = n) (ls : List α) (k : Nat) (hk : k < ls.length) (j : Nat) (hj : j < n) : (rowsC f ls)[n * k + j]? = (f ls[k])[j]? := by
  induction ls generalizing k with
  | nil => simp at hk
  | cons l ls ih =>
    have hl := hf l
    cases k with
    | zero =>
      simp only [rowsC, List.flatMap_cons, Nat.mul_zero, Nat.zero_add]
      rw [List.getElem?_append_left (by omega)]
      rfl
    | succ k =>
      have e : n * (k + 1) = n * k + n := Nat.mul_succ n k
      simp only [rowsC, List.flatMap_cons]
      rw [List.getElem?_append_right (by omega)]
      have := ih k (by simpa using hk)
      simp only [List.getElem_cons_succ]
      rw [← this]
      show (rowsC f ls)[_]? = _
      congr 1
      omega
theorem Lies.rowAt {α : Type} {w : World} {a : Option Addr} (f : α → List Value) (n : Nat) (hf : ∀ x, (f x).length = n) {ls : List α} (h : Lies w a (rowsC f ls)) (k : Nat) (hk : k < ls.length) (hn : 0 < n) :
    ∃ b off, a = some ⟨b, off, none⟩ ∧ b < w.heap.size ∧ ∀ j v, (f ls[k])[j]? = some v → w.cell? ⟨b, off + k * n + j, none⟩ = some v := by
  rcases h with h | ⟨b, off, ha, hlt, hc⟩
  · have e := rowsC_get f n hf ls k hk 0 hn
    rw [h] at e
    have hl := hf ls[k]
    rw [List.getElem?_nil] at e
    have := List.getElem?_eq_none_iff.1 e.symm
    omega
  · refine ⟨b, off, ha, hlt, fun j v hv => ?_⟩
    have hj : j < n := by
      obtain ⟨hi, _⟩ := List.getElem?_eq_some_iff.1 hv
      have := hf ls[k]
      omega
    have e := rowsC_get f n hf ls k hk j hj
    rw [hv] at e
    obtain ⟨hi, hv'⟩ := List.getElem?_eq_some_iff.1 e
    have q := hc (n * k + j) hi
    rw [hv'] at q
    rw [← q]
    congr 2
    rw [Nat.mul_comm]
    omega


set_option maxRecDepth 100000
theorem info_of {e : TypeId} {z : Value} {s b : Nat} (hin : (Tryd.prog.info? e).map (fun i => (i.zero, i.size, i.bytes)) = some (some z, s, b)) : ∃ i0, Tryd.prog.info? e = some i0 ∧ i0.zero = some z ∧ i0.size = s ∧ i0.bytes = b := by
  cases hq : Tryd.prog.info? e with
  | none => rw [hq] at hin; cases hin
  | some i0 =>
    rw [hq] at hin
    simp only [Option.map_some, Option.some.injEq, Prod.mk.injEq] at hin
    exact ⟨i0, rfl, hin⟩

/-- A row of the program's own: its cells. -/
abbrev GRow (w : World) (B : Nat) (e : TypeId) (size : Nat) (v : Value) (n : Nat) (xs : List Value) : Prop := w.ownsRow B e size v n xs
theorem GRow.keep {S : Nat → Prop} {w w' : World} {B : Nat} {e : TypeId} {size n : Nat} {v : Value} {xs : List Value} (h : GRow w B e size v n xs) (hb : Keep S w w') (hn : ∀ g, v.ownBlock = some g → ¬ S g) : GRow w' B e size v n xs := by
  refine ⟨h.1, ?_⟩
  rcases h.2 with q | ⟨g, cap, cur, q, hbg, hg, rest⟩
  · exact .inl q
  · have hlt := (World.ownsRow.lt h g (by rw [q]; rfl)).2
    exact .inr ⟨g, cap, cur, q, hbg, (hb.block g hlt (hn g (by rw [q]; rfl))).trans hg, rest⟩
theorem GRow.below {w w' : World} {B : Nat} {e : TypeId} {size n : Nat} {v : Value} {xs : List Value} (h : GRow w B e size v n xs) (hb : Below w.heap.size w w') : GRow w' B e size v n xs :=
  GRow.keep h (Keep.of_below (S := fun _ => False) hb) (fun _ _ => id)
theorem GRow.mono {w : World} {B B' : Nat} {e : TypeId} {size n : Nat} {v : Value} {xs : List Value} (h : GRow w B e size v n xs) (hb : B' ≤ B) : GRow w B' e size v n xs := by
  refine ⟨h.1, ?_⟩
  rcases h.2 with q | ⟨g, cap, cur, q, hbg, rest⟩
  · exact .inl q
  · exact .inr ⟨g, cap, cur, q, Nat.le_trans hb hbg, rest⟩
theorem GRow.lies {w : World} {B : Nat} {e : TypeId} {size n : Nat} {v : Value} {xs : List Value} (h : GRow w B e size v n xs) : ∃ a c, v = .slice a n c ∧ Lies w a xs ∧ n ≤ c ∧ c ≤ maxLen ∧ (a = none → c = 0) ∧ (∀ ad, a = some ad → ad.off = 0 ∧ ad.spot = none) := by
  have hlt := World.ownsRow.lt h
  have hcs := fun g (hg : v.ownBlock = some g) => World.ownsRow.cells h hg
  obtain ⟨h1, h2⟩ := h
  rcases h2 with ⟨rfl, rfl⟩ | ⟨g, cap, cur, rfl, hbg, hg, hn, hm, hs, ht⟩
  · exact ⟨none, 0, rfl, .inl (List.length_eq_zero_iff.1 (by simpa using h1)), Nat.le_refl _, by unfold maxLen; omega, fun _ => rfl, nofun⟩
  · refine ⟨some ⟨g, 0, none⟩, cap, rfl, ?_, hn, hm, nofun, ?_⟩
    · refine .inr ⟨g, 0, rfl, (hlt g rfl).2, fun i hi => ?_⟩
      have := hcs g rfl i xs[i] (List.getElem?_eq_getElem hi)
      rw [addr_add] at this
      exact this
    · intro ad q
      cases q
      exact ⟨rfl, rfl⟩

/-- 'append(v, x..)' of a row of the program's own. -/
theorem run_pushR {t e : TypeId} {z : Value} {size bytes : Nat} (hu : Tryd.prog.underlying t = some (.slice e)) (hin : (Tryd.prog.info? e).map (fun i => (i.zero, i.size, i.bytes)) = some (some z, size, bytes)) (hz : z.cells.size = size) (hs : 0 < size) (hby : bytes ≤ 100) (ty : TypeId) (x : World)
    (B : Nat) (v : Value) (n : Nat) (xs : List Value) (hown : GRow x B e size v n xs) (ad : Addr) (m c : Nat) (news : List Value) (hl : news.length = m * size) (hnews : Lies x (some ad) news) (h1 : ∀ u ∈ news, u.oneCell' = true) (h63 : n + m ≤ 2000000) (hB : B ≤ x.heap.size) :
    ∃ v' x', (Builtin.append_ #[t, t] ty #[v, .slice (some ad) m c]).run Tryd.prog x = .ok v' x' ∧ GRow x' B e size v' (n + m) (xs ++ news) ∧ x.grownBy x' v.ownBlock ∧ (v'.ownBlock = v.ownBlock ∨ v'.ownBlock = some x.heap.size) := by
  obtain ⟨i0, hi, h0, h2, h3⟩ := info_of hin
  obtain ⟨v', w', hr, q2, q3, q4, q5⟩ := run_append_own_at (P := Tryd.prog) x B t ty e i0 z size bytes hu hi h0 h2 h3 hz hs v n xs hown ad m c news hl
    (by
      intro j u hj
      obtain ⟨b, off, e1, _, hc⟩ := hnews.cellAt j u hj
      cases e1
      rw [addr_add]
      exact hc) h1 (by unfold maxLen; omega) (by
      have : (n + m) * bytes ≤ 2000000 * 100 := Nat.mul_le_mul h63 hby
      omega) hB
  exact ⟨v', w', hr, q2, q3, q5⟩

/-- A builtin whose run is known, in a drawn region and in a plain one. -/
theorem wp_run {o : Oper} {a : Act} {x x' : World} {K : Act → World → Prop} {Q : Exit → Act → World → Prop} {cond : Bool} {t : TypeId} {v u v' : Value} (d : Nat) (s r : Operand) (hc : cond = true) (hd : o.dst = some d)
    (ho : o.op = .call { callee := .builtin .append, args := #[s, r], argTypes := #[t, t] }) (hs : a.eval s = v) (hr : a.eval r = u) (hrun : (Builtin.append_ #[t, t] o.type #[v, u]).run Tryd.prog x = .ok v' x')
    (h : K (a.put (some d) v') x') : if cond = true then Oper.wp Tryd.prog o a x K Q else K (a.put o.dst undef) x := by
  rw [if_pos hc]
  have hrun : (execOp a.eval o).run Tryd.prog x = .ok (.value v') x' := by
    unfold execOp
    simp only [ho, resolve, invoke, builtin, Sem.run_bind, Sem.run_pure, Result.andThen_ok, List.map_toArray, List.map_cons, List.map_nil, hs, hr, hrun]
  unfold Oper.wp
  rw [hrun]
  show K (a.put o.dst v') x'
  rw [hd]
  exact h
theorem wpList_run {o : Oper} {a : Act} {x x' : World} {ops : Array Oper} {rest : List Oper} {Q : Exit → Act → World → Prop} {t : TypeId} {v u v' : Value} (hgd : o.guard = none) (s r : Operand)
    (ho : o.op = .call { callee := .builtin .append, args := #[s, r], argTypes := #[t, t] }) (hs : a.eval s = v) (hr : a.eval r = u) (hrun : (Builtin.append_ #[t, t] o.type #[v, u]).run Tryd.prog x = .ok v' x')
    (h : wpList Tryd.prog ops Q rest (a.put o.dst v') x') : wpList Tryd.prog ops Q (o :: rest) a x := by
  refine wpList_plain hgd fun K hK => ?_
  have hrun : (execOp a.eval o).run Tryd.prog x = .ok (.value v') x' := by
    unfold execOp
    simp only [ho, resolve, invoke, builtin, Sem.run_bind, Sem.run_pure, Result.andThen_ok, List.map_toArray, List.map_cons, List.map_nil, hs, hr, hrun]
  unfold Oper.wp
  rw [hrun]
  exact hK _ _ h

theorem wpList_appR {t e : TypeId} {z : Value} {size bytes : Nat} (hu : Tryd.prog.underlying t = some (.slice e)) (hin : (Tryd.prog.info? e).map (fun i => (i.zero, i.size, i.bytes)) = some (some z, size, bytes)) (hz : z.cells.size = size) (hs0 : 0 < size) (hby : bytes ≤ 100)
    {w : World} {ops : Array Oper} {rest : List Oper} {o : Oper} {a : Act} {Q : Exit → Act → World → Prop} (hgd : o.guard = none) (s x : Operand) (ho : o.op = .call { callee := .builtin .append, args := #[s, x], argTypes := #[t, t] })
    (B : Nat) (v : Value) (n : Nat) (xs : List Value) (hs : a.eval s = v) (hown : GRow w B e size v n xs) (ax : Option Addr) (m c : Nat) (news : List Value) (hx : a.eval x = .slice ax m c) (hl : news.length = m * size) (hnews : Lies w ax news) (h1 : ∀ u ∈ news, u.oneCell' = true) (hnil : ax = none → c = 0 ∧ m = 0) (h63 : n + m ≤ 2000000) (hB : B ≤ w.heap.size)
    (h : ∀ v' w', GRow w' B e size v' (n + m) (xs ++ news) → w.grownBy w' v.ownBlock → (v'.ownBlock = v.ownBlock ∨ v'.ownBlock = some w.heap.size) → wpList Tryd.prog ops Q rest (a.put o.dst v') w') : wpList Tryd.prog ops Q (o :: rest) a w := by
  cases ax with
  | none =>
    obtain ⟨rfl, rfl⟩ := hnil rfl
    obtain ⟨i0, hi, h0, h2, h3⟩ := info_of hin
    have e0 : news = [] := List.eq_nil_of_length_eq_zero (by omega)
    subst e0
    refine wpList_append_own_none hgd s x t ho B e i0 size hu hi v n _ hs hown hx ?_
    exact h v w (by simpa using hown) (World.grownBy.refl _ _) (.inl rfl)
  | some ad =>
    obtain ⟨v', x', hr, q2, q3, q4⟩ := run_pushR hu hin hz hs0 hby o.type w B v n xs hown ad m c news hl hnews h1 h63 hB
    exact wpList_run hgd s x ho hs hx hr (h v' x' q2 q3 q4)

end Go.Proofs.YtakjpljpdlhicaaDoor
