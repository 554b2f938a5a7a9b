import Derived.Test.YtlibldioliicfaaChk2
import Derived.Test.YtlibldioliicfaaLit
import Derived.Maps.AppendAt
namespace Go.Proofs.Ytlibldioliicfaa
open Go.RowKit Go.QK

set_option maxRecDepth 100000
theorem info63 : (Try.prog.info? 63).map (fun i => (i.zero, i.size, i.bytes)) = some (some (.agg #[.int .i64 0, .int .i64 0, .bool false, .bool false]), 4, 24) := by kernel_rfl
theorem info65 : (Try.prog.info? 65).map (fun i => (i.zero, i.size, i.bytes)) = some (some (.agg #[.int .i64 0, .int .i64 0]), 2, 16) := by kernel_rfl
theorem info_of {e : TypeId} {z : Value} {s b : Nat} (hin : (Try.prog.info? e).map (fun i => (i.zero, i.size, i.bytes)) = some (some z, s, b)) : ∃ i0, Try.prog.info? e = some i0 ∧ i0.zero = some z ∧ i0.size = s ∧ i0.bytes = b := by
  cases hq : Try.prog.info? e with
  | none => rw [hq] at hin; cases hin
  | some i0 =>
    rw [hq] at hin
    simp only [Option.map_some, Option.some.injEq, Prod.mk.injEq] at hin
    exact ⟨i0, rfl, hin⟩

/-- A row of the program's own: its cells. -/
abbrev GRow (w : World) (B : Nat) (e : TypeId) (size : Nat) (v : Value) (n : Nat) (xs : List Value) : Prop := w.ownsRow B e size v n xs
theorem GRow.keep {S : Nat → Prop} {w w' : World} {B : Nat} {e : TypeId} {size n : Nat} {v : Value} {xs : List Value} (h : GRow w B e size v n xs) (hb : Keep S w w') (hn : ∀ g, v.ownBlock = some g → ¬ S g) : GRow w' B e size v n xs := by
  refine ⟨h.1, ?_⟩
  rcases h.2 with q | ⟨g, cap, cur, q, hbg, hg, rest⟩
  · exact .inl q
  · have hlt := (World.ownsRow.lt h g (by rw [q]; rfl)).2
    exact .inr ⟨g, cap, cur, q, hbg, (hb.block g hlt (hn g (by rw [q]; rfl))).trans hg, rest⟩
theorem GRow.below {w w' : World} {B : Nat} {e : TypeId} {size n : Nat} {v : Value} {xs : List Value} (h : GRow w B e size v n xs) (hb : Below w.heap.size w w') : GRow w' B e size v n xs :=
  GRow.keep h (Keep.of_below (S := fun _ => False) hb) (fun _ _ => id)
theorem GRow.mono {w : World} {B B' : Nat} {e : TypeId} {size n : Nat} {v : Value} {xs : List Value} (h : GRow w B e size v n xs) (hb : B' ≤ B) : GRow w B' e size v n xs := by
  refine ⟨h.1, ?_⟩
  rcases h.2 with q | ⟨g, cap, cur, q, hbg, rest⟩
  · exact .inl q
  · exact .inr ⟨g, cap, cur, q, Nat.le_trans hb hbg, rest⟩
theorem GRow.lies {w : World} {B : Nat} {e : TypeId} {size n : Nat} {v : Value} {xs : List Value} (h : GRow w B e size v n xs) : ∃ a c, v = .slice a n c ∧ Lies w a xs ∧ n ≤ c ∧ c ≤ maxLen ∧ (a = none → c = 0) ∧ (∀ ad, a = some ad → ad.off = 0 ∧ ad.spot = none) := by
  have hlt := World.ownsRow.lt h
  have hcs := fun g (hg : v.ownBlock = some g) => World.ownsRow.cells h hg
  obtain ⟨h1, h2⟩ := h
  rcases h2 with ⟨rfl, rfl⟩ | ⟨g, cap, cur, rfl, hbg, hg, hn, hm, hs, ht⟩
  · exact ⟨none, 0, rfl, .inl (List.length_eq_zero_iff.1 (by simpa using h1)), Nat.le_refl _, by unfold maxLen; omega, fun _ => rfl, nofun⟩
  · refine ⟨some ⟨g, 0, none⟩, cap, rfl, ?_, hn, hm, nofun, ?_⟩
    · refine .inr ⟨g, 0, rfl, (hlt g rfl).2, fun i hi => ?_⟩
      have := hcs g rfl i xs[i] (List.getElem?_eq_getElem hi)
      rw [addr_add] at this
      exact this
    · intro ad q
      cases q
      exact ⟨rfl, rfl⟩

/-- 'append(v, x..)' of a row of the program's own. -/
theorem run_pushR {t e : TypeId} {z : Value} {size bytes : Nat} (hu : Try.prog.underlying t = some (.slice e)) (hin : (Try.prog.info? e).map (fun i => (i.zero, i.size, i.bytes)) = some (some z, size, bytes)) (hz : z.cells.size = size) (hs : 0 < size) (hby : bytes ≤ 100) (ty : TypeId) (x : World)
    (B : Nat) (v : Value) (n : Nat) (xs : List Value) (hown : GRow x B e size v n xs) (ad : Addr) (m c : Nat) (news : List Value) (hl : news.length = m * size) (hnews : Lies x (some ad) news) (h1 : ∀ u ∈ news, u.oneCell' = true) (h63 : n + m ≤ 2000000) (hB : B ≤ x.heap.size) :
    ∃ v' x', (Builtin.append_ #[t, t] ty #[v, .slice (some ad) m c]).run Try.prog x = .ok v' x' ∧ GRow x' B e size v' (n + m) (xs ++ news) ∧ x.grownBy x' v.ownBlock ∧ (v'.ownBlock = v.ownBlock ∨ v'.ownBlock = some x.heap.size) := by
  obtain ⟨i0, hi, h0, h2, h3⟩ := info_of hin
  obtain ⟨v', w', hr, q2, q3, q4, q5⟩ := run_append_own_at (P := Try.prog) x B t ty e i0 z size bytes hu hi h0 h2 h3 hz hs v n xs hown ad m c news hl
    (by
      intro j u hj
      obtain ⟨b, off, e1, _, hc⟩ := hnews.cellAt j u hj
      cases e1
      rw [addr_add]
      exact hc) h1 (by unfold maxLen; omega) (by
      have : (n + m) * bytes ≤ 2000000 * 100 := Nat.mul_le_mul h63 hby
      omega) hB
  exact ⟨v', w', hr, q2, q3, q5⟩
theorem liveC_one (l : LiveM) : ∀ u ∈ liveC l, u.oneCell' = true := by intro u hu; simp [liveC] at hu; rcases hu with rfl | rfl | rfl | rfl <;> rfl
theorem dirtyC_one (l : DirtyM) : ∀ u ∈ dirtyC l, u.oneCell' = true := by intro u hu; simp [dirtyC] at hu; rcases hu with rfl | rfl <;> rfl
abbrev LRow (w : World) (B : Nat) (v : Value) (ls : List LiveM) : Prop := GRow w B 63 4 v ls.length (liveCs ls)
abbrev DRow (w : World) (B : Nat) (v : Value) (ls : List DirtyM) : Prop := GRow w B 65 2 v ls.length (dirtyCs ls)
theorem run_pushL (ty : TypeId) (x : World) (B : Nat) (v : Value) (ls : List LiveM) (hown : LRow x B v ls) (ad : Addr) (y : LiveM) (hc : Lies x (some ad) (liveC y)) (h63 : ls.length + 1 ≤ 2000000) (hB : B ≤ x.heap.size) :
    ∃ v' x', (Builtin.append_ #[31, 31] ty #[v, .slice (some ad) 1 1]).run Try.prog x = .ok v' x' ∧ LRow x' B v' (ls ++ [y]) ∧ x.grownBy x' v.ownBlock ∧ (v'.ownBlock = v.ownBlock ∨ v'.ownBlock = some x.heap.size) := by
  obtain ⟨v', x', h1, h2, h3, h4⟩ := run_pushR Try.underlying31 info63 rfl (by decide) (by decide) ty x B v ls.length (liveCs ls) hown ad 1 1 (liveC y) rfl hc (liveC_one y) h63 hB
  exact ⟨v', x', h1, by simpa [LRow, liveCs] using h2, h3, h4⟩
theorem run_pushD (ty : TypeId) (x : World) (B : Nat) (v : Value) (ls : List DirtyM) (hown : DRow x B v ls) (ad : Addr) (y : DirtyM) (hc : Lies x (some ad) (dirtyC y)) (h63 : ls.length + 1 ≤ 2000000) (hB : B ≤ x.heap.size) :
    ∃ v' x', (Builtin.append_ #[32, 32] ty #[v, .slice (some ad) 1 1]).run Try.prog x = .ok v' x' ∧ DRow x' B v' (ls ++ [y]) ∧ x.grownBy x' v.ownBlock ∧ (v'.ownBlock = v.ownBlock ∨ v'.ownBlock = some x.heap.size) := by
  obtain ⟨v', x', h1, h2, h3, h4⟩ := run_pushR Try.underlying32 info65 rfl (by decide) (by decide) ty x B v ls.length (dirtyCs ls) hown ad 1 1 (dirtyC y) rfl hc (dirtyC_one y) h63 hB
  exact ⟨v', x', h1, by simpa [DRow, dirtyCs] using h2, h3, h4⟩
/-- A builtin whose run is known, in a drawn region and in a plain one. -/
theorem wp_run {o : Oper} {a : Act} {x x' : World} {K : Act → World → Prop} {Q : Exit → Act → World → Prop} {cond : Bool} {t : TypeId} {v u v' : Value} (d : Nat) (s r : Operand) (hc : cond = true) (hd : o.dst = some d)
    (ho : o.op = .call { callee := .builtin .append, args := #[s, r], argTypes := #[t, t] }) (hs : a.eval s = v) (hr : a.eval r = u) (hrun : (Builtin.append_ #[t, t] o.type #[v, u]).run Try.prog x = .ok v' x')
    (h : K (a.put (some d) v') x') : if cond = true then Oper.wp Try.prog o a x K Q else K (a.put o.dst undef) x := by
  rw [if_pos hc]
  have hrun : (execOp a.eval o).run Try.prog x = .ok (.value v') x' := by
    unfold execOp
    simp only [ho, resolve, invoke, builtin, Sem.run_bind, Sem.run_pure, Result.andThen_ok, List.map_toArray, List.map_cons, List.map_nil, hs, hr, hrun]
  unfold Oper.wp
  rw [hrun]
  show K (a.put o.dst v') x'
  rw [hd]
  exact h
theorem wpList_run {o : Oper} {a : Act} {x x' : World} {ops : Array Oper} {rest : List Oper} {Q : Exit → Act → World → Prop} {t : TypeId} {v u v' : Value} (hgd : o.guard = none) (s r : Operand)
    (ho : o.op = .call { callee := .builtin .append, args := #[s, r], argTypes := #[t, t] }) (hs : a.eval s = v) (hr : a.eval r = u) (hrun : (Builtin.append_ #[t, t] o.type #[v, u]).run Try.prog x = .ok v' x')
    (h : wpList Try.prog ops Q rest (a.put o.dst v') x') : wpList Try.prog ops Q (o :: rest) a x := by
  refine wpList_plain hgd fun K hK => ?_
  have hrun : (execOp a.eval o).run Try.prog x = .ok (.value v') x' := by
    unfold execOp
    simp only [ho, resolve, invoke, builtin, Sem.run_bind, Sem.run_pure, Result.andThen_ok, List.map_toArray, List.map_cons, List.map_nil, hs, hr, hrun]
  unfold Oper.wp
  rw [hrun]
  exact hK _ _ h
end Go.Proofs.Ytlibldioliicfaa
