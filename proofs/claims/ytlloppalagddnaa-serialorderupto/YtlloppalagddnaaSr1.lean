import Derived.Test.YtlloppalagddnaaSrC
set_option linter.all false
namespace Go.Proofs.Ytlloppalagddnaa
open Go.RowKit Go.QK Go.Maps Go.QM Go.QS Quota
set_option maxRecDepth 100000

/-! A history in memory. -/
theorem wp_look {o : Oper} {a : Act} {x x' : World} {K : Act → World → Prop} {Q : Exit → Act → World → Prop} {cond : Bool} {t : TypeId} {v u v' : Value} {ok : Bool} (d : Nat) (s r : Operand) (hc : cond = true) (hd : o.dst = some d)
    (ho : o.op = .lookup t s r ok) (hs : a.eval s = v) (hr : a.eval r = u) (hrun : (Instr.lookup t v u ok).run Try.prog x = .ok v' x')
    (h : K (a.put (some d) v') x') : if cond = true then Oper.wp Try.prog o a x K Q else K (a.put o.dst undef) x := by
  rw [if_pos hc]
  unfold Oper.wp
  simp [execOp, ho, hs, hr, hrun, Result.andThen]
  rw [Oper.upon_value, hd]
  exact h
theorem wp_upd {o : Oper} {a : Act} {x x' : World} {K : Act → World → Prop} {Q : Exit → Act → World → Prop} {cond : Bool} {t : TypeId} {v u y : Value} (s r z : Operand) (hc : cond = true)
    (ho : o.op = .mapUpdate t s r z) (hs : a.eval s = v) (hr : a.eval r = u) (hz : a.eval z = y) (hrun : (Instr.mapUpdate t v u y).run Try.prog x = .ok () x')
    (h : K (a.put o.dst undef) x') : if cond = true then Oper.wp Try.prog o a x K Q else K (a.put o.dst undef) x := by
  rw [if_pos hc]
  unfold Oper.wp
  simp [execOp, ho, hs, hr, hz, hrun, Result.andThen]
  rw [Oper.upon_skip]
  exact h
theorem wp_del {o : Oper} {a : Act} {x x' : World} {K : Act → World → Prop} {Q : Exit → Act → World → Prop} {cond : Bool} {t k : TypeId} {v u : Value} (s r : Operand) (hc : cond = true)
    (ho : o.op = .call { callee := .builtin .delete, args := #[s, r], argTypes := #[t, k] }) (hs : a.eval s = v) (hr : a.eval r = u) (hrun : (Builtin.delete_ #[t, k] o.type #[v, u]).run Try.prog x = .ok (.tuple #[]) x') (hd : o.dst = none)
    (h : K a x') : if cond = true then Oper.wp Try.prog o a x K Q else K (a.put o.dst undef) x := by
  rw [if_pos hc]
  have hrun : (execOp a.eval o).run Try.prog x = .ok (.value (.tuple #[])) x' := by
    unfold execOp
    simp only [ho, resolve, invoke, builtin, Sem.run_bind, Sem.run_pure, Result.andThen_ok, List.map_toArray, List.map_cons, List.map_nil, hs, hr, hrun]
  unfold Oper.wp
  rw [hrun]
  show K (a.put o.dst (.tuple #[])) x'
  rw [hd]
  exact h
theorem any_upd {P : Program} {t k e : TypeId} (K : Keyed P k) (ht : P.underlying t = some (.map k e)) {w : World} {m : Nat} {L : Prs Value} (h : AnyAt P k w m L) (hu : Up L) {x : Int} (hk : keyOf P k (.int .i64 x) = some (.int .i64 x)) (hl : L.length < 4611686018427387904) (v : Value) :
    ∃ w', (Instr.mapUpdate t (.map (some m)) (.int .i64 x) v).run P w = .ok () w' ∧ AnyAt P k w' m (putM x v L) ∧ w.grownBy w' (some m) := by
  obtain ⟨w', h1, h2, h3⟩ := World.ownsMap.update h K ht (by unfold maxLen; omega) hk (show anyElem v = some (.held v, []) from rfl)
  exact ⟨w', h1, AnyAt.put hu h2, h3⟩
theorem lies_val (w : World) (v : Value) (t : TypeId) : Lies (w.alloc (.cells #[v] t)) (some ⟨w.heap.size, 0, none⟩) [v] := by
  have h := Cells.new w #[v] t
  refine .inr ⟨w.heap.size, 0, rfl, h.1, fun i hi => ?_⟩
  have q := (h.2 i (by simpa using hi)).1
  rw [Nat.zero_add]
  exact q
theorem getM_map {α β : Type} (f : α → β) (L : Prs α) (k : Int) : getM (L.map (fun p => (p.1, f p.2))) k = (getM L k).map f := by
  induction L with
  | nil => rfl
  | cons p r ih =>
    rw [List.map_cons, getM_cons, getM_cons, ih]
    split <;> rfl
theorem up_ext {α : Type} {L M : Prs α} (h1 : Up L) (h2 : Up M) (h : ∀ k, getM L k = getM M k) : L = M := by
  induction L generalizing M with
  | nil =>
    cases M with
    | nil => rfl
    | cons q s =>
      have := h q.1
      rw [getM_cons, if_pos rfl] at this
      simp [getM] at this
  | cons p r ih =>
    cases M with
    | nil =>
      have := h p.1
      rw [getM_cons, if_pos rfl] at this
      simp [getM] at this
    | cons q s =>
      have hp := h p.1
      have hq := h q.1
      rw [getM_cons, if_pos rfl, getM_cons] at hp
      rw [getM_cons, getM_cons, if_pos rfl] at hq
      have e1 : p.1 = q.1 := by
        by_cases e : q.1 = p.1
        · exact e.symm
        · rw [if_neg e] at hp
          rw [if_neg (fun r => e r.symm)] at hq
          have a1 := h2.head _ (getM_mem hp.symm)
          have a2 := h1.head _ (getM_mem hq)
          simp at a1 a2
          omega
      rw [if_pos e1.symm] at hp
      have e2 : p = q := by
        obtain ⟨a, b⟩ := p
        obtain ⟨c, d⟩ := q
        simp at e1 hp
        rw [e1, hp]
      subst e2
      congr 1
      refine ih h1.tail h2.tail (fun k => ?_)
      have hk := h k
      rw [getM_cons, getM_cons] at hk
      by_cases e : p.1 = k
      · have n1 : getM r k = none := getM_none (fun x hx => by have := h1.head x hx; omega)
        have n2 : getM s k = none := getM_none (fun x hx => by have := h2.head x hx; omega)
        rw [n1, n2]
      · rw [if_neg e, if_neg e] at hk
        exact hk
/-- A transaction ends: at every counter, or at those of a list, one behind the other. -/
theorem putM_map {α β : Type} (f : α → β) (k : Int) (v : α) (L : Prs α) : (putM k v L).map (fun p => (p.1, f p.2)) = putM k (f v) (L.map (fun p => (p.1, f p.2))) := by
  induction L with
  | nil => rfl
  | cons p r ih =>
    simp only [putM, List.map_cons]
    split
    · rfl
    · split
      · rfl
      · simp [ih]
theorem up_map {α β : Type} (f : α → β) {L : Prs α} : Up (L.map (fun p => (p.1, f p.2))) ↔ Up L := by
  unfold Up
  rw [List.pairwise_map]
theorem up_len {α : Type} {L : Prs α} (h : Up L) {a b : Int} (hr : ∀ p ∈ L, a ≤ p.1 ∧ p.1 ≤ b) : L.length ≤ (b + 1 - a).toNat := by
  induction L generalizing a with
  | nil => simp
  | cons p r ih =>
    have h1 := hr p (by simp)
    have := ih h.tail (a := p.1 + 1) (fun q hq => ⟨by have := h.head q hq; omega, (hr q (by simp [hq])).2⟩)
    simp only [List.length_cons]
    omega
theorem delM_map {α β : Type} (f : α → β) (k : Int) (L : Prs α) : (delM L k).map (fun p => (p.1, f p.2)) = delM (L.map (fun p => (p.1, f p.2))) k := by
  unfold delM
  rw [List.filter_map]
  rfl
/-- A run as it lies in memory. -/
structure RV where
  tx : Int
  a : Option Addr
  c : Nat
  l : Prs Int
def rvC (r : RV) : List Value := [.int .i64 r.tx, .slice r.a r.l.length r.c]
abbrev Hd := Prs (Value × List Int)
def hldV (D : Hd) (t : Int) : Value := ((getM D t).map Prod.fst).getD (.slice none 0 0)
def idsD (D : Hd) (t : Int) : List Int := ((getM D t).map Prod.snd).getD []
def netV (S : St) (t c : Int) : Option Value := (getM (S t) c).map (Value.int .i64)
abbrev mapD (D : Hd) : Prs Value := D.map (fun p => (p.1, p.2.1))
/-- Whose block is it? 1 the history's own, 2 3 its maps', 4 its runs', 5 a run's nets', 10 + tx a transaction's list. -/
structure PH (lab : Nat → Nat) (B : Nat) (w : World) (hb mn mh : Nat) (rv : Value) (rs : List RV) (D : Hd) (S : St) (n : Nat) : Prop where
  box : Cells w hb [rv, .map (some mn), .map (some mh)]
  runs : GRow w B 32 2 rv rs.length (rowsC rvC rs)
  nets : ∀ r ∈ rs, Lies w r.a (hns (ofT r.tx r.l)) ∧ (∀ ad, r.a = some ad → ad.block < w.heap.size ∧ lab ad.block = 5)
  nm : NM w mn (netV S) n
  hm : AnyAt Try.prog 3 w mh (mapD D)
  own : ∀ p ∈ D, Owns .i64 3 w B p.2.1 p.2.2
  up : Up D
  cov : ∀ t c, (getM (S t) c).isSome → c ∈ idsD D t
  ok : StOk S
  rng : ∀ p ∈ D, 1 ≤ p.1 ∧ p.1 ≤ 2147483647 ∧ p.2.2.length ≤ n ∧ ∀ c ∈ p.2.2, 1 ≤ c ∧ c ≤ 1048576
  l1 : lab hb = 1
  l2 : lab mn = 2
  l3 : lab mh = 3
  l4 : ∀ g, rv.ownBlock = some g → lab g = 4
  l6 : ∀ p ∈ D, ∀ g, p.2.1.ownBlock = some g → lab g = 10 + p.1.toNat
  low : B ≤ hb ∧ B ≤ mn ∧ B ≤ mh
  rlen : rs.length ≤ n
section
variable {lab : Nat → Nat} {B : Nat} {w w' : World} {hb mn mh : Nat} {rv : Value} {rs : List RV} {D : Hd} {S : St} {n : Nat}
theorem PH.below (h : PH lab B w hb mn mh rv rs D S n) (k : Below w.heap.size w w') : PH lab B w' hb mn mh rv rs D S n :=
  ⟨h.box.below k, h.runs.below k, fun r hr => ⟨(h.nets r hr).1.below k, fun ad ha => ⟨Nat.lt_of_lt_of_le ((h.nets r hr).2 ad ha).1 k.size, ((h.nets r hr).2 ad ha).2⟩⟩, h.nm.below k, anyAt_below h.hm k, fun p hp => (h.own p hp).below k, h.up, h.cov, h.ok, h.rng, h.l1, h.l2, h.l3, h.l4, h.l6, h.low, h.rlen⟩
theorem PH.mono {n' : Nat} (h : PH lab B w hb mn mh rv rs D S n) (hn : n ≤ n') : PH lab B w hb mn mh rv rs D S n' :=
  ⟨h.box, h.runs, h.nets, h.nm.mono hn, h.hm, h.own, h.up, h.cov, h.ok, fun p hp => by have := h.rng p hp; exact ⟨this.1, this.2.1, by omega, this.2.2.2⟩, h.l1, h.l2, h.l3, h.l4, h.l6, h.low, by have := h.rlen; omega⟩
theorem PH.lenD (h : PH lab B w hb mn mh rv rs D S n) : D.length ≤ 2147483647 := by
  have := up_len h.up (a := 1) (b := 2147483647) (fun p hp => ⟨(h.rng p hp).1, (h.rng p hp).2.1⟩)
  omega
theorem hld_none {t : Int} (h : getM D t = none) : hldV D t = .slice none 0 0 ∧ idsD D t = [] := by unfold hldV idsD; rw [h]; exact ⟨rfl, rfl⟩
theorem PH.heldO (h : PH lab B w hb mn mh rv rs D S n) (t : Int) : Owns .i64 3 w B (hldV D t) (idsD D t) := by
  unfold hldV idsD
  cases q : getM D t with
  | none => exact Owns.nil _ _ _ _
  | some u => exact h.own _ (getM_mem q)
theorem PH.heldL (h : PH lab B w hb mn mh rv rs D S n) {t : Int} {g : Nat} (hg : (hldV D t).ownBlock = some g) : lab g = 10 + t.toNat := by
  unfold hldV at hg
  cases q : getM D t with
  | none => rw [q] at hg; cases hg
  | some u => rw [q] at hg; exact h.l6 _ (getM_mem q) g hg
theorem PH.idsL (h : PH lab B w hb mn mh rv rs D S n) (t : Int) : (idsD D t).length ≤ n ∧ ∀ c ∈ idsD D t, 1 ≤ c ∧ c ≤ 1048576 := by
  unfold idsD
  cases q : getM D t with
  | none => exact ⟨Nat.zero_le _, fun c hc => by cases hc⟩
  | some u => exact (h.rng _ (getM_mem q)).2.2
theorem PH.lt (h : PH lab B w hb mn mh rv rs D S n) : hb < w.heap.size ∧ mn < w.heap.size ∧ mh < w.heap.size ∧ (∀ g, rv.ownBlock = some g → g < w.heap.size) ∧ ∀ p ∈ D, ∀ g, p.2.1.ownBlock = some g → g < w.heap.size :=
  ⟨h.box.1, h.nm.lt, World.ownsMap.lt h.hm, fun g hg => (World.ownsRow.lt h.runs g hg).2, fun p hp g hg => (World.ownsRow.lt (h.own p hp) g hg).2⟩
theorem PH.heldD (_ : PH lab B w hb mn mh rv rs D S n) (t : Int) : (getM (mapD D) t).getD (.slice none 0 0) = hldV D t := by
  have : getM (mapD D) t = (getM D t).map Prod.fst := getM_map (fun (x : Value × List Int) => x.1) D t
  rw [this]
  rfl
theorem netV_I (h : StOk S) (t c : Int) : (netV S t c).getD (.int .i64 0) = .int .i64 (netOf S t c) := by
  unfold netV netOf
  cases getM (S t) c <;> rfl
theorem netV_some (t c : Int) : (netV S t c).isSome = (getM (S t) c).isSome := by
  unfold netV
  cases getM (S t) c <;> rfl
/-- The blocks that the history's calls may touch. -/
def hisS (B : Nat) (lab : Nat → Nat) (z : Nat) : Prop := B ≤ z ∧ lab z ≠ 5 ∧ lab z ≠ 0
/-- One more in a list of counters. -/
theorem run_held (x : World) (B : Nat) (v : Value) (xs : List Int) (hown : Owns .i64 3 x B v xs) (id : Int) (hl : (xs.length + 1) * 8 ≤ 140737488355328) (hB : B ≤ x.heap.size) :
    ∃ v' x', (Builtin.append_ #[37, 37] 37 #[v, .slice (some ⟨x.heap.size, 0, none⟩) 1 1]).run Try.prog (x.alloc (.cells #[.int .i64 id] 3)) = .ok v' x' ∧ Owns .i64 3 x' B v' (xs ++ [id]) ∧ Keep (fun z => v.ownBlock = some z) x x' ∧ (v'.ownBlock = v.ownBlock ∨ ∃ g, v'.ownBlock = some g ∧ x.heap.size ≤ g) := by
  obtain ⟨v', x', h1, h2, h3, h4⟩ := run_pushW Try.underlying37 info3 rfl (by decide) 37 (x.alloc (.cells #[.int .i64 id] 3)) B v xs.length (xs.map (Value.int .i64)) (hown.alloc _) ⟨x.heap.size, 0, none⟩ 1 1 [.int .i64 id] rfl (lies_val x _ 3) (by intro u hu; simp at hu; subst hu; rfl) hl (by decide) (by simp; omega)
  refine ⟨v', x', h1, ?_, ((Keep.refl (fun z => v.ownBlock = some z) x).alloc _).grown h3 (fun g hg _ => hg), ?_⟩
  · unfold Owns
    rw [List.length_append, List.map_append]
    exact h2
  · rcases h4 with h | h
    · exact .inl h
    · exact .inr ⟨_, h, by simp⟩
def labT (lab : Nat → Nat) (N : Nat) (x : Nat) (z : Nat) : Nat := if z < N then lab z else x
/-- Maps and lists turn; the history's own block, its runs and their nets stay. -/
theorem PH.turn {lab' : Nat → Nat} {T : Nat → Prop} {D' : Hd} {S' : St} {n' : Nat} (h : PH lab B w hb mn mh rv rs D S n) (hl : ∀ z, z < w.heap.size → lab' z = lab z) (hk : Keep T w w') (hT : ∀ z, z < w.heap.size → T z → lab z = 2 ∨ lab z = 3 ∨ 10 ≤ lab z) (hn : n ≤ n')
    (h1 : NM w' mn (netV S') n') (h2 : AnyAt Try.prog 3 w' mh (mapD D')) (h3 : ∀ p ∈ D', Owns .i64 3 w' B p.2.1 p.2.2) (h4 : Up D') (h5 : ∀ t c, (getM (S' t) c).isSome → c ∈ idsD D' t) (h6 : StOk S')
    (h7 : ∀ p ∈ D', 1 ≤ p.1 ∧ p.1 ≤ 2147483647 ∧ p.2.2.length ≤ n' ∧ ∀ c ∈ p.2.2, 1 ≤ c ∧ c ≤ 1048576) (h8 : ∀ p ∈ D', ∀ g, p.2.1.ownBlock = some g → lab' g = 10 + p.1.toNat) :
    PH lab' B w' hb mn mh rv rs D' S' n' := by
  obtain ⟨n1, n2, n3, n4, n5⟩ := h.lt
  have u1 := h.l1
  refine ⟨h.box.keep hk (fun q => by have := hT _ n1 q; omega), h.runs.keep hk (fun g hg q => by have := hT _ (n4 g hg) q; have := h.l4 g hg; omega), fun r hr => ⟨(h.nets r hr).1.keep hk (fun ad ha q => ?_), fun ad ha => ?_⟩, h1, h2, h3, h4, h5, h6, h7, (hl _ n1).trans h.l1, (hl _ n2).trans h.l2, (hl _ n3).trans h.l3, fun g hg => (hl _ (n4 g hg)).trans (h.l4 g hg), h8, h.low, by have := h.rlen; omega⟩
  · have := (h.nets r hr).2 ad ha
    have := hT _ this.1 q
    omega
  · have := (h.nets r hr).2 ad ha
    exact ⟨Nat.lt_of_lt_of_le this.1 hk.size, (hl _ this.1).trans this.2⟩
theorem getS (S : St) (hu : ∀ t, Up (S t)) (t c v x y : Int) : getM (setS S t (putM c v (S t)) x) y = if x = t ∧ y = c then some v else getM (S x) y := by
  unfold setS
  by_cases q : x = t
  · subst q
    rw [if_pos rfl, getM_put (hu _)]
    by_cases q2 : y = c
    · subst q2; simp
    · simp [q2]
  · rw [if_neg q, if_neg (fun r => q r.1)]
theorem netS (S : St) (hu : ∀ t, Up (S t)) (t c v x y : Int) : netV (setS S t (putM c v (S t))) x y = if x = t ∧ y = c then some (.int .i64 v) else netV S x y := by
  unfold netV
  rw [getS S hu]
  split <;> rfl
theorem ok_put (h : StOk S) {t c v : Int} (hc : 1 ≤ c ∧ c ≤ 1048576) (hv : I64 v) : StOk (setS S t (putM c v (S t))) :=
  h.set ((h.up _).put _ _) (fun p hp => by rcases mem_putM hp with rfl | q; exact hv; exact h.fit _ _ q) (fun p hp => by rcases mem_putM hp with rfl | q; exact hc; exact h.ids _ _ q)
/-- An Add to what is held. -/
theorem PH.add_old {t c v : Int} (h : PH lab B w hb mn mh rv rs D S n) (hc : 1 ≤ c ∧ c ≤ 1048576) (hv : I64 v) (hk : Keep (fun z => z = mn) w w')
    (h1 : NM w' mn (fun x y => if x = t ∧ y = c then some (.int .i64 v) else netV S x y) (n + 1)) (hs : (getM (S t) c).isSome = true) :
    PH lab B w' hb mn mh rv rs D (setS S t (putM c v (S t))) (n + 1) := by
  have d1 : ¬ mh = mn := fun q => by have := h.l2; have := h.l3; rw [q] at this; omega
  refine h.turn (fun _ _ => rfl) hk (fun z _ q => .inl (by rw [q]; exact h.l2)) (by omega) (h1.congr (fun x y _ _ => (netS S h.ok.up t c v x y).symm)) (anyAt_keep h.hm hk d1) (fun p hp => (h.own p hp).keep hk (fun g hg q => by have := h.l6 p hp g hg; have := h.l2; rw [q] at *; omega)) h.up (fun x y hx => ?_) (ok_put h.ok hc hv) (fun p hp => by have := h.rng p hp; exact ⟨this.1, this.2.1, by omega, this.2.2.2⟩) h.l6
  rw [getS S h.ok.up] at hx
  split at hx
  · rename_i q
    rw [q.1, q.2]
    exact h.cov t c hs
  · exact h.cov x y hx
theorem hld_put {D : Hd} (hu : Up D) (t x : Int) (u : Value) (ids : List Int) : hldV (putM t (u, ids) D) x = (if x = t then u else hldV D x) ∧ idsD (putM t (u, ids) D) x = (if x = t then ids else idsD D x) := by
  unfold hldV idsD
  rw [getM_put hu]
  split <;> exact ⟨rfl, rfl⟩
/-- An Add of something new. -/
theorem PH.add_new {t c v : Int} {u : Value} (h : PH lab B w hb mn mh rv rs D S n) (ht : 1 ≤ t ∧ t ≤ 2147483647) (hc : 1 ≤ c ∧ c ≤ 1048576) (hv : I64 v)
    (hk : Keep (fun z => z = mn ∨ z = mh ∨ (hldV D t).ownBlock = some z) w w')
    (h1 : NM w' mn (fun x y => if x = t ∧ y = c then some (.int .i64 v) else netV S x y) (n + 1))
    (h2 : AnyAt Try.prog 3 w' mh (putM t u (mapD D))) (h3 : Owns .i64 3 w' B u (idsD D t ++ [c])) (h4 : u.ownBlock = (hldV D t).ownBlock ∨ ∃ g, u.ownBlock = some g ∧ w.heap.size ≤ g) :
    PH (labT lab w.heap.size (10 + t.toNat)) B w' hb mn mh rv rs (putM t (u, idsD D t ++ [c]) D) (setS S t (putM c v (S t))) (n + 1) := by
  have lk : ∀ z, z < w.heap.size → labT lab w.heap.size (10 + t.toNat) z = lab z := fun z hz => if_pos hz
  have nS : ∀ z, (z = mn ∨ z = mh ∨ (hldV D t).ownBlock = some z) → lab z = 2 ∨ lab z = 3 ∨ lab z = 10 + t.toNat := by
    rintro z (q | q | q)
    · left; rw [q]; exact h.l2
    · right; left; rw [q]; exact h.l3
    · right; right; exact PH.heldL h q
  have hlt := h.lt.2.2.2.2
  refine h.turn lk hk (fun z _ q => by have := nS z q; omega) (by omega) (h1.congr (fun x y _ _ => (netS S h.ok.up t c v x y).symm)) ?_ (fun p hp => ?_) (h.up.put _ _) (fun x y hx => ?_) (ok_put h.ok hc hv) (fun p hp => ?_) (fun p hp g hg => ?_)
  · show AnyAt Try.prog 3 w' mh ((putM t (u, idsD D t ++ [c]) D).map (fun (p : Int × Value × List Int) => (p.1, p.2.1)))
    rw [putM_map (fun (x : Value × List Int) => x.1)]
    exact h2
  · by_cases e : p.1 = t
    · have := getM_of_mem (h.up.put t (u, idsD D t ++ [c])) hp
      rw [getM_put h.up, if_pos e] at this
      rw [← Option.some.inj this]
      exact h3
    · rcases mem_putM hp with q | q
      · exact absurd (by rw [q]) e
      · exact (h.own p q).keep hk (fun g hg r => by have a1 := nS _ r; have a2 := h.l6 p q g hg; have := (h.rng p q).1; omega)
  · rw [(hld_put h.up t x u _).2]
    rw [getS S h.ok.up] at hx
    split at hx
    · rename_i q
      rw [if_pos q.1, q.2]
      simp
    · have := h.cov x y hx
      split
      · rename_i q
        rw [q] at this
        exact List.mem_append_left _ this
      · exact this
  · rcases mem_putM hp with q | q
    · rw [q]
      have := h.idsL t
      refine ⟨ht.1, ht.2, by simp; omega, fun x hx => ?_⟩
      rcases List.mem_append.1 hx with r | r
      · exact this.2 x r
      · simp at r; rw [r]; exact hc
    · have := h.rng p q
      exact ⟨this.1, this.2.1, by omega, this.2.2.2⟩
  · by_cases e : p.1 = t
    · have := getM_of_mem (h.up.put t (u, idsD D t ++ [c])) hp
      rw [getM_put h.up, if_pos e] at this
      rw [← Option.some.inj this] at hg
      rw [e]
      rcases h4 with r | ⟨g2, r, r2⟩
      · rw [r] at hg
        have h9 := (World.ownsRow.lt (h.heldO t) g hg).2
        rw [lk g h9]
        exact PH.heldL h hg
      · rw [r] at hg
        cases hg
        exact if_neg (by omega)
    · rcases mem_putM hp with q | q
      · exact absurd (by rw [q]) e
      · rw [lk g (hlt p q g hg)]
        exact h.l6 p q g hg
end
end Go.Proofs.Ytlloppalagddnaa
