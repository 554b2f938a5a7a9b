import Derived.Maps.OwnSet
import Derived.Maps.RangeWalk
import Derived.Maps.Ext
import Derived.WideKeyEntry
namespace Go.QM
open Go.Maps

/-! A map with keys of kind int as a list of pairs, rising by the key; en: how an element reads. -/
variable {α H : Type}
abbrev Prs (α : Type) := List (Int × α)
def Up (L : Prs α) : Prop := L.Pairwise (fun p q => p.1 < q.1)
def getM (L : Prs α) (k : Int) : Option α := (L.find? (fun p => p.1 == k)).map Prod.snd
def hasM (L : Prs α) (k : Int) : Bool := L.any (fun p => p.1 == k)
def putM (k : Int) (v : α) : Prs α → Prs α
  | [] => [(k, v)]
  | p :: r => if k < p.1 then (k, v) :: p :: r else if p.1 = k then (k, v) :: r else p :: putM k v r
def delM (L : Prs α) (k : Int) : Prs α := L.filter (fun p => !(p.1 == k))
def entE (en : α → DataW H) (p : Int × α) : Lit × DataW H := (.int .i64 p.1, en p.2)
def mapE (en : α → DataW H) (L : Prs α) : DataW H := .map (L.map (entE en))

variable {en : α → DataW H}
theorem same_entE (p : Int × α) (k : Int) : (entE en p).1.sameKey (.int .i64 k) = (p.1 == k) := by simp [entE, Lit.sameKey, BEq.beq]
theorem filter_entE (L : Prs α) (k : Int) : (L.map (entE en)).filter (fun p => !p.1.sameKey (.int .i64 k)) = (delM L k).map (entE en) := by
  induction L with
  | nil => rfl
  | cons p r ih =>
    unfold delM at ih ⊢
    simp only [List.map_cons, List.filter_cons, same_entE]
    cases hk : (p.1 == k)
    · simp [ih]
    · simp [ih]
theorem mapE_del (L : Prs α) (k : Int) : (mapE en L).del (.int .i64 k) = mapE en (delM L k) := by
  unfold mapE DataW.del
  simp only [filter_entE]
theorem mapE_has (L : Prs α) (k : Int) : Maps.has (mapE en L) (.int .i64 k) = hasM L k := by
  unfold mapE Maps.has hasM
  induction L with
  | nil => rfl
  | cons p r ih => simp only [List.map_cons, List.any_cons, same_entE, ih]
theorem mapE_size (L : Prs α) : Maps.size (mapE en L) = L.length := by simp [mapE, Maps.size]
theorem find_entE (L : Prs α) (k : Int) : (L.map (entE en)).find? (fun p => p.1.sameKey (.int .i64 k)) = (L.find? (fun p => p.1 == k)).map (entE en) := by
  induction L with
  | nil => rfl
  | cons p r ih =>
    simp only [List.map_cons, List.find?_cons, same_entE, ih]
    cases hk : (p.1 == k) <;> simp
theorem mapE_at (L : Prs α) (k : Int) (z : DataW H) : (mapE en L).atKey (.int .i64 k) z = ((getM L k).map en).getD z := by
  unfold mapE DataW.atKey getM
  simp only [find_entE]
  cases L.find? (fun p => p.1 == k) <;> simp [entE]
theorem Up.tail {p : Int × α} {r : Prs α} (h : Up (p :: r)) : Up r := (List.pairwise_cons.1 h).2
theorem Up.head {p : Int × α} {r : Prs α} (h : Up (p :: r)) : ∀ q ∈ r, p.1 < q.1 := (List.pairwise_cons.1 h).1
theorem Up.del {L : Prs α} (h : Up L) (k : Int) : Up (delM L k) := List.Pairwise.filter _ h
theorem delM_none {L : Prs α} {k : Int} (h : ∀ q ∈ L, q.1 ≠ k) : delM L k = L := by
  unfold delM
  rw [List.filter_eq_self]
  intro q hq
  simp [h q hq]
theorem mapE_put (L : Prs α) (k : Int) (v : α) (h : Up L) : (mapE en L).put (.int .i64 k) (en v) = mapE en (putM k v L) := by
  unfold mapE DataW.put
  simp only [filter_entE]
  congr 1
  induction L with
  | nil => rfl
  | cons p r ih =>
    have ih := ih h.tail
    by_cases h1 : k < p.1
    · rw [delM_none (fun q hq => by
        rcases List.mem_cons.1 hq with rfl | hq
        · omega
        · have := h.head q hq; omega)]
      simp [DataW.insert, putM, h1, entE, Lit.before]
    · by_cases h2 : p.1 = k
      · have e1 : delM (p :: r) k = r := by
          have := delM_none (L := r) (k := k) (fun q hq => by have := h.head q hq; omega)
          unfold delM at this ⊢
          simp [h2, this]
        rw [e1]
        simp only [putM, if_neg h1, if_pos h2, List.map_cons]
        cases r with
        | nil => rfl
        | cons q s =>
          have := h.head q (by simp)
          have h3 : k < q.1 := by omega
          simp [DataW.insert, entE, Lit.before, h3]
      · have e1 : delM (p :: r) k = p :: delM r k := by
          unfold delM
          simp [h2]
        rw [e1]
        simp only [putM, if_neg h1, if_neg h2, List.map_cons]
        rw [← ih]
        simp [DataW.insert, entE, Lit.before, h1]
theorem mem_putM {k : Int} {v : α} {L : Prs α} {q : Int × α} (h : q ∈ putM k v L) : q = (k, v) ∨ q ∈ L := by
  induction L with
  | nil => simp [putM] at h; exact .inl h
  | cons p r ih =>
    simp only [putM] at h
    split at h
    · rcases List.mem_cons.1 h with h | h
      · exact .inl h
      · exact .inr h
    · split at h
      · rcases List.mem_cons.1 h with h | h
        · exact .inl h
        · exact .inr (List.mem_cons_of_mem _ h)
      · rcases List.mem_cons.1 h with h | h
        · exact .inr (by rw [h]; exact List.mem_cons_self)
        · rcases ih h with q | q
          · exact .inl q
          · exact .inr (List.mem_cons_of_mem _ q)
theorem Up.put {L : Prs α} (h : Up L) (k : Int) (v : α) : Up (putM k v L) := by
  induction L with
  | nil => simp [putM, Up]
  | cons p r ih =>
    have ih := ih h.tail
    simp only [putM]
    split
    · rename_i h1
      refine List.pairwise_cons.2 ⟨fun q hq => ?_, h⟩
      rcases List.mem_cons.1 hq with rfl | hq
      · exact h1
      · have := h.head q hq; show k < q.1; omega
    · split
      · rename_i h2
        refine List.pairwise_cons.2 ⟨fun q hq => ?_, h.tail⟩
        have := h.head q hq; show k < q.1; omega
      · refine List.pairwise_cons.2 ⟨fun q hq => ?_, ih⟩
        rcases mem_putM hq with rfl | hq
        · show p.1 < k; omega
        · exact h.head q hq
theorem getM_cons (p : Int × α) (r : Prs α) (k : Int) : getM (p :: r) k = if p.1 = k then some p.2 else getM r k := by
  unfold getM
  by_cases h : p.1 = k <;> simp [h]
theorem getM_none {L : Prs α} {k : Int} (h : ∀ q ∈ L, q.1 ≠ k) : getM L k = none := by
  unfold getM
  rw [List.find?_eq_none.2 (fun q hq => by simpa using h q hq)]
  rfl
theorem getM_put {L : Prs α} (h : Up L) (k j : Int) (v : α) : getM (putM k v L) j = if j = k then some v else getM L j := by
  induction L with
  | nil =>
    simp only [putM, getM_cons]
    by_cases q : k = j
    · rw [if_pos q, if_pos q.symm]
    · rw [if_neg q, if_neg (fun r => q r.symm)]
  | cons p r ih =>
    have ih := ih h.tail
    simp only [putM]
    split
    · rw [getM_cons]
      by_cases q : k = j
      · rw [if_pos q, if_pos q.symm]
      · rw [if_neg q, if_neg (fun r => q r.symm)]
    · split
      · rename_i h2
        rw [getM_cons, getM_cons]
        by_cases q : k = j
        · rw [if_pos q, if_pos q.symm]
        · rw [if_neg q, if_neg (fun r => q r.symm), if_neg (by omega)]
      · rename_i h2
        rw [getM_cons, getM_cons, ih]
        by_cases q : j = k
        · rw [if_pos q, if_neg (by omega), if_pos q]
        · rw [if_neg q, if_neg q]
theorem hasM_get (L : Prs α) (k : Int) : hasM L k = (getM L k).isSome := by
  induction L with
  | nil => rfl
  | cons p r ih =>
    rw [getM_cons]
    unfold hasM at ih ⊢
    rw [List.any_cons, ih]
    by_cases h : p.1 = k <;> simp [h]
theorem getM_mem {L : Prs α} {k : Int} {v : α} (h : getM L k = some v) : (k, v) ∈ L := by
  unfold getM at h
  cases hf : L.find? (fun p => p.1 == k) with
  | none => rw [hf] at h; cases h
  | some p =>
    rw [hf] at h
    simp at h
    have h1 := List.mem_of_find?_eq_some hf
    have h2 : p.1 = k := by simpa using List.find?_some hf
    rw [← h2, ← h]
    exact h1
theorem getM_of_mem {L : Prs α} (h : Up L) {p : Int × α} (hp : p ∈ L) : getM L p.1 = some p.2 := by
  induction L with
  | nil => cases hp
  | cons q r ih =>
    rw [getM_cons]
    rcases List.mem_cons.1 hp with rfl | hp
    · rw [if_pos rfl]
    · have := h.head p hp
      rw [if_neg (by omega)]
      exact ih h.tail hp
theorem length_putM (k : Int) (v : α) (L : Prs α) : (putM k v L).length ≤ L.length + 1 := by
  induction L with
  | nil => simp [putM]
  | cons p r ih =>
    simp only [putM]
    split
    · simp
    · split
      · simp
      · simp only [List.length_cons]; omega
/-- A sum over the pairs. -/
def sumM (f : Int × α → Int) : Prs α → Int
  | [] => 0
  | p :: r => f p + sumM f r
theorem sumM_put {L : Prs α} (f : Int × α → Int) (h : Up L) (k : Int) (v : α) : sumM f (putM k v L) = sumM f L + f (k, v) - (match getM L k with | some u => f (k, u) | none => 0) := by
  induction L with
  | nil => simp [putM, sumM, getM]
  | cons p r ih =>
    have ih := ih h.tail
    simp only [putM]
    split
    · rename_i h1
      have hn : getM (p :: r) k = none := getM_none (fun q hq => by
        rcases List.mem_cons.1 hq with rfl | hq
        · omega
        · have := h.head q hq; omega)
      rw [hn]
      simp only [sumM]
      omega
    · split
      · rename_i h2
        rw [getM_cons, if_pos h2]
        simp only [sumM]
        have : f p = f (k, p.2) := by rw [← h2]
        omega
      · rename_i h2
        rw [getM_cons, if_neg h2]
        simp only [sumM]
        omega
/-- One more has been met on a way through the map. -/
theorem visitE {L : Prs α} (hr : Up L) (left : Lit → Bool) {x : Int} {d : DataW H} (hx : left (.int .i64 x) = true) (hat : ∀ zd : DataW H, (mapE en L).atKey (.int .i64 x) zd = d) :
    ∃ c, getM L x = some c ∧ d = en c ∧ (L.filter (fun p => !(left (.int .i64 p.1) && !(Lit.int .i64 p.1).sameKey (.int .i64 x)))).Perm ((x, c) :: L.filter (fun p => !left (.int .i64 p.1))) := by
  have a1 := hat (.lit (.bool true))
  have a2 := hat (.lit (.bool false))
  rw [mapE_at] at a1 a2
  cases hg : getM L x with
  | none => rw [hg] at a1 a2; rw [← a2] at a1; simp at a1
  | some c =>
    refine ⟨c, rfl, ?_, ?_⟩
    · rw [hg] at a1; simpa using a1.symm
    have hm := getM_mem hg
    clear hat a1 a2 hg
    induction L with
    | nil => cases hm
    | cons p r ih =>
      simp only [List.filter_cons]
      by_cases hp : p.1 = x
      · have e2 : p = (x, c) := by
          rcases List.mem_cons.1 hm with h | h
          · exact h.symm
          · have := hr.head _ h; simp at this; omega
        have e3 : r.filter (fun p => !(left (.int .i64 p.1) && !(Lit.int .i64 p.1).sameKey (.int .i64 x))) = r.filter (fun p => !left (.int .i64 p.1)) := by
          apply List.filter_congr
          intro q hq
          have := hr.head q hq
          have : (Lit.int .i64 q.1).sameKey (.int .i64 x) = false := by simp [Lit.sameKey]; omega
          simp [this]
        have e4 : (Lit.int .i64 p.1).sameKey (.int .i64 x) = true := by simp [Lit.sameKey, hp]
        have e5 : left (.int .i64 p.1) = true := by rw [hp]; exact hx
        rw [e3, e4, e5, e2]
        simp
      · have hm' : (x, c) ∈ r := by
          rcases List.mem_cons.1 hm with h | h
          · rw [← h] at hp; exact absurd rfl hp
          · exact h
        have ih := ih hr.tail hm'
        have e4 : (Lit.int .i64 p.1).sameKey (.int .i64 x) = false := by simp [Lit.sameKey, hp]
        rw [e4]
        cases hl : left (.int .i64 p.1)
        · simp only [Bool.false_and, Bool.not_false, if_true]
          exact (List.Perm.cons p ih).trans (List.Perm.swap _ _ _)
        · simpa using ih

/-! Maps whose elements are whatever values: an element is told by itself. -/
abbrev anyElem (v : Value) : Option (DataW Value × List MemPlace) := some (.held v, [])
def AnyAt (P : Program) (k : TypeId) (w : World) (m : Nat) (L : Prs Value) : Prop := w.ownsMap P k anyElem m L.length (mapE .held L)
theorem AnyAt.of {P : Program} {k : TypeId} {w : World} {m n : Nat} {L : Prs Value} (h : w.ownsMap P k anyElem m n (mapE .held L)) : AnyAt P k w m L := by
  obtain ⟨es, clock, hb, F, hs, hD⟩ := h
  refine ⟨es, clock, hb, F, ?_, hD⟩
  have := congrArg Maps.size hD
  rw [mapE_size] at this
  simp [Maps.size, length_sorted] at this
  omega
theorem AnyAt.made (P : Program) (k : TypeId) (w : World) : AnyAt P k (w.alloc (.map #[] 0)) w.heap.size [] := World.ownsMap_made w P k anyElem
theorem any_look {L : Prs Value} {k : Int} {z v : Value} {ps : List MemPlace} (h : anyElem v = some ((mapE .held L).atKey (.int .i64 k) (.held z), ps)) : v = (getM L k).getD z := by
  rw [mapE_at] at h
  simp only [anyElem, Option.some.injEq, Prod.mk.injEq] at h
  cases hg : getM L k with
  | none => rw [hg] at h; simpa using h.1
  | some u => rw [hg] at h; simpa using h.1
theorem AnyAt.put {P : Program} {k : TypeId} {w : World} {m n : Nat} {L : Prs Value} (hu : Up L) {x : Int} {v : Value} (h : w.ownsMap P k anyElem m n ((mapE .held L).put (.int .i64 x) (.held v))) : AnyAt P k w m (putM x v L) := by
  rw [mapE_put L x v hu] at h
  exact AnyAt.of h
theorem AnyAt.del {P : Program} {k : TypeId} {w : World} {m n : Nat} {L : Prs Value} {x : Int} (h : w.ownsMap P k anyElem m n ((mapE .held L).del (.int .i64 x))) : AnyAt P k w m (delM L x) := by
  rw [mapE_del] at h
  exact AnyAt.of h

open Go.WideElems (Fit findIdx_born findIdx_arr modify_last set_self)
open Go.ChangeMaps
/-- An entry that is laid first and filled behind is a store. -/
theorem entry_fill {H : Type} {P : Program} {w : World} {t k e : TypeId} {R : Value → Option (DataW H × List MemPlace)} {b : Nat} {es : Array MapEntry} {clock : Nat} (K : Keyed P k) (ht : P.underlying t = some (.map k e)) {z : Value} (hz : ∀ u : World, (zeroValue e).run P u = .ok z u)
    (hb : w.heap[b]? = some (.map es clock)) (F : Fit P k R es clock) {key : Value} {kl : Lit} (hkey : keyOf P k key = some kl) :
    ∃ (v0 : Value) (st : Nat) (es1 : Array MapEntry) (c1 : Nat), (Instr.mapEntry t (.map (some b)) key).run P w = .ok (.tuple #[v0, goInt st]) (setBlock w b (.map es1 c1)) ∧
      ∀ (w2 : World) (val : Value), w2.heap[b]? = some (.map es1 c1) → ∃ es2 c2, (Instr.entryStore t (.map (some b)) (goInt st) val).run P w2 = .ok () (setBlock w2 b (.map es2 c2)) ∧ (Instr.mapUpdate t (.map (some b)) key val).run P w = .ok () (setBlock w b (.map es2 c2)) := by
  have hst := F.stamped
  have hck := K.check w false hkey
  have hgo := MapKept.run_getObj_map (P := P) hb
  rcases K.find w hkey es.toList F.keys with ⟨hf, _⟩ | ⟨j, y, hf, hy, hk⟩
  · have hi : (es.push ⟨key, z, clock⟩).findIdx? (fun x => ((x.born : Nat) : Int) == ((clock : Nat) : Int)) = some es.size := by
      have q : ((es.push ⟨key, z, clock⟩).toList.map (·.born)).Nodup := by
        rw [Array.toList_push, List.map_append]
        refine List.nodup_append.2 ⟨hst.2.1, by simp, ?_⟩
        intro p hp r hr
        obtain ⟨x, hx, rfl⟩ := List.mem_map.1 hp
        have := hst.1 x hx
        simp at hr
        omega
      rw [findIdx_arr]
      exact findIdx_born (j := es.size) (e0 := ⟨key, z, clock⟩) q (by simp)
    refine ⟨z, clock, es.push ⟨key, z, clock⟩, clock + 1, ?_, fun w2 val h2 => ⟨es.push ⟨key, val, clock⟩, clock + 1, ?_, ?_⟩⟩
    · simp [Instr.mapEntry, run_underlying ht, hgo, hck, hf, hz, MapKept.run_setObj_map _ hb, Result.andThen, setBlock]
    · have q : (es.push ⟨key, z, clock⟩).modify es.size (fun x => { x with val := val }) = es.push ⟨key, val, clock⟩ := by
        apply Array.ext'
        have := modify_last (fun x : MapEntry => { x with val := val }) ⟨key, z, clock⟩ es.toList
        simpa [Array.toList_modify] using this
      simp [Instr.entryStore, MapKept.run_getObj_map h2, asInt, asIntOf, goInt, hi, q, MapKept.run_setObj_map _ h2, Result.andThen, setBlock]
    · simp [Instr.mapUpdate, run_underlying ht, hgo, hck, hf, MapKept.run_setObj_map _ hb, Result.andThen, setBlock]
  · have hj : es[j]? = some y := by simpa using hy
    have hi : es.findIdx? (fun x => ((x.born : Nat) : Int) == ((y.born : Nat) : Int)) = some j := by rw [findIdx_arr]; exact findIdx_born hst.2.1 hy
    have hm : es.modify j (fun x => { x with key := key }) = es := by
      apply Array.ext'
      rw [Array.toList_modify, ChangeMaps.modify_eq_set _ _ _ _ hy]
      have q : ({ y with key := key } : MapEntry) = y := by rw [← hk]
      rw [q]
      exact set_self _ _ _ hy
    refine ⟨y.val, y.born, es, clock, ?_, fun w2 val h2 => ⟨es.modify j (fun x => { x with key := key, val := val }), clock, ?_, ?_⟩⟩
    · simp [Instr.mapEntry, run_underlying ht, hgo, hck, hf, hj, hk, K.stays w hkey, hm, MapKept.run_setObj_map _ hb, Result.andThen, setBlock]
    · have q : es.modify j (fun x => { x with val := val }) = es.modify j (fun x => { x with key := key, val := val }) := by
        apply Array.ext'
        rw [Array.toList_modify, Array.toList_modify, ChangeMaps.modify_eq_set _ _ _ _ hy, ChangeMaps.modify_eq_set _ _ _ _ hy, ← hk]
      simp [Instr.entryStore, MapKept.run_getObj_map h2, asInt, asIntOf, goInt, hi, q, MapKept.run_setObj_map _ h2, Result.andThen, setBlock]
    · simp [Instr.mapUpdate, run_underlying ht, hgo, hck, hf, hj, hk, K.stays w hkey, MapKept.run_setObj_map _ hb, Result.andThen, setBlock]

/-- w' is w but for block m. -/
def ButAt (m : Nat) (w w' : World) : Prop := w.grownBy w' (some m) ∧ w'.heap.size = w.heap.size
theorem AnyAt.entry {P : Program} {t k e : TypeId} (K : Keyed P k) (ht : P.underlying t = some (.map k e)) {z : Value} (hz : ∀ u : World, (zeroValue e).run P u = .ok z u) {w : World} {m : Nat} {L : Prs Value} (h : AnyAt P k w m L) (hr : Up L) {x : Int} (hk : keyOf P k (.int .i64 x) = some (.int .i64 x)) (hl : L.length < 1000000000000000) :
    ∃ v0 st w1, (Instr.mapEntry t (.map (some m)) (.int .i64 x)).run P w = .ok (.tuple #[v0, .int .i64 st]) w1 ∧ ButAt m w w1 ∧
      ∀ (v : Value) (w2 : World), w2.heap[m]? = w1.heap[m]? → ∃ w3, (Instr.entryStore t (.map (some m)) (.int .i64 st) v).run P w2 = .ok () w3 ∧ AnyAt P k w3 m (putM x v L) ∧ ButAt m w2 w3 := by
  obtain ⟨es, clock, hb, F, hs, hD⟩ := h
  obtain ⟨v0, st, es1, c1, h1, h2⟩ := entry_fill K ht hz hb F hk
  have hset := fun (u : World) (o : Obj) (hu : ∃ x y, u.heap[m]? = some (.map x y)) => show (ButAt m u (setBlock u m o)) ∧ (setBlock u m o).heap[m]? = some o from by
    obtain ⟨x, y, hx⟩ := hu
    exact ⟨⟨⟨rfl, rfl, rfl, by simp [setBlock], fun i _ hi => heap_setBlock_other hx _ (fun e => hi (by rw [e]))⟩, by simp [setBlock]⟩, heap_setBlock_same hx _⟩
  refine ⟨v0, (st : Int), setBlock w m (.map es1 c1), h1, (hset w _ ⟨_, _, hb⟩).1, fun v w2 hw2 => ?_⟩
  rw [(hset w _ ⟨_, _, hb⟩).2] at hw2
  obtain ⟨es2, c2, h3, h4⟩ := h2 w2 v hw2
  refine ⟨_, h3, ?_, (hset w2 _ ⟨_, _, hw2⟩).1⟩
  obtain ⟨es', clock', hrun, F', hput, _⟩ := Maps.fit_store (R' := anyElem) K ht hb F (by unfold maxLen; omega) (fun _ _ _ _ hz => hz) hk (show anyElem v = some (.held v, []) from rfl)
  rw [h4] at hrun
  have e1 := (hset w (.map es2 c2) ⟨_, _, hb⟩).2
  have e2 := (hset w (.map es' clock') ⟨_, _, hb⟩).2
  have e3 : setBlock w m (.map es2 c2) = setBlock w m (.map es' clock') := by injection hrun
  rw [e3, e2] at e1
  injection e1 with e4
  injection e4 with e5 e6
  subst e5 e6
  refine AnyAt.of (n := es'.size) ⟨es', clock', (hset w2 _ ⟨_, _, hw2⟩).2, F', Nat.le_refl _, ?_⟩
  rw [hput, ← mapE_put L x v hr, hD]
  rfl
end Go.QM
