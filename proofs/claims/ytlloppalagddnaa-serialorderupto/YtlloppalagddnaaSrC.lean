import Derived.Test.YtlloppalagddnaaSrN
import Derived.Test.YtlloppalagddnaaSrV
set_option linter.all false
namespace Go.Proofs.Ytlloppalagddnaa
open Go.RowKit Go.QK Go.Maps Go.QM Go.QS Quota
set_option maxRecDepth 100000
theorem ret_int {k : IntKind} {a b : Int} (h : a = b) : Ending.returned (.int k a) = .returned (.int k b) := by rw [h]
/-! A map of the program's own: what each key has, and the keys. -/
def CM (w : World) (m : Nat) (f : Int → Option Value) (ks : List Int) : Prop := ∃ L : Prs Value, Up L ∧ AnyAt Try.prog 3 w m L ∧ (∀ k, getM L k = f k) ∧ (L.map Prod.fst).Perm ks
theorem CM.keep {S : Nat → Prop} {w w' : World} {m : Nat} {f : Int → Option Value} {ks : List Int} (h : CM w m f ks) (hk : Keep S w w') (hn : ¬ S m) : CM w' m f ks := by
  obtain ⟨L, h1, h2, h3, h4⟩ := h
  exact ⟨L, h1, anyAt_keep h2 hk hn, h3, h4⟩
theorem CM.below {w w' : World} {m : Nat} {f : Int → Option Value} {ks : List Int} (h : CM w m f ks) (hk : Below w.heap.size w w') : CM w' m f ks := h.keep (Keep.of_below (S := fun _ => False) hk) id
theorem CM.lt {w : World} {m : Nat} {f : Int → Option Value} {ks : List Int} (h : CM w m f ks) : m < w.heap.size := by
  obtain ⟨L, h1, h2, h3, h4⟩ := h
  exact World.ownsMap.lt h2
theorem CM.made (w : World) : CM (w.alloc (.map #[] 0)) w.heap.size (fun _ => none) [] := ⟨[], List.Pairwise.nil, AnyAt.made Try.prog 3 w, fun _ => rfl, List.Perm.refl _⟩
theorem CM.look {w : World} {m : Nat} {f : Int → Option Value} {ks : List Int} (h : CM w m f ks) {t e : TypeId} (ht : Try.prog.underlying t = some (.map 3 e)) {z : Value} (hz : ∀ u : World, (zeroValue e).run Try.prog u = .ok z u) {x : Int} (hx : I64 x) :
    (Instr.lookup t (.map (some m)) (.int .i64 x) false).run Try.prog w = .ok ((f x).getD z) w := by
  obtain ⟨L, h1, h2, h3, h4⟩ := h
  rw [← h3]
  exact any_run lawK ht hz h2 (keyI hx)
theorem CM.len {w : World} {m : Nat} {f : Int → Option Value} {ks : List Int} (h : CM w m f ks) {t e : TypeId} (ht : Try.prog.underlying t = some (.map 3 e)) (ty : TypeId) :
    (Builtin.len_ #[t] ty #[.map (some m)]).run Try.prog w = .ok (.int .i64 (ks.length : Int)) w := by
  obtain ⟨L, h1, h2, h3, h4⟩ := h
  have e1 : ks.length = Maps.size (mapE (H := Value) .held L) := by
    rw [mapE_size]
    have := h4.length_eq
    simpa using this.symm
  rw [e1]
  exact World.ownsMap.len h2 ht ty
theorem wpList_look_cm {w : World} {m : Nat} {f : Int → Option Value} {ks : List Int} (h : CM w m f ks) {t e : TypeId} (ht : Try.prog.underlying t = some (.map 3 e)) {z : Value} (hz : ∀ u : World, (zeroValue e).run Try.prog u = .ok z u) {x : Int} (hx : I64 x)
    {ops : Array Oper} {rest : List Oper} {o : Oper} {a : Act} {Q : Exit → Act → World → Prop} (hg : o.guard = none) (mo xo : Operand) (ho : o.op = .lookup t mo xo true) (hm : a.eval mo = .map (some m)) (hxo : a.eval xo = .int .i64 x)
    (k : wpList Try.prog ops Q rest (a.put o.dst (.tuple #[(f x).getD z, .bool (f x).isSome])) w) : wpList Try.prog ops Q (o :: rest) a w := by
  obtain ⟨L, h1, h2, h3, h4⟩ := h
  refine wpList_lookup_own_ok w hg mo xo t ho 3 e lawK ht anyElem (hz w) (.held z) [] rfl m _ _ hm h2 _ _ hxo (keyI hx) ?_
  intro v ps hv
  obtain rfl := any_look hv
  rw [mapE_has, hasM_get, h3]
  exact k
theorem keys_putM {L : Prs Value} (k : Int) (v : Value) (h : Up L) : (getM L k = none → ((putM k v L).map Prod.fst).Perm (k :: L.map Prod.fst)) ∧ (getM L k ≠ none → (putM k v L).map Prod.fst = L.map Prod.fst) := by
  induction L with
  | nil => exact ⟨fun _ => by simp [putM], fun q => absurd rfl q⟩
  | cons p r ih =>
    obtain ⟨i1, i2⟩ := ih h.tail
    simp only [putM]
    rw [getM_cons]
    by_cases q1 : k < p.1
    · have hn : getM r k = none := getM_none (fun x hx => by have := h.head x hx; omega)
      rw [if_neg (by omega), hn, if_pos q1]
      exact ⟨fun _ => by simp, fun x => absurd rfl x⟩
    · rw [if_neg q1]
      by_cases q2 : p.1 = k
      · rw [if_pos q2, if_pos q2]
        exact ⟨fun x => (by cases x), fun _ => (by simp [q2])⟩
      · rw [if_neg q2, if_neg q2]
        refine ⟨fun x => ?_, fun x => ?_⟩
        · simp only [List.map_cons]
          exact (List.Perm.cons p.1 (i1 x)).trans (List.Perm.swap _ _ _)
        · simp only [List.map_cons]
          rw [i2 x]
theorem wpList_put_cm {w : World} {m : Nat} {f : Int → Option Value} {ks : List Int} (h : CM w m f ks) {t e : TypeId} (ht : Try.prog.underlying t = some (.map 3 e)) {x : Int} (hx : I64 x) (hl : ks.length < 4611686018427387904)
    {ops : Array Oper} {rest : List Oper} {o : Oper} {a : Act} {Q : Exit → Act → World → Prop} (hg : o.guard = none) (mo xo vo : Operand) (ho : o.op = .mapUpdate t mo xo vo) (hm : a.eval mo = .map (some m)) (hxo : a.eval xo = .int .i64 x) {v : Value} (hv : a.eval vo = v)
    (k : ∀ w', CM w' m (fun n => if n = x then some v else f n) (if (f x).isSome then ks else ks ++ [x]) → w.grownBy w' (some m) → wpList Try.prog ops Q rest (a.put o.dst undef) w') : wpList Try.prog ops Q (o :: rest) a w := by
  obtain ⟨L, h1, h2, h3, h4⟩ := h
  have hlen := h4.length_eq
  simp at hlen
  refine wpList_mapUpdate_own w hg mo xo vo t ho 3 e lawK ht anyElem m _ _ hm h2 (by unfold maxLen; omega) _ _ _ hxo hv (keyI hx) (.held v) [] rfl ?_
  intro w' h5 h6
  refine k w' ⟨putM x v L, h1.put x v, AnyAt.put h1 h5, fun n => ?_, ?_⟩ h6
  · rw [getM_put h1, h3]
  · obtain ⟨k1, k2⟩ := keys_putM x v h1
    rw [h3] at k1 k2
    cases hf : f x with
    | none =>
      have := k1 hf
      simp only [Option.isSome_none, Bool.false_eq_true, if_false]
      exact (this.trans (List.Perm.cons x h4)).trans (List.perm_append_singleton x ks).symm
    | some u =>
      simp only [Option.isSome_some, if_true]
      rw [k2 (by rw [hf]; simp)]
      exact h4

theorem CM.ne_cells {w : World} {b m : Nat} {f : Int → Option Value} {ks : List Int} {v : Value} {cs : List Value} (h : CM w m f ks) (k : Cells w b (v :: cs)) : b ≠ m := by
  intro q
  subst q
  obtain ⟨L, h1, ⟨es, clock, hb, _⟩, h3, h4⟩ := h
  have := (k.get 0 _ rfl).1
  simp [World.cell?, hb] at this

/-- 'clear(m)': the map holds nothing. -/
theorem CM.clear {w : World} {m : Nat} {f : Int → Option Value} {ks : List Int} (h : CM w m f ks) {t e : TypeId} (ht : Try.prog.underlying t = some (.map 3 e)) :
    ∃ w', (∀ ty, (Builtin.clear_ #[t] ty #[.map (some m)]).run Try.prog w = .ok (.tuple #[]) w') ∧ CM w' m (fun _ => none) [] ∧ ButAt m w w' := by
  obtain ⟨L, h1, ⟨es, clock, hb, F, hs, hD⟩, h3, h4⟩ := h
  refine ⟨ChangeMaps.setBlock w m (.map #[] clock), ?_, ⟨[], List.Pairwise.nil, ⟨#[], clock, ChangeMaps.heap_setBlock_same hb _, ⟨by simp, MapKept.stamped_empty clock, by simp⟩, Nat.le_refl _, rfl⟩, fun _ => rfl, List.Perm.refl _⟩, ?_⟩
  · intro ty
    simp [Builtin.clear_, run_underlying ht, MapKept.run_getObj_map hb, MapKept.run_setObj_map _ hb, Result.andThen, ChangeMaps.setBlock]
  · exact ⟨⟨rfl, rfl, rfl, by simp [ChangeMaps.setBlock], fun i _ hi => ChangeMaps.heap_setBlock_other hb _ (fun e => hi (by rw [e]))⟩, by simp [ChangeMaps.setBlock]⟩

theorem grown_m {w w' : World} {m : Nat} (hg : w.grownBy w' (some m)) : Keep (fun k => k = m) w w' := (Keep.refl _ w).grown hg (fun _ q _ => (Option.some.inj q).symm)
theorem CM.congr {w : World} {m : Nat} {f g : Int → Option Value} {ks : List Int} (h : CM w m f ks) (hg : ∀ k, f k = g k) : CM w m g ks := by
  obtain ⟨L, h1, h2, h3, h4⟩ := h
  exact ⟨L, h1, h2, fun k => (h3 k).trans (hg k), h4⟩
theorem CM.put_run {w : World} {m : Nat} {f : Int → Option Value} {ks : List Int} (h : CM w m f ks) {t e : TypeId} (ht : Try.prog.underlying t = some (.map 3 e)) {x : Int} (hx : I64 x) (v : Value) (hl : ks.length < 4611686018427387904) :
    ∃ w', (Instr.mapUpdate t (.map (some m)) (.int .i64 x) v).run Try.prog w = .ok () w' ∧ CM w' m (fun n => if n = x then some v else f n) (if (f x).isSome then ks else ks ++ [x]) ∧ w.grownBy w' (some m) := by
  obtain ⟨L, h1, h2, h3, h4⟩ := h
  have hlen := h4.length_eq
  simp at hlen
  obtain ⟨w', hr, h5, h6⟩ := World.ownsMap.update h2 lawK ht (by unfold maxLen; omega) (keyI hx) (show anyElem v = some (.held v, []) from rfl)
  refine ⟨w', hr, ⟨putM x v L, h1.put x v, AnyAt.put h1 h5, fun n => ?_, ?_⟩, h6⟩
  · rw [getM_put h1, h3]
  · obtain ⟨k1, k2⟩ := keys_putM x v h1
    rw [h3] at k1 k2
    cases hf : f x with
    | none =>
      have := k1 hf
      simp only [Option.isSome_none, Bool.false_eq_true, if_false]
      exact (this.trans (List.Perm.cons x h4)).trans (List.perm_append_singleton x ks).symm
    | some u =>
      simp only [Option.isSome_some, if_true]
      rw [k2 (by rw [hf]; simp)]
      exact h4
theorem keys_delM {L : Prs Value} (k : Int) : ((delM L k).map Prod.fst) = (L.map Prod.fst).filter (fun x => !(x == k)) := by
  unfold delM
  induction L with
  | nil => rfl
  | cons p r ih =>
    simp only [List.filter_cons, List.map_cons]
    split
    · simp [ih]
    · exact ih
theorem CM.del_run {w : World} {m : Nat} {f : Int → Option Value} {ks : List Int} (h : CM w m f ks) {t e : TypeId} (ht : Try.prog.underlying t = some (.map 3 e)) {x : Int} (hx : I64 x) (ty : TypeId) :
    ∃ w', (Builtin.delete_ #[t, 3] ty #[.map (some m), .int .i64 x]).run Try.prog w = .ok (.tuple #[]) w' ∧ CM w' m (fun n => if n = x then none else f n) (ks.filter (fun y => !(y == x))) ∧ w.grownBy w' (some m) := by
  obtain ⟨L, h1, h2, h3, h4⟩ := h
  obtain ⟨w', hr, h5, h6⟩ := World.ownsMap.drop h2 lawK ht (keyI hx) ty
  refine ⟨w', hr, ⟨delM L x, h1.del x, AnyAt.del h5, fun n => ?_, ?_⟩, h6.grown⟩
  · rw [getM_del, h3]
  · rw [keys_delM]
    exact h4.filter _
theorem CM.look_ok {w : World} {m : Nat} {f : Int → Option Value} {ks : List Int} (h : CM w m f ks) {t e : TypeId} (ht : Try.prog.underlying t = some (.map 3 e)) {z : Value} (hz : ∀ u : World, (zeroValue e).run Try.prog u = .ok z u) {x : Int} (hx : I64 x) :
    (Instr.lookup t (.map (some m)) (.int .i64 x) true).run Try.prog w = .ok (.tuple #[(f x).getD z, .bool (f x).isSome]) w := by
  obtain ⟨L, h1, h2, h3, h4⟩ := h
  obtain ⟨v, ps, hrun, hv⟩ := World.ownsMap.look_ok h2 lawK ht (hz w) (show anyElem z = some (.held z, []) from rfl) (keyI hx)
  rw [any_look hv, mapE_has, hasM_get, h3] at hrun
  exact hrun
/-! Holdings, counters, runs: their cells. -/
abbrev Hn := Int × Int × Int
def hnC (x : Hn) : List Value := [.int .i64 x.1, .int .i64 x.2.1, .int .i64 x.2.2]
abbrev hnV (x : Hn) : Value := .agg #[.int .i64 x.1, .int .i64 x.2.1, .int .i64 x.2.2]
abbrev hns (l : List Hn) : List Value := rowsC hnC l
def ofT (t : Int) (l : Prs Int) : List Hn := l.map (fun p => (t, p.1, p.2))
def cnC (x : Cn) : List Value := [.int .i64 x.id, .int .i64 x.grp, .int .i64 x.lo, .int .i64 x.hi, .int .i64 x.val]
abbrev cnV (x : Cn) : Value := .agg #[.int .i64 x.id, .int .i64 x.grp, .int .i64 x.lo, .int .i64 x.hi, .int .i64 x.val]
abbrev cns (l : List Cn) : List Value := rowsC cnC l
theorem rowsC_n {α : Type} (f : α → List Value) (n : Nat) (hf : ∀ x, (f x).length = n) (l : List α) : (rowsC f l).length = l.length * n := by
  induction l with
  | nil => simp [rowsC]
  | cons x r ih => simp only [rowsC, List.flatMap_cons, List.length_append, List.length_cons] at ih ⊢; rw [ih, hf, Nat.add_mul, Nat.one_mul, Nat.add_comm]
theorem rowsC_app {α : Type} (f : α → List Value) (a b : List α) : rowsC f (a ++ b) = rowsC f a ++ rowsC f b := by simp [rowsC]
theorem rowsC_one {α : Type} (f : α → List Value) (hf : ∀ x, (f x).all (·.oneCell') = true) (l : List α) : ∀ u ∈ rowsC f l, u.oneCell' = true := by
  intro u hu
  obtain ⟨x, _, hx⟩ := List.mem_flatMap.1 hu
  exact List.all_eq_true.1 (hf x) u hx
theorem lies_one {α : Type} (f : α → List Value) (w : World) (x : α) (cs : Array Value) (t : TypeId) (h : f x = cs.toList) : Lies (w.alloc (.cells cs t)) (some ⟨w.heap.size, 0, none⟩) (rowsC f [x]) := by
  have h1 := Cells.new w cs t
  have e : rowsC f [x] = cs.toList := by simp [rowsC, h]
  rw [e]
  refine .inr ⟨w.heap.size, 0, rfl, h1.1, fun i hi => ?_⟩
  have q := (h1.2 i hi).1
  rw [Nat.zero_add]
  exact q
theorem info74 : (Try.prog.info? 74).map (fun i => (i.zero, i.size, i.bytes)) = some (some (hnV (0, 0, 0)), 3, 24) := by kernel_rfl
theorem info65 : (Try.prog.info? 65).map (fun i => (i.zero, i.size, i.bytes)) = some (some (cnV ⟨0, 0, 0, 0, 0⟩), 5, 40) := by kernel_rfl
theorem info32 : (Try.prog.info? 32).map (fun i => (i.zero, i.size, i.bytes)) = some (some (.agg #[.int .i64 0, .slice none 0 0]), 2, 32) := by kernel_rfl
theorem info3 : (Try.prog.info? 3).map (fun i => (i.zero, i.size, i.bytes)) = some (some (.int .i64 0), 1, 8) := by kernel_rfl
theorem info2 : (Try.prog.info? 2).map (fun i => (i.zero, i.size, i.bytes)) = some (some (.int .i64 0), 1, 8) := by kernel_rfl
abbrev HRow (w : World) (B : Nat) (v : Value) (l : List Hn) : Prop := GRow w B 74 3 v l.length (hns l)
abbrev CRow (w : World) (B : Nat) (v : Value) (l : List Cn) : Prop := GRow w B 65 5 v l.length (cns l)
theorem zeroS3 (u : World) : (zeroValue 37).run Try.prog u = .ok (.slice none 0 0) u := by kernel_rfl
theorem zeroS2 (u : World) : (zeroValue 89).run Try.prog u = .ok (.slice none 0 0) u := by kernel_rfl
theorem zeroC5 (u : World) : (zeroValue 65).run Try.prog u = .ok (cnV ⟨0, 0, 0, 0, 0⟩) u := by kernel_rfl
end Go.Proofs.Ytlloppalagddnaa
