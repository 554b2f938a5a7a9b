import Derived.Test.YtaohdmaenplbpaaGreatEc5
import Derived.WideKeyEntry
namespace Go.Proofs.YtaohdmaenplbpaaGreat
open Go.RowKit Go.QK Quota Go.Maps
open Go.WideElems (Fit findIdx_born findIdx_arr modify_last set_self)
open Go.ChangeMaps

/-- An entry that is laid first and filled behind is a store. -/
theorem entry_fill {H : Type} {P : Program} {w : World} {t k e : TypeId} {R : Value → Option (DataW H × List MemPlace)} {b : Nat} {es : Array MapEntry} {clock : Nat} (K : Keyed P k) (ht : P.underlying t = some (.map k e)) {z : Value} (hz : ∀ u : World, (zeroValue e).run P u = .ok z u)
    (hb : w.heap[b]? = some (.map es clock)) (F : Fit P k R es clock) {key : Value} {kl : Lit} (hkey : keyOf P k key = some kl) :
    ∃ (v0 : Value) (st : Nat) (es1 : Array MapEntry) (c1 : Nat), (Instr.mapEntry t (.map (some b)) key).run P w = .ok (.tuple #[v0, goInt st]) (setBlock w b (.map es1 c1)) ∧
      ∀ (w2 : World) (val : Value), w2.heap[b]? = some (.map es1 c1) → ∃ es2 c2, (Instr.entryStore t (.map (some b)) (goInt st) val).run P w2 = .ok () (setBlock w2 b (.map es2 c2)) ∧ (Instr.mapUpdate t (.map (some b)) key val).run P w = .ok () (setBlock w b (.map es2 c2)) := by
  have hst := F.stamped
  have hck := K.check w false hkey
  have hgo := MapKept.run_getObj_map (P := P) hb
  rcases K.find w hkey es.toList F.keys with ⟨hf, _⟩ | ⟨j, y, hf, hy, hk⟩
  · have hi : (es.push ⟨key, z, clock⟩).findIdx? (fun x => ((x.born : Nat) : Int) == ((clock : Nat) : Int)) = some es.size := by
      have q : ((es.push ⟨key, z, clock⟩).toList.map (·.born)).Nodup := by
        rw [Array.toList_push, List.map_append]
        refine List.nodup_append.2 ⟨hst.2.1, by simp, ?_⟩
        intro p hp r hr
        obtain ⟨x, hx, rfl⟩ := List.mem_map.1 hp
        have := hst.1 x hx
        simp at hr
        omega
      rw [findIdx_arr]
      exact findIdx_born (j := es.size) (e0 := ⟨key, z, clock⟩) q (by simp)
    refine ⟨z, clock, es.push ⟨key, z, clock⟩, clock + 1, ?_, fun w2 val h2 => ⟨es.push ⟨key, val, clock⟩, clock + 1, ?_, ?_⟩⟩
    · simp [Instr.mapEntry, run_underlying ht, hgo, hck, hf, hz, MapKept.run_setObj_map _ hb, Result.andThen, setBlock]
    · have q : (es.push ⟨key, z, clock⟩).modify es.size (fun x => { x with val := val }) = es.push ⟨key, val, clock⟩ := by
        apply Array.ext'
        have := modify_last (fun x : MapEntry => { x with val := val }) ⟨key, z, clock⟩ es.toList
        simpa [Array.toList_modify] using this
      simp [Instr.entryStore, MapKept.run_getObj_map h2, asInt, asIntOf, goInt, hi, q, MapKept.run_setObj_map _ h2, Result.andThen, setBlock]
    · simp [Instr.mapUpdate, run_underlying ht, hgo, hck, hf, MapKept.run_setObj_map _ hb, Result.andThen, setBlock]
  · have hj : es[j]? = some y := by simpa using hy
    have hi : es.findIdx? (fun x => ((x.born : Nat) : Int) == ((y.born : Nat) : Int)) = some j := by rw [findIdx_arr]; exact findIdx_born hst.2.1 hy
    have hm : es.modify j (fun x => { x with key := key }) = es := by
      apply Array.ext'
      rw [Array.toList_modify, ChangeMaps.modify_eq_set _ _ _ _ hy]
      have q : ({ y with key := key } : MapEntry) = y := by rw [← hk]
      rw [q]
      exact set_self _ _ _ hy
    refine ⟨y.val, y.born, es, clock, ?_, fun w2 val h2 => ⟨es.modify j (fun x => { x with key := key, val := val }), clock, ?_, ?_⟩⟩
    · simp [Instr.mapEntry, run_underlying ht, hgo, hck, hf, hj, hk, K.stays w hkey, hm, MapKept.run_setObj_map _ hb, Result.andThen, setBlock]
    · have q : es.modify j (fun x => { x with val := val }) = es.modify j (fun x => { x with key := key, val := val }) := by
        apply Array.ext'
        rw [Array.toList_modify, Array.toList_modify, ChangeMaps.modify_eq_set _ _ _ _ hy, ChangeMaps.modify_eq_set _ _ _ _ hy, ← hk]
      simp [Instr.entryStore, MapKept.run_getObj_map h2, asInt, asIntOf, goInt, hi, q, MapKept.run_setObj_map _ h2, Result.andThen, setBlock]
    · simp [Instr.mapUpdate, run_underlying ht, hgo, hck, hf, hj, hk, K.stays w hkey, MapKept.run_setObj_map _ hb, Result.andThen, setBlock]

/-- w' is w but for block m. -/
def But (m : Nat) (w w' : World) : Prop := w.grownBy w' (some m) ∧ w'.heap.size = w.heap.size
theorem But.keep {m : Nat} {w w' : World} (h : But m w w') : Keep (fun b => b = m) w w' := (Keep.refl _ w).grown h.1 (fun g hg _ => by cases hg; rfl)

theorem MapAt.entry {w : World} {m : Nat} {L : Nets} (h : MapAt w m L) (hr : Rise L) (k : Int) (hk : I64 k) (hl : L.length < 1000000000) :
    ∃ v0 st w1, (Instr.mapEntry 114 (.map (some m)) (.int .i64 k)).run Tryz.prog w = .ok (.tuple #[v0, .int .i64 st]) w1 ∧ But m w w1 ∧
      ∀ (v : Int) (w2 : World), I64 v → w2.heap[m]? = w1.heap[m]? → ∃ w3, (Instr.entryStore 114 (.map (some m)) (.int .i64 st) (.int .i64 v)).run Tryz.prog w2 = .ok () w3 ∧ MapAt w3 m (putN k v L) ∧ But m w2 w3 := by
  obtain ⟨es, clock, hb, F, hs, hD⟩ := h
  obtain ⟨v0, st, es1, c1, h1, h2⟩ := entry_fill lawK Tryz.underlying114 zero2 hb F (keyI hk)
  have hset := fun (u : World) (o : Obj) (hu : ∃ x y, u.heap[m]? = some (.map x y)) => show (But m u (setBlock u m o)) ∧ (setBlock u m o).heap[m]? = some o from by
    obtain ⟨x, y, hx⟩ := hu
    exact ⟨⟨⟨rfl, rfl, rfl, by simp [setBlock], fun i _ hi => heap_setBlock_other hx _ (fun e => hi (by rw [e]))⟩, by simp [setBlock]⟩, heap_setBlock_same hx _⟩
  refine ⟨v0, (st : Int), setBlock w m (.map es1 c1), h1, (hset w _ ⟨_, _, hb⟩).1, fun v w2 hv hw2 => ?_⟩
  rw [(hset w _ ⟨_, _, hb⟩).2] at hw2
  obtain ⟨es2, c2, h3, h4⟩ := h2 w2 (.int .i64 v) hw2
  refine ⟨_, h3, ?_, (hset w2 _ ⟨_, _, hw2⟩).1⟩
  have hval : plainElem (H := Unit) Tryz.prog 2 (.int .i64 v) = some (.lit (.int .i64 v), []) := plainElem_int Tryz.underlying2 (wf64 hv)
  obtain ⟨es', clock', hrun, F', hput, _⟩ := Maps.fit_store (R' := plainElem (H := Unit) Tryz.prog 2) lawK Tryz.underlying114 hb F (by unfold maxLen; omega) (fun _ _ _ _ hz => hz) (keyI hk) hval
  rw [h4] at hrun
  have e1 := (hset w (.map es2 c2) ⟨_, _, hb⟩).2
  have e2 := (hset w (.map es' clock') ⟨_, _, hb⟩).2
  have e3 : setBlock w m (.map es2 c2) = setBlock w m (.map es' clock') := by injection hrun
  rw [e3, e2] at e1
  injection e1 with e4
  injection e4 with e5 e6
  subst e5 e6
  refine MapAt.of (n := es'.size) ⟨es', clock', (hset w2 _ ⟨_, _, hw2⟩).2, F', Nat.le_refl _, ?_⟩
  rw [hput, ← mapD_put L k v hr, hD]
  rfl

/-- Two operations over a map, in a region that draws. -/
theorem wp_entry {o : Oper} {a : Act} {x x' : World} {K : Act → World → Prop} {Q : Exit → Act → World → Prop} {cond : Bool} {t : TypeId} {v u v' : Value} (d : Nat) (s r : Operand) (hc : cond = true) (hd : o.dst = some d)
    (ho : o.op = .mapEntry t s r) (hs : a.eval s = v) (hr : a.eval r = u) (hrun : (Instr.mapEntry t v u).run Tryz.prog x = .ok v' x')
    (h : K (a.put (some d) v') x') : if cond = true then Oper.wp Tryz.prog o a x K Q else K (a.put o.dst undef) x := by
  rw [if_pos hc]
  unfold Oper.wp
  simp [execOp, ho, hs, hr, hrun, Result.andThen]
  rw [Oper.upon_value, hd]
  exact h
theorem wp_fill {o : Oper} {a : Act} {x x' : World} {K : Act → World → Prop} {Q : Exit → Act → World → Prop} {cond : Bool} {t : TypeId} {v u y : Value} (s r z : Operand) (hc : cond = true)
    (ho : o.op = .entryStore t s r z) (hs : a.eval s = v) (hr : a.eval r = u) (hz : a.eval z = y) (hrun : (Instr.entryStore t v u y).run Tryz.prog x = .ok () x')
    (h : K (a.put o.dst undef) x') : if cond = true then Oper.wp Tryz.prog o a x K Q else K (a.put o.dst undef) x := by
  rw [if_pos hc]
  unfold Oper.wp
  simp [execOp, ho, hs, hr, hz, hrun, Result.andThen]
  rw [Oper.upon_skip]
  exact h
end Go.Proofs.YtaohdmaenplbpaaGreat
