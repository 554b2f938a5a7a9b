import Derived.Test.YthaiagalndcndaaPoK
import Derived.Test.YthaiagalndcndaaHold
import Derived.Deep.RegionHeld
import Derived.Deep.DeepCutAuto
import Derived.BigQuiet
import Derived.Deep.QuietTactic
import Derived.Lib.AppendZerosOnto
namespace Go.Proofs.Ythaiagalndcndaa
open Go.RowKit Go.QK Go.Maps Go.QM Go.QP
set_option maxRecDepth 100000
set_option maxHeartbeats 400000 in
theorem num_eq (e : Int) (w : World) : Calls Try.prog 13 #[.int .i64 e] w fun r w' => r = .returned (.int .i64 e) ∧ w = w' := by
  go_enter Try.func13, Try.ntmps13
  go_wp2
  go_ret
  exact ⟨rfl, rfl⟩
theorem ret_int {k : IntKind} {a b : Int} (h : a = b) : Ending.returned (.int k a) = .returned (.int k b) := by rw [h]
theorem named {P : World → Prop} {W : World} (h : ∀ w, w = W → P w) : P W := h W rfl

/-! A map of the program's own: what each key has, and the keys. -/
def CM (w : World) (m : Nat) (f : Int → Option Value) (ks : List Int) : Prop := ∃ L : Prs Value, Up L ∧ AnyAt Try.prog 3 w m L ∧ (∀ k, getM L k = f k) ∧ (L.map Prod.fst).Perm ks
theorem CM.keep {S : Nat → Prop} {w w' : World} {m : Nat} {f : Int → Option Value} {ks : List Int} (h : CM w m f ks) (hk : Keep S w w') (hn : ¬ S m) : CM w' m f ks := by
  obtain ⟨L, h1, h2, h3, h4⟩ := h
  exact ⟨L, h1, anyAt_keep h2 hk hn, h3, h4⟩
theorem CM.below {w w' : World} {m : Nat} {f : Int → Option Value} {ks : List Int} (h : CM w m f ks) (hk : Below w.heap.size w w') : CM w' m f ks := h.keep (Keep.of_below (S := fun _ => False) hk) id
theorem CM.lt {w : World} {m : Nat} {f : Int → Option Value} {ks : List Int} (h : CM w m f ks) : m < w.heap.size := by
  obtain ⟨L, h1, h2, h3, h4⟩ := h
  exact World.ownsMap.lt h2
theorem CM.made (w : World) : CM (w.alloc (.map #[] 0)) w.heap.size (fun _ => none) [] := ⟨[], List.Pairwise.nil, AnyAt.made Try.prog 3 w, fun _ => rfl, List.Perm.refl _⟩
theorem CM.look {w : World} {m : Nat} {f : Int → Option Value} {ks : List Int} (h : CM w m f ks) {t e : TypeId} (ht : Try.prog.underlying t = some (.map 3 e)) {z : Value} (hz : ∀ u : World, (zeroValue e).run Try.prog u = .ok z u) {x : Int} (hx : I64 x) :
    (Instr.lookup t (.map (some m)) (.int .i64 x) false).run Try.prog w = .ok ((f x).getD z) w := by
  obtain ⟨L, h1, h2, h3, h4⟩ := h
  rw [← h3]
  exact any_run lawK ht hz h2 (keyI hx)
theorem CM.len {w : World} {m : Nat} {f : Int → Option Value} {ks : List Int} (h : CM w m f ks) {t e : TypeId} (ht : Try.prog.underlying t = some (.map 3 e)) (ty : TypeId) :
    (Builtin.len_ #[t] ty #[.map (some m)]).run Try.prog w = .ok (.int .i64 (ks.length : Int)) w := by
  obtain ⟨L, h1, h2, h3, h4⟩ := h
  have e1 : ks.length = Maps.size (mapE (H := Value) .held L) := by
    rw [mapE_size]
    have := h4.length_eq
    simpa using this.symm
  rw [e1]
  exact World.ownsMap.len h2 ht ty
theorem wpList_look_cm {w : World} {m : Nat} {f : Int → Option Value} {ks : List Int} (h : CM w m f ks) {t e : TypeId} (ht : Try.prog.underlying t = some (.map 3 e)) {z : Value} (hz : ∀ u : World, (zeroValue e).run Try.prog u = .ok z u) {x : Int} (hx : I64 x)
    {ops : Array Oper} {rest : List Oper} {o : Oper} {a : Act} {Q : Exit → Act → World → Prop} (hg : o.guard = none) (mo xo : Operand) (ho : o.op = .lookup t mo xo true) (hm : a.eval mo = .map (some m)) (hxo : a.eval xo = .int .i64 x)
    (k : wpList Try.prog ops Q rest (a.put o.dst (.tuple #[(f x).getD z, .bool (f x).isSome])) w) : wpList Try.prog ops Q (o :: rest) a w := by
  obtain ⟨L, h1, h2, h3, h4⟩ := h
  refine wpList_lookup_own_ok w hg mo xo t ho 3 e lawK ht anyElem (hz w) (.held z) [] rfl m _ _ hm h2 _ _ hxo (keyI hx) ?_
  intro v ps hv
  obtain rfl := any_look hv
  rw [mapE_has, hasM_get, h3]
  exact k
theorem keys_putM {L : Prs Value} (k : Int) (v : Value) (h : Up L) : (getM L k = none → ((putM k v L).map Prod.fst).Perm (k :: L.map Prod.fst)) ∧ (getM L k ≠ none → (putM k v L).map Prod.fst = L.map Prod.fst) := by
  induction L with
  | nil => exact ⟨fun _ => by simp [putM], fun q => absurd rfl q⟩
  | cons p r ih =>
    obtain ⟨i1, i2⟩ := ih h.tail
    simp only [putM]
    rw [getM_cons]
    by_cases q1 : k < p.1
    · have hn : getM r k = none := getM_none (fun x hx => by have := h.head x hx; omega)
      rw [if_neg (by omega), hn, if_pos q1]
      exact ⟨fun _ => by simp, fun x => absurd rfl x⟩
    · rw [if_neg q1]
      by_cases q2 : p.1 = k
      · rw [if_pos q2, if_pos q2]
        exact ⟨fun x => (by cases x), fun _ => (by simp [q2])⟩
      · rw [if_neg q2, if_neg q2]
        refine ⟨fun x => ?_, fun x => ?_⟩
        · simp only [List.map_cons]
          exact (List.Perm.cons p.1 (i1 x)).trans (List.Perm.swap _ _ _)
        · simp only [List.map_cons]
          rw [i2 x]
theorem wpList_put_cm {w : World} {m : Nat} {f : Int → Option Value} {ks : List Int} (h : CM w m f ks) {t e : TypeId} (ht : Try.prog.underlying t = some (.map 3 e)) {x : Int} (hx : I64 x) (hl : ks.length < 1000000000)
    {ops : Array Oper} {rest : List Oper} {o : Oper} {a : Act} {Q : Exit → Act → World → Prop} (hg : o.guard = none) (mo xo vo : Operand) (ho : o.op = .mapUpdate t mo xo vo) (hm : a.eval mo = .map (some m)) (hxo : a.eval xo = .int .i64 x) {v : Value} (hv : a.eval vo = v)
    (k : ∀ w', CM w' m (fun n => if n = x then some v else f n) (if (f x).isSome then ks else ks ++ [x]) → w.grownBy w' (some m) → wpList Try.prog ops Q rest (a.put o.dst undef) w') : wpList Try.prog ops Q (o :: rest) a w := by
  obtain ⟨L, h1, h2, h3, h4⟩ := h
  have hlen := h4.length_eq
  simp at hlen
  refine wpList_mapUpdate_own w hg mo xo vo t ho 3 e lawK ht anyElem m _ _ hm h2 (by unfold maxLen; omega) _ _ _ hxo hv (keyI hx) (.held v) [] rfl ?_
  intro w' h5 h6
  refine k w' ⟨putM x v L, h1.put x v, AnyAt.put h1 h5, fun n => ?_, ?_⟩ h6
  · rw [getM_put h1, h3]
  · obtain ⟨k1, k2⟩ := keys_putM x v h1
    rw [h3] at k1 k2
    cases hf : f x with
    | none =>
      have := k1 hf
      simp only [Option.isSome_none, Bool.false_eq_true, if_false]
      exact (this.trans (List.Perm.cons x h4)).trans (List.perm_append_singleton x ks).symm
    | some u =>
      simp only [Option.isSome_some, if_true]
      rw [k2 (by rw [hf]; simp)]
      exact h4

theorem CM.ne_cells {w : World} {b m : Nat} {f : Int → Option Value} {ks : List Int} {v : Value} {cs : List Value} (h : CM w m f ks) (k : Cells w b (v :: cs)) : b ≠ m := by
  intro q
  subst q
  obtain ⟨L, h1, ⟨es, clock, hb, _⟩, h3, h4⟩ := h
  have := (k.get 0 _ rfl).1
  simp [World.cell?, hb] at this

/-- 'clear(m)': the map holds nothing. -/
theorem CM.clear {w : World} {m : Nat} {f : Int → Option Value} {ks : List Int} (h : CM w m f ks) {t e : TypeId} (ht : Try.prog.underlying t = some (.map 3 e)) :
    ∃ w', (∀ ty, (Builtin.clear_ #[t] ty #[.map (some m)]).run Try.prog w = .ok (.tuple #[]) w') ∧ CM w' m (fun _ => none) [] ∧ ButAt m w w' := by
  obtain ⟨L, h1, ⟨es, clock, hb, F, hs, hD⟩, h3, h4⟩ := h
  refine ⟨ChangeMaps.setBlock w m (.map #[] clock), ?_, ⟨[], List.Pairwise.nil, ⟨#[], clock, ChangeMaps.heap_setBlock_same hb _, ⟨by simp, MapKept.stamped_empty clock, by simp⟩, Nat.le_refl _, rfl⟩, fun _ => rfl, List.Perm.refl _⟩, ?_⟩
  · intro ty
    simp [Builtin.clear_, run_underlying ht, MapKept.run_getObj_map hb, MapKept.run_setObj_map _ hb, Result.andThen, ChangeMaps.setBlock]
  · exact ⟨⟨rfl, rfl, rfl, by simp [ChangeMaps.setBlock], fun i _ hi => ChangeMaps.heap_setBlock_other hb _ (fun e => hi (by rw [e]))⟩, by simp [ChangeMaps.setBlock]⟩

/-! Lists of dirty pages in memory. -/
def drC (d : Dr) : List Value := [.int .i64 d.1, .int .i64 d.2]
abbrev drs (l : List Dr) : List Value := rowsC drC l
theorem drs_len (l : List Dr) : (drs l).length = l.length * 2 := by
  induction l with
  | nil => rfl
  | cons d r ih => simp only [drs, rowsC, List.flatMap_cons, List.length_append, List.length_cons] at ih ⊢; rw [ih]; simp [drC]; omega
theorem drs_one (l : List Dr) : ∀ u ∈ drs l, u.oneCell' = true := by
  intro u hu
  simp only [drs, rowsC, List.mem_flatMap] at hu
  obtain ⟨d, _, hu⟩ := hu
  simp [drC] at hu
  rcases hu with rfl | rfl <;> rfl
theorem drs_append (a b : List Dr) : drs (a ++ b) = drs a ++ drs b := by simp [drs, rowsC]
theorem Lies.dr {w : World} {a : Option Addr} {l : List Dr} (h : Lies w a (drs l)) {k : Nat} (hk : k < l.length) : ∃ b off, a = some ⟨b, off, none⟩ ∧ b < w.heap.size ∧ w.cell? ⟨b, off + k * 2, none⟩ = some (.int .i64 l[k].1) ∧ w.cell? ⟨b, off + k * 2 + 1, none⟩ = some (.int .i64 l[k].2) := by
  obtain ⟨b, off, e, hb, hc⟩ := Lies.rowAt drC 2 (fun _ => rfl) h k hk (by omega)
  exact ⟨b, off, e, hb, by have := hc 0 _ rfl; rwa [Nat.add_zero] at this, hc 1 _ rfl⟩
theorem lies_new2 (w : World) (d : Dr) (t : TypeId) : Lies (w.alloc (.cells #[.int .i64 d.1, .int .i64 d.2] t)) (some ⟨w.heap.size, 0, none⟩) (drs [d]) := by
  have h := Cells.new w #[.int .i64 d.1, .int .i64 d.2] t
  refine .inr ⟨w.heap.size, 0, rfl, h.1, fun i hi => ?_⟩
  have q := (h.2 i (by simpa [drs, rowsC, drC] using hi)).1
  rw [Nat.zero_add]
  exact q
theorem info28 : (Try.prog.info? 28).map (fun i => (i.zero, i.size, i.bytes)) = some (some (.agg #[.int .i64 0, .int .i64 0]), 2, 16) := by kernel_rfl
abbrev DRow (w : World) (B : Nat) (v : Value) (l : List Dr) : Prop := GRow w B 28 2 v l.length (drs l)
abbrev drV (d : Dr) : Value := .agg #[.int .i64 d.1, .int .i64 d.2]

theorem gmay_any (d : Dr) (w : World) : Calls Try.prog 34 #[drV d] w fun e w' => e = .returned (.int .i64 (mayE d)) ∧ Below w.heap.size w w' := by
  obtain ⟨p, s⟩ := d
  unfold mayE
  simp only
  by_cases h1 : p < 0
  · rw [if_pos h1]
    go_enter Try.func34, Try.ntmps34
    go_wp2
    go_ret
    exact ⟨rfl, alloc_below _ _⟩
  · rw [if_neg h1]
    by_cases h2 : 64 ≤ p
    · rw [if_pos h2]
      go_enter Try.func34, Try.ntmps34
      go_wp2
      go_ret
      exact ⟨rfl, alloc_below _ _⟩
    · rw [if_neg h2]
      by_cases h3 : s < 1
      · rw [if_pos h3]
        go_enter Try.func34, Try.ntmps34
        go_wp2
        go_ret
        exact ⟨rfl, alloc_below _ _⟩
      · rw [if_neg h3]
        by_cases h4 : 2147483647 < s
        · rw [if_pos h4]
          go_enter Try.func34, Try.ntmps34
          go_wp2
          go_ret
          exact ⟨rfl, alloc_below _ _⟩
        · rw [if_neg h4]
          go_enter Try.func34, Try.ntmps34
          go_wp2
          go_ret
          exact ⟨rfl, alloc_below _ _⟩

/-- A map of pages: since when each is dirty, by the list l. -/
def DM (w : World) (m : Nat) (l : List Dr) : Prop := ∃ ks, CM w m (fun n => (lst l n).map (Value.int .i64)) ks ∧ ks.length ≤ l.length
theorem DM.keep {S : Nat → Prop} {w w' : World} {m : Nat} {l : List Dr} (h : DM w m l) (hk : Keep S w w') (hn : ¬ S m) : DM w' m l := by
  obtain ⟨ks, h1, h2⟩ := h
  exact ⟨ks, h1.keep hk hn, h2⟩
theorem DM.below {w w' : World} {m : Nat} {l : List Dr} (h : DM w m l) (hk : Below w.heap.size w w') : DM w' m l := h.keep (Keep.of_below (S := fun _ => False) hk) id
theorem DM.lt {w : World} {m : Nat} {l : List Dr} (h : DM w m l) : m < w.heap.size := by
  obtain ⟨ks, h1, h2⟩ := h
  exact h1.lt
theorem zero3 : ∀ u : World, (zeroValue 3).run Try.prog u = .ok (.int .i64 0) u := Try.zeroValue3
theorem grown_keep {w w' : World} {row : Option Nat} (hg : w.grownBy w' row) : Keep (fun k => row = some k) w w' := (Keep.refl _ w).grown hg (fun _ hg' _ => hg')
theorem grown_m {w w' : World} {m : Nat} (hg : w.grownBy w' (some m)) : Keep (fun k => k = m) w w' := (grown_keep hg).mono (fun _ _ q => (Option.some.inj q).symm)
set_option maxHeartbeats 1000000 in
theorem gtake_any (m : Nat) (l : List Dr) (d : Dr) (w : World) (h : DM w m l) (hx : I64 d.1) (hl : l.length < 1000000) : Calls Try.prog 35 #[.map (some m), drV d] w fun e w' => e = .returned (.tuple #[]) ∧ DM w' m (l ++ [d]) ∧ Keep (fun k => k = m) w w' := by
  obtain ⟨p, s⟩ := d
  have hm := h.lt
  obtain ⟨ks, hc, hks⟩ := h
  have HC := hide hc
  have HK := hide hks
  have HX := hide hx
  have HM := hide hm
  have hcomp : ∀ (q : lst l p = none ∨ ∃ t, lst l p = some t ∧ s < t) (wb w' : World), Keep (fun k => k = m) w wb → CM w' m (fun n => if n = p then some (.int .i64 s) else (lst l n).map (Value.int .i64)) (if ((lst l p).map (Value.int .i64)).isSome then ks else ks ++ [p]) → DM w' m (l ++ [(p, s)]) := by
    intro q wb w' _ k
    refine ⟨(if ((lst l p).map (Value.int .i64)).isSome then ks else ks ++ [p]), ?_, ?_⟩
    · have e : (fun n => (lst (l ++ [(p, s)]) n).map (Value.int .i64)) = (fun n => if n = p then some (.int .i64 s) else (lst l n).map (Value.int .i64)) := by
        funext n
        rw [lst_snoc]
        unfold upd
        by_cases r : n = p
        · rw [if_pos r, if_pos r, r]
          rcases q with q | ⟨t, q, ht⟩
          · rw [q]; rfl
          · rw [q]; simp [lesser, ht]
        · rw [if_neg r, if_neg r]
      rw [e]
      exact k
    · split <;> simp <;> omega
  have HCO := hide hcomp
  clear hc hks hx hcomp
  cases hg : lst l p with
  | none =>
    have HG := hide hg
    clear hg hm
    go_enter Try.func35, Try.ntmps35
    go_wp2_with (first
      | (refine wpList_look_cm (CM.below HC.out (alloc_below _ _)) Try.underlying62 zero3 HX.out rfl _ _ rfl rfl rfl ?_; rw [HG.out]; simp only [Option.map_none, Option.getD_none, Option.isSome_none])
      | (refine wpList_put_cm (CM.below HC.out (alloc_below _ _)) Try.underlying62 HX.out (by have := HK.out; omega) rfl _ _ _ rfl rfl rfl rfl ?_; intro w2 q1 q2))
    go_end0
    refine ⟨rfl, HCO.out (.inl HG.out) w w2 (Keep.refl _ _) q1, ?_⟩
    exact ((Keep.refl _ w).alloc _).trans (grown_m q2) (fun _ _ q => q)
  | some t =>
    by_cases hlt : s < t
    · have HG := hide hg
      clear hg hm
      go_enter Try.func35, Try.ntmps35
      go_wp2_with (first
        | (refine wpList_look_cm (CM.below HC.out (alloc_below _ _)) Try.underlying62 zero3 HX.out rfl _ _ rfl rfl rfl ?_; rw [HG.out]; simp only [Option.map_some, Option.getD_some, Option.isSome_some])
        | (refine wpList_put_cm (CM.below HC.out (alloc_below _ _)) Try.underlying62 HX.out (by have := HK.out; omega) rfl _ _ _ rfl rfl rfl rfl ?_; intro w2 q1 q2))
      go_end0
      refine ⟨rfl, HCO.out (.inr ⟨t, HG.out, hlt⟩) w w2 (Keep.refl _ _) q1, ?_⟩
      exact ((Keep.refl _ w).alloc _).trans (grown_m q2) (fun _ _ q => q)
    · have HG := hide hg
      clear hg hm
      go_enter Try.func35, Try.ntmps35
      go_wp2_with (refine wpList_look_cm (CM.below HC.out (alloc_below _ _)) Try.underlying62 zero3 HX.out rfl _ _ rfl rfl rfl ?_; rw [HG.out]; simp only [Option.map_some, Option.getD_some, Option.isSome_some])
      go_end0
      refine ⟨rfl, ⟨ks, ?_, by simp; have := HK.out; omega⟩, (Keep.refl _ w).alloc _⟩
      have e : (fun n => (lst (l ++ [(p, s)]) n).map (Value.int .i64)) = (fun n => (lst l n).map (Value.int .i64)) := by
        funext n
        rw [lst_snoc]
        unfold upd
        by_cases r : n = p
        · rw [if_pos r, r, HG.out]; simp only [lesser, if_neg (show ¬ s < t by omega)]
        · rw [if_neg r]
      rw [e]
      exact HC.out.below (alloc_below _ _)
end Go.Proofs.Ythaiagalndcndaa
