import Derived.Test.YtimakfnlcgedkaaRgK
namespace Go.Proofs.Ytimakfnlcgedkaa
open Go.RowKit Go.QK Go.Maps Go.QM Go.QR
set_option maxRecDepth 100000

abbrev slotV (s : SlotN) : Value := .agg #[.int .i64 s.1, .int .i64 s.2]
theorem ret_int {k : IntKind} {a b : Int} (h : a = b) : Ending.returned (.int k a) = .returned (.int k b) := by rw [h]
set_option maxHeartbeats 400000 in
theorem num_any (e : Int) (w : World) : Calls Try.prog 10 #[.int .i64 e] w fun r w' => r = .returned (.int .i64 e) ∧ w' = w := by
  go_enter Try.func10, Try.ntmps10
  go_wp2
  go_ret
  exact ⟨rfl, rfl⟩
set_option maxHeartbeats 400000 in
theorem pagesFor_any (n each : Nat) (w : World) (hn : n ≤ 1000000) (h1 : 1 ≤ each) (he : each ≤ 1000) : Calls Try.prog 34 #[.int .i64 (n : Int), .int .i64 (each : Int)] w fun r w' => r = .returned (.int .i64 (needs n each : Nat)) ∧ w' = w := by
  go_enter Try.func34, Try.ntmps34
  go_wp2
  go_ret
  refine ⟨ret_int ?_, rfl⟩
  unfold needs
  have : ((n : Int) + each - 1) = ((n + each - 1 : Nat) : Int) := by omega
  rw [this]
  rfl
set_option maxHeartbeats 400000 in
theorem counterSlot_any (k : Nat) (w : World) (hn : k ≤ 1000000) : Calls Try.prog 24 #[.int .i64 (k : Int)] w fun r w' => r = .returned (slotV (low k)) ∧ Below w.heap.size w w' := by
  go_enter Try.func24, Try.ntmps24
  go_wp2
  exact bodyPost_ret (v := slotV (low k)) (by simp [results, Try.results24, go_sem, low]) rfl ⟨rfl, alloc_below _ _⟩
set_option maxHeartbeats 400000 in
theorem groupSlot_any (P k : Nat) (w : World) (hp : P ≤ 64) (hn : k ≤ 1000000) : Calls Try.prog 22 #[.int .i64 (P : Int), .int .i64 (k : Int)] w fun r w' => r = .returned (slotV (high P k)) ∧ Below w.heap.size w w' := by
  go_enter Try.func22, Try.ntmps22
  go_wp2
  exact bodyPost_ret (v := slotV (high P k)) (by simp [results, Try.results22, go_sem, high]) rfl ⟨rfl, alloc_below _ _⟩
def roomB (P n g : Nat) : Bool := decide (needs n 31 + needs g 84 ≤ P)
theorem needs_le (n e : Nat) (he : 1 ≤ e) : needs n e ≤ n + 1 := by
  unfold needs
  have : (n + e - 1) / e ≤ (n * e + e) / e := Nat.div_le_div_right (by have : n ≤ n * e := Nat.le_mul_of_pos_right n he; omega)
  rw [Nat.add_div_right _ (by omega), Nat.mul_div_cancel _ (by omega)] at this
  omega
set_option maxHeartbeats 400000 in
theorem hasRoom_any (P n g : Nat) (w : World) (_hp : P ≤ 64) (hn : n ≤ 1000000) (hg : g ≤ 1000000) : Calls Try.prog 23 #[.int .i64 (P : Int), .int .i64 (n : Int), .int .i64 (g : Int)] w fun r w' => r = .returned (.bool (roomB P n g)) ∧ w' = w := by
  have K1 := pagesFor_any n 31 w hn (by omega) (by omega)
  have K2 := pagesFor_any g 84 w hg (by omega) (by omega)
  have b1 := needs_le n 31 (by omega)
  have b2 := needs_le g 84 (by omega)
  unfold roomB
  generalize needs n 31 = x at *
  generalize needs g 84 = y at *
  go_enter Try.func23, Try.ntmps23
  go_wp2_with fail
  refine K1.mono ?_
  rintro r w1 ⟨rfl, rfl⟩
  go_wp2_with fail
  refine K2.mono ?_
  rintro r w1 ⟨rfl, rfl⟩
  go_wp2_with fail
  go_ret
  refine ⟨?_, rfl⟩
  rw [show decide ((x : Int) + (y : Int) ≤ (P : Int)) = decide (x + y ≤ P) from decide_eq_decide.2 (by omega)]
  rfl

/-! A map of the program's own: what each key has, and the keys. -/
def CM (w : World) (m : Nat) (f : Int → Option Value) (ks : List Int) : Prop := ∃ L : Prs Value, Up L ∧ AnyAt Try.prog 3 w m L ∧ (∀ k, getM L k = f k) ∧ (L.map Prod.fst).Perm ks
theorem CM.keep {S : Nat → Prop} {w w' : World} {m : Nat} {f : Int → Option Value} {ks : List Int} (h : CM w m f ks) (hk : Keep S w w') (hn : ¬ S m) : CM w' m f ks := by
  obtain ⟨L, h1, h2, h3, h4⟩ := h
  exact ⟨L, h1, anyAt_keep h2 hk hn, h3, h4⟩
theorem CM.below {w w' : World} {m : Nat} {f : Int → Option Value} {ks : List Int} (h : CM w m f ks) (hk : Below w.heap.size w w') : CM w' m f ks := h.keep (Keep.of_below (S := fun _ => False) hk) id
theorem CM.lt {w : World} {m : Nat} {f : Int → Option Value} {ks : List Int} (h : CM w m f ks) : m < w.heap.size := by
  obtain ⟨L, h1, h2, h3, h4⟩ := h
  exact World.ownsMap.lt h2
theorem CM.made (w : World) : CM (w.alloc (.map #[] 0)) w.heap.size (fun _ => none) [] := ⟨[], List.Pairwise.nil, AnyAt.made Try.prog 3 w, fun _ => rfl, List.Perm.refl _⟩
theorem CM.look {w : World} {m : Nat} {f : Int → Option Value} {ks : List Int} (h : CM w m f ks) {t e : TypeId} (ht : Try.prog.underlying t = some (.map 3 e)) {z : Value} (hz : ∀ u : World, (zeroValue e).run Try.prog u = .ok z u) {x : Int} (hx : I64 x) :
    (Instr.lookup t (.map (some m)) (.int .i64 x) false).run Try.prog w = .ok ((f x).getD z) w := by
  obtain ⟨L, h1, h2, h3, h4⟩ := h
  rw [← h3]
  exact any_run lawK ht hz h2 (keyI hx)
theorem CM.len {w : World} {m : Nat} {f : Int → Option Value} {ks : List Int} (h : CM w m f ks) {t e : TypeId} (ht : Try.prog.underlying t = some (.map 3 e)) (ty : TypeId) :
    (Builtin.len_ #[t] ty #[.map (some m)]).run Try.prog w = .ok (.int .i64 (ks.length : Int)) w := by
  obtain ⟨L, h1, h2, h3, h4⟩ := h
  have e1 : ks.length = Maps.size (mapE (H := Value) .held L) := by
    rw [mapE_size]
    have := h4.length_eq
    simpa using this.symm
  rw [e1]
  exact World.ownsMap.len h2 ht ty
theorem wpList_look_cm {w : World} {m : Nat} {f : Int → Option Value} {ks : List Int} (h : CM w m f ks) {t e : TypeId} (ht : Try.prog.underlying t = some (.map 3 e)) {z : Value} (hz : ∀ u : World, (zeroValue e).run Try.prog u = .ok z u) {x : Int} (hx : I64 x)
    {ops : Array Oper} {rest : List Oper} {o : Oper} {a : Act} {Q : Exit → Act → World → Prop} (hg : o.guard = none) (mo xo : Operand) (ho : o.op = .lookup t mo xo true) (hm : a.eval mo = .map (some m)) (hxo : a.eval xo = .int .i64 x)
    (k : wpList Try.prog ops Q rest (a.put o.dst (.tuple #[(f x).getD z, .bool (f x).isSome])) w) : wpList Try.prog ops Q (o :: rest) a w := by
  obtain ⟨L, h1, h2, h3, h4⟩ := h
  refine wpList_lookup_own_ok w hg mo xo t ho 3 e lawK ht anyElem (hz w) (.held z) [] rfl m _ _ hm h2 _ _ hxo (keyI hx) ?_
  intro v ps hv
  obtain rfl := any_look hv
  rw [mapE_has, hasM_get, h3]
  exact k
theorem keys_putM {L : Prs Value} (k : Int) (v : Value) (h : Up L) : (getM L k = none → ((putM k v L).map Prod.fst).Perm (k :: L.map Prod.fst)) ∧ (getM L k ≠ none → (putM k v L).map Prod.fst = L.map Prod.fst) := by
  induction L with
  | nil => exact ⟨fun _ => by simp [putM], fun q => absurd rfl q⟩
  | cons p r ih =>
    obtain ⟨i1, i2⟩ := ih h.tail
    simp only [putM]
    rw [getM_cons]
    by_cases q1 : k < p.1
    · have hn : getM r k = none := getM_none (fun x hx => by have := h.head x hx; omega)
      rw [if_neg (by omega), hn, if_pos q1]
      exact ⟨fun _ => by simp, fun x => absurd rfl x⟩
    · rw [if_neg q1]
      by_cases q2 : p.1 = k
      · rw [if_pos q2, if_pos q2]
        exact ⟨fun x => (by cases x), fun _ => (by simp [q2])⟩
      · rw [if_neg q2, if_neg q2]
        refine ⟨fun x => ?_, fun x => ?_⟩
        · simp only [List.map_cons]
          exact (List.Perm.cons p.1 (i1 x)).trans (List.Perm.swap _ _ _)
        · simp only [List.map_cons]
          rw [i2 x]
theorem wpList_put_cm {w : World} {m : Nat} {f : Int → Option Value} {ks : List Int} (h : CM w m f ks) {t e : TypeId} (ht : Try.prog.underlying t = some (.map 3 e)) {x : Int} (hx : I64 x) (hl : ks.length < 1000000000)
    {ops : Array Oper} {rest : List Oper} {o : Oper} {a : Act} {Q : Exit → Act → World → Prop} (hg : o.guard = none) (mo xo vo : Operand) (ho : o.op = .mapUpdate t mo xo vo) (hm : a.eval mo = .map (some m)) (hxo : a.eval xo = .int .i64 x) {v : Value} (hv : a.eval vo = v)
    (k : ∀ w', CM w' m (fun n => if n = x then some v else f n) (if (f x).isSome then ks else ks ++ [x]) → w.grownBy w' (some m) → wpList Try.prog ops Q rest (a.put o.dst undef) w') : wpList Try.prog ops Q (o :: rest) a w := by
  obtain ⟨L, h1, h2, h3, h4⟩ := h
  have hlen := h4.length_eq
  simp at hlen
  refine wpList_mapUpdate_own w hg mo xo vo t ho 3 e lawK ht anyElem m _ _ hm h2 (by unfold maxLen; omega) _ _ _ hxo hv (keyI hx) (.held v) [] rfl ?_
  intro w' h5 h6
  refine k w' ⟨putM x v L, h1.put x v, AnyAt.put h1 h5, fun n => ?_, ?_⟩ h6
  · rw [getM_put h1, h3]
  · obtain ⟨k1, k2⟩ := keys_putM x v h1
    rw [h3] at k1 k2
    cases hf : f x with
    | none =>
      have := k1 hf
      simp only [Option.isSome_none, Bool.false_eq_true, if_false]
      exact (this.trans (List.Perm.cons x h4)).trans (List.perm_append_singleton x ks).symm
    | some u =>
      simp only [Option.isSome_some, if_true]
      rw [k2 (by rw [hf]; simp)]
      exact h4

/-! A registry in memory: its block, its two maps. -/
abbrev stV (p : SlotN × Int) : Value := .agg #[.int .i64 p.1.1, .int .i64 p.1.2, .int .i64 p.2]
structure PR (w : World) (b m g : Nat) (r : Reg) : Prop where
  box : Cells w b [.int .i64 (r.P : Int), .map (some m), .map (some g)]
  cm : CM w m (fun k => (r.entry k).map stV) r.nums
  gm : CM w g (fun k => (r.gslot k).map slotV) r.G
  ne : m ≠ g
  ok : r.Ok
theorem PR.keep {S : Nat → Prop} {w w' : World} {b m g : Nat} {r : Reg} (h : PR w b m g r) (hk : Keep S w w') (h1 : ¬ S b) (h2 : ¬ S m) (h3 : ¬ S g) : PR w' b m g r := ⟨h.box.keep hk h1, h.cm.keep hk h2, h.gm.keep hk h3, h.ne, h.ok⟩
theorem PR.below {w w' : World} {b m g : Nat} {r : Reg} (h : PR w b m g r) (hk : Below w.heap.size w w') : PR w' b m g r := h.keep (Keep.of_below (S := fun _ => False) hk) id id id
theorem PR.lt {w : World} {b m g : Nat} {r : Reg} (h : PR w b m g r) : b < w.heap.size ∧ m < w.heap.size ∧ g < w.heap.size := ⟨h.box.1, h.cm.lt, h.gm.lt⟩
theorem CM.ne_cells {w : World} {b m : Nat} {f : Int → Option Value} {ks : List Int} {v : Value} {cs : List Value} (h : CM w m f ks) (k : Cells w b (v :: cs)) : b ≠ m := by
  intro q
  subst q
  obtain ⟨L, h1, ⟨es, clock, hb, _⟩, h3, h4⟩ := h
  have := (k.get 0 _ rfl).1
  simp [World.cell?, hb] at this

set_option maxHeartbeats 400000 in
theorem new_no (p : Int) (w : World) (h : p < 2 ∨ 64 < p) : Calls Try.prog 9 #[.int .i64 p] w fun r w' => r = .returned (.tuple #[.pointer none, .int .i64 2]) ∧ w' = w := by
  by_cases h1 : p < 2
  · go_enter Try.func9, Try.ntmps9
    go_wp2
    go_ret2
    exact ⟨rfl, rfl⟩
  · have h2 : 64 < p := by omega
    go_enter Try.func9, Try.ntmps9
    go_wp2
    go_ret2
    exact ⟨rfl, rfl⟩
set_option maxHeartbeats 400000 in
theorem new_yes (p : Nat) (w : World) (h1 : 2 ≤ p) (h2 : p ≤ 64) : Calls Try.prog 9 #[.int .i64 (p : Int)] w fun r w' => r = .returned (.tuple #[ptr (w.heap.size + 2), .int .i64 0]) ∧ PR w' (w.heap.size + 2) w.heap.size (w.heap.size + 1) ⟨p, [], []⟩ ∧ Below w.heap.size w w' ∧ w'.heap.size = w.heap.size + 3 := by
  have hmm := @run_makeMap Try.prog
  go_enter Try.func9, Try.ntmps9
  go_wp2
  go_ret2
  refine ⟨rfl, ⟨?_, ?_, ?_, by omega, Reg.Ok.new h1 h2⟩, ?_, by simp⟩
  · have := Cells.new ((w.alloc (.map #[] 0)).alloc (.map #[] 0)) #[.int .i64 (p : Int), .map (some w.heap.size), .map (some (w.heap.size + 1))] 68
    simpa using this
  · exact ((CM.made w).below (alloc_below _ _)).below (alloc_below _ _)
  · have := (CM.made (w.alloc (.map #[] 0))).below (alloc_below _ (.cells #[.int .i64 (p : Int), .map (some w.heap.size), .map (some (w.heap.size + 1))] 68))
    simpa [Reg.gslot, place] using this
  · exact (((alloc_below _ _).alloc (by simp) _).alloc (by simp; omega) _)
end Go.Proofs.Ytimakfnlcgedkaa
