import Derived.Test.YtehbpmibllpkhaaGreatDoorUd2
set_option linter.all false
namespace Go.Proofs.YtehbpmibllpkhaaGreatDoor
open Go.RowKit Go.QK Go.Maps Go.QM Go.QU
set_option maxRecDepth 100000
theorem wp_upd {o : Oper} {a : Act} {x x' : World} {K : Act → World → Prop} {Q : Exit → Act → World → Prop} {cond : Bool} {t : TypeId} {v u y : Value} (s r z : Operand) (hc : cond = true)
    (ho : o.op = .mapUpdate t s r z) (hs : a.eval s = v) (hr : a.eval r = u) (hz : a.eval z = y) (hrun : (Instr.mapUpdate t v u y).run Tryz.prog x = .ok () x')
    (h : K (a.put o.dst undef) x') : if cond = true then Oper.wp Tryz.prog o a x K Q else K (a.put o.dst undef) x := by
  rw [if_pos hc]
  unfold Oper.wp
  simp [execOp, ho, hs, hr, hz, hrun, Result.andThen]
  rw [Oper.upon_skip]
  exact h
theorem wp_del {o : Oper} {a : Act} {x x' : World} {K : Act → World → Prop} {Q : Exit → Act → World → Prop} {cond : Bool} {t k : TypeId} {v u : Value} (s r : Operand) (hc : cond = true)
    (ho : o.op = .call { callee := .builtin .delete, args := #[s, r], argTypes := #[t, k] }) (hs : a.eval s = v) (hr : a.eval r = u) (hrun : (Builtin.delete_ #[t, k] o.type #[v, u]).run Tryz.prog x = .ok (.tuple #[]) x')
    (h : K (a.put o.dst (.tuple #[])) x') : if cond = true then Oper.wp Tryz.prog o a x K Q else K (a.put o.dst undef) x := by
  rw [if_pos hc]
  unfold Oper.wp
  simp [execOp, ho, resolve, invoke, builtin, hs, hr, hrun, Result.andThen]
  rw [Oper.upon_value]
  exact h
theorem any_upd {P : Program} {t k e : TypeId} (K : Keyed P k) (ht : P.underlying t = some (.map k e)) {w : World} {m : Nat} {L : Prs Value} (h : AnyAt P k w m L) (hu : Up L) {x : Int} (hk : keyOf P k (.int .i64 x) = some (.int .i64 x)) (hl : L.length < 1000000000000000) (v : Value) :
    ∃ w', (Instr.mapUpdate t (.map (some m)) (.int .i64 x) v).run P w = .ok () w' ∧ AnyAt P k w' m (putM x v L) ∧ w.grownBy w' (some m) := by
  obtain ⟨w', h1, h2, h3⟩ := World.ownsMap.update h K ht (by unfold maxLen; omega) hk (show anyElem v = some (.held v, []) from rfl)
  exact ⟨w', h1, AnyAt.put hu h2, h3⟩
theorem any_del {P : Program} {t k e : TypeId} (K : Keyed P k) (ht : P.underlying t = some (.map k e)) {w : World} {m : Nat} {L : Prs Value} (h : AnyAt P k w m L) {x : Int} (hk : keyOf P k (.int .i64 x) = some (.int .i64 x)) (ty : TypeId) :
    ∃ w', (Builtin.delete_ #[t, k] ty #[.map (some m), .int .i64 x]).run P w = .ok (.tuple #[]) w' ∧ AnyAt P k w' m (delM L x) ∧ w.grownBy w' (some m) := by
  obtain ⟨w', h1, h2, h3⟩ := World.ownsMap.drop h K ht hk ty
  exact ⟨w', h1, AnyAt.del h2, h3.grown⟩

/-! The book: a map by the counter's number. -/
def hdV (h : Hd) : Value := .agg #[.int .i64 h.n, .int .i64 h.wp, .int .i64 h.wi, .int .i64 h.sp, .int .i64 h.si]
def bkV (L : Prs Hd) : Prs Value := L.map (fun p => (p.1, hdV p.2))
theorem bkV_len (L : Prs Hd) : (bkV L).length = L.length := by simp [bkV]
theorem bkV_up {L : Prs Hd} (h : Up L) : Up (bkV L) := by
  unfold bkV Up
  rw [List.pairwise_map]
  exact h
theorem getM_bkV (L : Prs Hd) (k : Int) : getM (bkV L) k = (getM L k).map hdV := by
  induction L with
  | nil => rfl
  | cons p r ih =>
    show getM ((p.1, hdV p.2) :: bkV r) k = _
    rw [getM_cons, getM_cons, ih]
    split <;> rfl
theorem delM_bkV (L : Prs Hd) (k : Int) : delM (bkV L) k = bkV (delM L k) := by
  unfold delM bkV
  rw [List.filter_map]
  rfl
theorem putM_bkV (k : Int) (h : Hd) (L : Prs Hd) : putM k (hdV h) (bkV L) = bkV (putM k h L) := by
  induction L with
  | nil => rfl
  | cons p r ih =>
    show putM k (hdV h) ((p.1, hdV p.2) :: bkV r) = _
    simp only [putM]
    by_cases q1 : k < p.1
    · rw [if_pos q1, if_pos q1]; rfl
    · rw [if_neg q1, if_neg q1]
      by_cases q2 : p.1 = k
      · rw [if_pos q2, if_pos q2]; rfl
      · rw [if_neg q2, if_neg q2, ih]; rfl
def gotH (L : Prs Hd) (k : Int) : Hd := (getM L k).getD ⟨0, 0, 0, 0, 0⟩
theorem netL_got (L : Prs Hd) (k : Int) : netL L k = (gotH L k).n := by
  unfold netL gotH
  cases getM L k <;> rfl
theorem zero98 : ∀ u : World, (zeroValue 98).run Tryz.prog u = .ok (hdV ⟨0, 0, 0, 0, 0⟩) u := Tryz.zeroValue98
structure PB (w : World) (b m : Nat) (L : Prs Hd) : Prop where
  box : Cells w b [.map (some m)]
  mp : AnyAt Tryz.prog 3 w m (bkV L)
  up : Up L
  fits : Fits L
  few : L.length < 1000000000000
section
variable {w w' : World} {b m : Nat} {L : Prs Hd}
theorem PB.keep {S : Nat → Prop} (h : PB w b m L) (hk : Keep S w w') (h1 : ¬ S b) (h2 : ¬ S m) : PB w' b m L := ⟨h.box.keep hk h1, anyAt_keep h.mp hk h2, h.up, h.fits, h.few⟩
theorem PB.below (h : PB w b m L) (hk : Below w.heap.size w w') : PB w' b m L := h.keep (Keep.of_below (S := fun _ => False) hk) id id
theorem PB.lt (h : PB w b m L) : b < w.heap.size ∧ m < w.heap.size := ⟨h.box.1, World.ownsMap.lt h.mp⟩
theorem PB.ne (h : PB w b m L) : b ≠ m := by
  intro q
  subst q
  obtain ⟨es, clock, hb, _⟩ := h.mp
  have := (h.box.get 0 _ rfl).1
  simp [World.cell?, hb] at this
theorem PB.look (h : PB w b m L) {x : Int} (hx : I64 x) : (Instr.lookup 93 (.map (some m)) (.int .i64 x) false).run Tryz.prog w = .ok (hdV (gotH L x)) w := by
  have := any_run lawK Tryz.underlying93 zero98 h.mp (keyI hx)
  rw [getM_bkV] at this
  rw [this]
  unfold gotH
  cases getM L x <;> rfl
theorem PB.look2 (h : PB w b m L) {x : Int} (hx : I64 x) : (Instr.lookup 93 (.map (some m)) (.int .i64 x) true).run Tryz.prog w = .ok (.tuple #[hdV (gotH L x), .bool (getM L x).isSome]) w := by
  obtain ⟨v, ps, hrun, hv⟩ := World.ownsMap.look_ok h.mp lawK Tryz.underlying93 (zero98 w) (show anyElem (hdV ⟨0, 0, 0, 0, 0⟩) = some (.held (hdV ⟨0, 0, 0, 0, 0⟩), []) from rfl) (keyI hx)
  rw [any_look hv, getM_bkV, mapE_has, hasM_get, getM_bkV] at hrun
  rw [hrun]
  unfold gotH
  cases getM L x <;> simp
end
theorem keepM {w w' : World} {m : Nat} (hg : w.grownBy w' (some m)) : Keep (fun z => z = m) w w' := (Keep.refl _ w).grown hg (fun _ e _ => by cases e; rfl)
theorem put_fits {L : Prs Hd} (h : Fits L) (k : Int) (x : Hd) (hx : fitB x.n = true) : Fits (putM k x L) := fun p hp => (mem_putM hp).elim (fun e => by rw [e]; exact hx) (h p)
/-- What is asked of a record's cells. -/
structure RF (A : Array Value) (r : UR) : Prop where
  sz : A.size = 17
  one : A.toList.all (·.oneCell') = true
  c1 : A.toList[1]? = some (.int .i64 r.kind)
  c2 : A.toList[2]? = some (.int .i64 r.tx)
  c4 : A.toList[4]? = some (.int .i64 r.wp)
  c5 : A.toList[5]? = some (.int .i64 r.wi)
  c6 : A.toList[6]? = some (.int .i64 r.sp)
  c7 : A.toList[7]? = some (.int .i64 r.si)
  c8 : A.toList[8]? = some (.int .i64 r.delta)
  c9 : A.toList[9]? = some (.int .i64 r.id)
theorem RF.of (r : RZ) : RF (rzA r) (urOf r) := ⟨rfl, rfl, rfl, rfl, rfl, rfl, rfl, rfl, rfl, rfl⟩
theorem RF.cell {A : Array Value} {r : UR} (_h : RF A r) {w : World} {b : Nat} (hb : RBox w b 53 A) {j : Nat} {v : Value} (hv : A.toList[j]? = some v) : w.cell? ⟨b, j, none⟩ = some v := (hb.cells.get j v hv).1
set_option maxHeartbeats 2000000 in
theorem passes_any (n d : Int) (w : World) (h1 : I64 n) (h2 : I64 d) : Calls Tryz.prog 50 #[.int .i64 n, .int .i64 d] w fun e w' => e = .returned (.bool (!fitB (n + d))) ∧ w = w' := by
  unfold I64 at h1 h2
  obtain ⟨q, hq⟩ : ∃ q, q = fitB (n + d) := ⟨_, rfl⟩
  rw [← hq]
  have HQ : Hid (q = (decide (-9223372036854775808 ≤ n + d) && decide (n + d ≤ 9223372036854775807))) := hq
  clear hq
  by_cases hd : 0 < d
  · have d1 : decide (d > 0) = true := decide_eq_true hd
    have d2 : decide (0 < d) = true := decide_eq_true hd
    have e1 : wrap64 (9223372036854775807 - d) = 9223372036854775807 - d := by unfold wrap64; omega
    by_cases hp : 9223372036854775807 - d < n
    · have d3 : decide (9223372036854775807 - d < n) = true := decide_eq_true hp
      have d4 : decide (n > 9223372036854775807 - d) = true := decide_eq_true hp
      go_enter Tryz.func50, Tryz.ntmps50
      go_wp2_with fail
      go_ret
      have : q = false := by rw [HQ.out, decide_eq_false (p := n + d ≤ 9223372036854775807) (by omega), Bool.and_false]
      exact ⟨by rw [this]; rfl, rfl⟩
    · have d3 : decide (9223372036854775807 - d < n) = false := decide_eq_false hp
      have d4 : decide (n > 9223372036854775807 - d) = false := decide_eq_false hp
      go_enter Tryz.func50, Tryz.ntmps50
      go_wp2_with fail
      go_ret
      have : q = true := by rw [HQ.out, decide_eq_true (p := n + d ≤ 9223372036854775807) (by omega), decide_eq_true (p := -9223372036854775808 ≤ n + d) (by omega)]; rfl
      exact ⟨by rw [this]; rfl, rfl⟩
  · have d1 : decide (d > 0) = false := decide_eq_false hd
    have d2 : decide (0 < d) = false := decide_eq_false hd
    have e1 : wrap64 (-9223372036854775808 - d) = -9223372036854775808 - d := by unfold wrap64; omega
    by_cases hp : n < -9223372036854775808 - d
    · have d3 : decide (n < -9223372036854775808 - d) = true := decide_eq_true hp
      go_enter Tryz.func50, Tryz.ntmps50
      go_wp2_with fail
      go_ret
      have : q = false := by rw [HQ.out, decide_eq_false (p := -9223372036854775808 ≤ n + d) (by omega), Bool.false_and]
      exact ⟨by rw [this]; rfl, rfl⟩
    · have d3 : decide (n < -9223372036854775808 - d) = false := decide_eq_false hp
      go_enter Tryz.func50, Tryz.ntmps50
      go_wp2_with fail
      go_ret
      have : q = true := by rw [HQ.out, decide_eq_true (p := n + d ≤ 9223372036854775807) (by omega), decide_eq_true (p := -9223372036854775808 ≤ n + d) (by omega)]; rfl
      exact ⟨by rw [this]; rfl, rfl⟩
set_option maxHeartbeats 2000000 in
theorem newBook_any (w : World) : Calls Tryz.prog 15 #[] w fun e w' => e = .returned (ptr (w.heap.size + 1)) ∧ PB w' (w.heap.size + 1) w.heap.size [] ∧ Below w.heap.size w w' := by
  have hmm := @run_makeMap Tryz.prog
  go_enter Tryz.func15, Tryz.ntmps15
  go_wp2_with fail
  go_ret
  refine ⟨rfl, ⟨?_, ?_, Up.nil, (fun p hp => by cases hp), by decide⟩, ?_⟩
  · have := Cells.new (w.alloc (.map #[] 0)) #[.map (some w.heap.size)] 95
    simpa using this
  · exact anyAt_below (AnyAt.made Tryz.prog 3 w) (alloc_below _ _)
  · exact (alloc_below _ _).alloc (by simp) _
set_option maxHeartbeats 4000000 in
theorem add_any (b m : Nat) (L : Prs Hd) (A : Array Value) (r : UR) (w : World) (h : PB w b m L) (hr : RF A r) (i1 : I64 r.id) (i2 : I64 r.delta) (hl : L.length + 1 < 1000000000000) :
    Calls Tryz.prog 33 #[ptr b, .agg A] w fun e w' => e = .returned (.int .i64 ((addE L r : Nat) : Int)) ∧ PB w' b m (if addE L r = 0 then putM r.id (addH L r) L else L) ∧ Keep (fun z => z = m) w w' := by
  obtain ⟨gn, g1, g2, g3, g4, hgot⟩ : ∃ gn g1 g2 g3 g4, gotH L r.id = ⟨gn, g1, g2, g3, g4⟩ := ⟨_, _, _, _, _, rfl⟩
  have hne := h.ne
  obtain ⟨w2, hw2⟩ : ∃ z, z = w.alloc (.cells A 53) := ⟨_, rfl⟩
  obtain ⟨X, hX⟩ : ∃ z, z = w.heap.size := ⟨_, rfl⟩
  have PB2 := hide (show PB w2 b m L by rw [hw2]; exact h.below (alloc_below _ _))
  have RB2 := hide (show RBox w2 X 53 A by rw [hw2, hX]; exact RBox.new _ _ _)
  have K2 := hide (show Below w.heap.size w w2 by rw [hw2]; exact alloc_below _ _)
  have lt := h.lt
  have BX := hide (show b < X ∧ m < X by rw [hX]; exact lt)
  have hnet : netL L r.id = gn := by rw [netL_got, hgot]
  have n1 : I64 gn := by have := net_fits h.fits r.id; rw [hnet] at this; exact this
  have FIN := hide (show ∀ w3, Keep (fun z => z = m) w2 w3 → AnyAt Tryz.prog 3 w3 m (putM r.id (hdV (addH L r)) (bkV L)) → addE L r = 0 → PB w3 b m (putM r.id (addH L r) L) from fun w3 hk hm he => ⟨PB2.out.box.keep hk hne, by rw [← putM_bkV]; exact hm, h.up.put _ _, put_fits h.fits _ _ (by
      unfold addE at he
      by_cases q : fitB (netL L r.id + r.delta) = true
      · exact q
      · rw [if_neg q] at he; cases he), by have := length_putM r.id (addH L r) L; omega⟩)
  have PS := hide (fun w => passes_any gn r.delta w n1 i2)
  have hE : addE L r = if fitB (gn + r.delta) = true then 0 else 10 := by unfold addE; rw [hnet]
  have hH : addH L r = ⟨gn + r.delta, r.wp, r.wi, r.sp, r.si⟩ := by unfold addH; rw [hnet]
  obtain ⟨E, hEE⟩ : ∃ E, E = addE L r := ⟨_, rfl⟩
  rw [← hEE] at hE FIN ⊢
  have HE := hide hE
  have HH := hide hH
  have HG := hide hgot
  clear hE hH hEE hgot hnet n1 lt h
  go_enter Tryz.func33, Tryz.ntmps33
  go_upto_region 1 with fail
  rw [← hw2, ← hX]
  have HW2 := hide hw2
  have HX := hide hX
  clear hw2 hX
  refine wp_region_held_drew (S := fun wq => Below w2.heap.size w2 wq) (by kernel_rfl) (Below.refl _ _).drew (fun hS => ?_)
  refine take_at 0 (some 6) (v := ?_) rfl rfl (by kernel_rfl) (by kernel_rfl) (by kernel_rfl) (fun _ _ _ h => h) ⟨by rfl, ?_⟩ hS ?_
  rotate_left
  · intro wq hSw; go_simp; try rfl
  simp only [Act.put, List.setIfInBounds_toArray, List.set_cons_zero, List.set_cons_succ]
  refine take_at 1 (some 7) (v := ?_) rfl rfl (by kernel_rfl) (by kernel_rfl) (by kernel_rfl) (fun _ _ _ h => h) ⟨by rfl, ?_⟩ hS ?_
  rotate_left
  · intro wq hSw; go_simp; try rfl
  simp only [Act.put, List.setIfInBounds_toArray, List.set_cons_zero, List.set_cons_succ]
  refine take_at 2 (some 8) (v := ?_) rfl rfl (by kernel_rfl) (by kernel_rfl) (by kernel_rfl) (fun _ _ _ h => h) ⟨by rfl, ?_⟩ hS ?_
  rotate_left
  · intro wq hSw; go_simp; try rfl
  simp only [Act.put, List.setIfInBounds_toArray, List.set_cons_zero, List.set_cons_succ]
  refine take_at 3 (some 9) (v := ?_) rfl rfl (by kernel_rfl) (by kernel_rfl) (by kernel_rfl) (fun _ _ _ h => h) ⟨by rfl, ?_⟩ hS ?_
  rotate_left
  · intro wq hSw; have q0 := ((PB2.out.below hSw).box.get 0 _ rfl).1; go_simp; try rfl
  simp only [Act.put, List.setIfInBounds_toArray, List.set_cons_zero, List.set_cons_succ]
  refine take_at 4 (some 10) (v := ?_) rfl rfl (by kernel_rfl) (by kernel_rfl) (by kernel_rfl) (fun _ _ _ h => h) ⟨by rfl, ?_⟩ hS ?_
  rotate_left
  · intro wq hSw; go_simp; try rfl
  simp only [Act.put, List.setIfInBounds_toArray, List.set_cons_zero, List.set_cons_succ]
  refine take_at 5 (some 11) (v := ?_) rfl rfl (by kernel_rfl) (by kernel_rfl) (by kernel_rfl) (fun _ _ _ h => h) ⟨by rfl, ?_⟩ hS ?_
  rotate_left
  · intro wq hSw; go_simp; try rfl
  simp only [Act.put, List.setIfInBounds_toArray, List.set_cons_zero, List.set_cons_succ]
  refine take_at 6 (some 12) (v := ?_) rfl rfl (by kernel_rfl) (by kernel_rfl) (by kernel_rfl) (fun _ _ _ h => h) ⟨by rfl, ?_⟩ hS ?_
  rotate_left
  · intro wq hSw; have q0 := hr.cell (RB2.out.below hSw) hr.c9; go_simp; try rfl
  simp only [Act.put, List.setIfInBounds_toArray, List.set_cons_zero, List.set_cons_succ]
  refine take_at 7 (some 13) (v := ?_) rfl rfl (by kernel_rfl) (by kernel_rfl) (by kernel_rfl) (fun _ _ _ h => h) ⟨by rfl, ?_⟩ hS ?_
  rotate_left
  · intro wq hSw; have q0 := (PB2.out.below hSw).look i1; simp only [HG.out, hdV] at q0; go_simp; try rfl
  simp only [Act.put, List.setIfInBounds_toArray, List.set_cons_zero, List.set_cons_succ]
  refine take_at 8 (some 14) (v := ?_) rfl rfl (by kernel_rfl) (by kernel_rfl) (by kernel_rfl) (fun _ _ _ h => h) ⟨by rfl, ?_⟩ hS ?_
  rotate_left
  · intro wq hSw; go_simp; try rfl
  simp only [Act.put, List.setIfInBounds_toArray, List.set_cons_zero, List.set_cons_succ]
  refine take_at 9 (some 5) (v := ?_) rfl rfl (by kernel_rfl) (by kernel_rfl) (by kernel_rfl) (fun _ _ _ h => h) ⟨by rfl, ?_⟩ hS ?_
  rotate_left
  · intro wq hSw; go_simp; try rfl
  simp only [Act.put, List.setIfInBounds_toArray, List.set_cons_zero, List.set_cons_succ]
  have D9 := hide hS
  clear hS
  refine wpAnyH_done (by kernel_rfl) ?_ _
  have D8 := hide (hr.cell (RB2.out.below D9.out) hr.c8)
  have q8 := D8.out
  go_wp2_with fail
  clear q8
  refine (PS.out _).mono ?_
  rintro e w4 ⟨rfl, rfl⟩
  by_cases hq : fitB (gn + r.delta) = true
  · have e1 : (!fitB (gn + r.delta)) = false := by rw [hq]; rfl
    have e0 : E = 0 := by rw [HE.out, if_pos hq]
    rw [e1]
    have ew : wrap64 (gn + r.delta) = gn + r.delta := by have := fit_of hq; unfold wrap64; omega
    have ew2 : IntKind.i64.wrap (gn + r.delta) = gn + r.delta := by have := fit_of hq; rw [IntKind.wrap_i64]; omega
    go_upto_region 4 with fail
    have PB4 := hide (PB2.out.below (D9.out.drew))
    obtain ⟨w5, hrun, hA, hg⟩ := any_upd lawK Tryz.underlying93 PB4.out.mp (bkV_up PB4.out.up) (keyI i1) (by rw [bkV_len]; have := PB4.out.few; omega) (hdV (addH L r))
    rw [HH.out] at hrun
    have hk := keepM hg
    have K5 := hide (show Keep (fun z => z = m) w2 w5 from (Keep.of_below (S := fun z => z = m) D9.out.drew).trans hk (fun _ _ q => q))
    have HR := hide hrun
    have HA5 := hide hA
    clear hrun hA hg hk
    refine wp_region_held_drew (S := fun wq => Keep (fun z => z = m) w2 wq) (by kernel_rfl) (Keep.of_below D9.out.drew) (fun hS => ?_)
    refine take_at 0 (some 19) (v := ?_) rfl rfl (by kernel_rfl) (by kernel_rfl) (by kernel_rfl) (fun _ _ _ h => h) ⟨by rfl, ?_⟩ hS ?_
    rotate_left
    · intro wq hSw; go_simp; try rfl
    simp only [Act.put, List.setIfInBounds_toArray, List.set_cons_zero, List.set_cons_succ]
    refine take_at 1 (some 20) (v := ?_) rfl rfl (by kernel_rfl) (by kernel_rfl) (by kernel_rfl) (fun _ _ _ h => h) ⟨by rfl, ?_⟩ hS ?_
    rotate_left
    · intro wq hSw; go_simp; try rfl
    simp only [Act.put, List.setIfInBounds_toArray, List.set_cons_zero, List.set_cons_succ]
    refine take_at 2 (some 21) (v := ?_) rfl rfl (by kernel_rfl) (by kernel_rfl) (by kernel_rfl) (fun _ _ _ h => h) ⟨by rfl, ?_⟩ hS ?_
    rotate_left
    · intro wq hSw; go_simp; try rfl
    simp only [Act.put, List.setIfInBounds_toArray, List.set_cons_zero, List.set_cons_succ]
    refine take_at 3 (some 22) (v := ?_) rfl rfl (by kernel_rfl) (by kernel_rfl) (by kernel_rfl) (fun _ _ _ h => h) ⟨by rfl, ?_⟩ hS ?_
    rotate_left
    · intro wq hSw; have q0 := ((PB2.out.box.keep hSw hne).get 0 _ rfl).1; go_simp; try rfl
    simp only [Act.put, List.setIfInBounds_toArray, List.set_cons_zero, List.set_cons_succ]
    refine take_at 4 (some 23) (v := ?_) rfl rfl (by kernel_rfl) (by kernel_rfl) (by kernel_rfl) (fun _ _ _ h => h) ⟨by rfl, ?_⟩ hS ?_
    rotate_left
    · intro wq hSw; go_simp; try rfl
    simp only [Act.put, List.setIfInBounds_toArray, List.set_cons_zero, List.set_cons_succ]
    refine take_at 5 (some 24) (v := ?_) rfl rfl (by kernel_rfl) (by kernel_rfl) (by kernel_rfl) (fun _ _ _ h => h) ⟨by rfl, ?_⟩ hS ?_
    rotate_left
    · intro wq hSw; go_simp; try rfl
    simp only [Act.put, List.setIfInBounds_toArray, List.set_cons_zero, List.set_cons_succ]
    refine take_at 6 (some 25) (v := ?_) rfl rfl (by kernel_rfl) (by kernel_rfl) (by kernel_rfl) (fun _ _ _ h => h) ⟨by rfl, ?_⟩ hS ?_
    rotate_left
    · intro wq hSw; have qc9 := hr.cell (RB2.out.keep hSw (by have := BX.out; intro e; omega)) hr.c9; go_simp; try rfl
    simp only [Act.put, List.setIfInBounds_toArray, List.set_cons_zero, List.set_cons_succ]
    refine take_at 7 (some 26) (v := ?_) rfl rfl (by kernel_rfl) (by kernel_rfl) (by kernel_rfl) (fun _ _ _ h => h) ⟨by rfl, ?_⟩ hS ?_
    rotate_left
    · intro wq hSw; go_simp; try rfl
    simp only [Act.put, List.setIfInBounds_toArray, List.set_cons_zero, List.set_cons_succ]
    refine take_at 8 (some 27) (v := ?_) rfl rfl (by kernel_rfl) (by kernel_rfl) (by kernel_rfl) (fun _ _ _ h => h) ⟨by rfl, ?_⟩ hS ?_
    rotate_left
    · intro wq hSw; go_simp; try rfl
    simp only [Act.put, List.setIfInBounds_toArray, List.set_cons_zero, List.set_cons_succ]
    refine take_at 9 (some 28) (v := ?_) rfl rfl (by kernel_rfl) (by kernel_rfl) (by kernel_rfl) (fun _ _ _ h => h) ⟨by rfl, ?_⟩ hS ?_
    rotate_left
    · intro wq hSw; have qc8 := hr.cell (RB2.out.keep hSw (by have := BX.out; intro e; omega)) hr.c8; go_simp; try rfl
    simp only [Act.put, List.setIfInBounds_toArray, List.set_cons_zero, List.set_cons_succ]
    refine take_at 10 (some 29) (v := ?_) rfl rfl (by kernel_rfl) (by kernel_rfl) (by kernel_rfl) (fun _ _ _ h => h) ⟨by rfl, ?_⟩ hS ?_
    rotate_left
    · intro wq hSw; go_simp; try rfl
    simp only [Act.put, List.setIfInBounds_toArray, List.set_cons_zero, List.set_cons_succ]
    refine take_at 11 (some 30) (v := ?_) rfl rfl (by kernel_rfl) (by kernel_rfl) (by kernel_rfl) (fun _ _ _ h => h) ⟨by rfl, ?_⟩ hS ?_
    rotate_left
    · intro wq hSw; go_simp; try rfl
    simp only [Act.put, List.setIfInBounds_toArray, List.set_cons_zero, List.set_cons_succ]
    refine take_at 12 (some 31) (v := ?_) rfl rfl (by kernel_rfl) (by kernel_rfl) (by kernel_rfl) (fun _ _ _ h => h) ⟨by rfl, ?_⟩ hS ?_
    rotate_left
    · intro wq hSw; have qc4 := hr.cell (RB2.out.keep hSw (by have := BX.out; intro e; omega)) hr.c4; have qc5 := hr.cell (RB2.out.keep hSw (by have := BX.out; intro e; omega)) hr.c5; go_simp; try rfl
    simp only [Act.put, List.setIfInBounds_toArray, List.set_cons_zero, List.set_cons_succ]
    refine take_at 13 (some 32) (v := ?_) rfl rfl (by kernel_rfl) (by kernel_rfl) (by kernel_rfl) (fun _ _ _ h => h) ⟨by rfl, ?_⟩ hS ?_
    rotate_left
    · intro wq hSw; go_simp; try rfl
    simp only [Act.put, List.setIfInBounds_toArray, List.set_cons_zero, List.set_cons_succ]
    refine take_at 14 (some 33) (v := ?_) rfl rfl (by kernel_rfl) (by kernel_rfl) (by kernel_rfl) (fun _ _ _ h => h) ⟨by rfl, ?_⟩ hS ?_
    rotate_left
    · intro wq hSw; have qc6 := hr.cell (RB2.out.keep hSw (by have := BX.out; intro e; omega)) hr.c6; have qc7 := hr.cell (RB2.out.keep hSw (by have := BX.out; intro e; omega)) hr.c7; go_simp; try rfl
    simp only [Act.put, List.setIfInBounds_toArray, List.set_cons_zero, List.set_cons_succ]
    refine take_at 15 (some 34) (v := ?_) rfl rfl (by kernel_rfl) (by kernel_rfl) (by kernel_rfl) (fun _ _ _ h => h) ⟨by rfl, ?_⟩ hS ?_
    rotate_left
    · intro wq hSw; go_simp; try rfl
    simp only [Act.put, List.setIfInBounds_toArray, List.set_cons_zero, List.set_cons_succ]
    refine wpAnyH_ready (rs := [16]) (by kernel_rfl) (by simp) ?_
    refine AllReadyH.cons rfl (fun K hK => ?_) AllReadyH.nil
    refine wp_upd (.tmp 22) (.tmp 25) (.tmp 34) rfl rfl rfl rfl rfl HR.out ?_
    refine hK.out _ _ K5.out (fun hS => ?_)
    clear hK K
    (try simp only [Act.put, List.setIfInBounds_toArray, List.set_cons_zero, List.set_cons_succ])
    refine wpAnyH_done (by kernel_rfl) ?_ _
    go_wp2_with fail
    go_ret
    exact ⟨rfl, FIN.out w5 K5.out HA5.out e0, (Keep.of_below (S := fun z => z = m) K2.out).trans K5.out (fun _ _ q => q)⟩
  · have e1 : (!fitB (gn + r.delta)) = true := by rw [Bool.not_eq_true] at hq; rw [hq]; rfl
    have e0 : E = 10 := by rw [HE.out, if_neg hq]
    rw [e1]
    go_wp2_with fail
    go_ret
    exact ⟨rfl, PB2.out.below D9.out, (Keep.of_below K2.out).trans (Keep.of_below (S := fun _ => False) D9.out) (fun _ _ q => q.elim)⟩
end Go.Proofs.YtehbpmibllpkhaaGreatDoor
