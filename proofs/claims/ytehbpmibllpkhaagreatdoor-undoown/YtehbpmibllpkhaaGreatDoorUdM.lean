import Derived.Test.YtehbpmibllpkhaaGreatDoorMapE
namespace Go.QU
open Go.QM

/-! THE PLAIN MODEL of package undo's Left. -/
/-- What is held of a counter. -/
structure Hd where
  n : Int
  wp : Int
  wi : Int
  sp : Int
  si : Int
/-- What Left looks at. -/
structure UR where
  kind : Int
  tx : Int
  wp : Int
  wi : Int
  sp : Int
  si : Int
  delta : Int
  id : Int
def fitB (z : Int) : Bool := decide (-9223372036854775808 ≤ z) && decide (z ≤ 9223372036854775807)
def netL (L : Prs Hd) (id : Int) : Int := match getM L id with
  | some h => h.n
  | none => 0
def sameHd (h : Hd) (r : UR) : Bool := decide (h.n = r.delta) && (decide (h.wp = r.wp) && decide (h.wi = r.wi)) && (decide (h.sp = r.sp) && decide (h.si = r.si))
def undE (L : Prs Hd) (r : UR) : Nat := match getM L r.id with
  | some h => if sameHd h r = true then 0 else 60
  | none => 120
def addE (L : Prs Hd) (r : UR) : Nat := if fitB (netL L r.id + r.delta) = true then 0 else 10
def addH (L : Prs Hd) (r : UR) : Hd := ⟨netL L r.id + r.delta, r.wp, r.wi, r.sp, r.si⟩
def stepE (L : Prs Hd) (r : UR) : Nat := if r.kind = 3 then addE L r else if r.kind = 4 then undE L r else 0
def stepL (L : Prs Hd) (r : UR) : Prs Hd := if r.kind = 3 then putM r.id (addH L r) L else if r.kind = 4 then delM L r.id else if r.kind = 5 then [] else L
def goE (tx : Int) : Prs Hd → List UR → Nat
  | _, [] => 0
  | L, r :: rs => if r.tx = tx then (if stepE L r = 0 then goE tx (stepL L r) rs else stepE L r) else goE tx L rs
def goL (tx : Int) : Prs Hd → List UR → Prs Hd
  | L, [] => L
  | L, r :: rs => if r.tx = tx then (if stepE L r = 0 then goL tx (stepL L r) rs else []) else goL tx L rs
def isTx (tx : Int) : Bool := decide (1 ≤ tx) && decide (tx ≤ 2147483647)
def leftE (tx : Int) (rs : List UR) : Nat := if isTx tx = true then goE tx [] rs else 130
def leftL (tx : Int) (rs : List UR) : Prs Hd := if isTx tx = true then goL tx [] rs else []
def Fits (L : Prs Hd) : Prop := ∀ p ∈ L, fitB p.2.n = true
theorem fit_of {z : Int} (h : fitB z = true) : -9223372036854775808 ≤ z ∧ z ≤ 9223372036854775807 := by unfold fitB at h; simpa using h
theorem Up.nil {α : Type} : Up ([] : Prs α) := List.Pairwise.nil
theorem step_up {L : Prs Hd} (h : Up L) (r : UR) : Up (stepL L r) := by
  unfold stepL
  split
  · exact h.put _ _
  · split
    · exact h.del _
    · split
      · exact Up.nil
      · exact h
theorem del_fits {L : Prs Hd} (h : Fits L) (k : Int) : Fits (delM L k) := fun p hp => h p (List.mem_filter.1 hp).1
theorem step_fits {L : Prs Hd} (h : Fits L) (r : UR) (he : stepE L r = 0) : Fits (stepL L r) := by
  unfold stepL
  unfold stepE at he
  by_cases h3 : r.kind = 3
  · rw [if_pos h3] at he ⊢
    intro p hp
    rcases mem_putM hp with rfl | hp
    · unfold addE at he
      unfold addH
      by_cases q : fitB (netL L r.id + r.delta) = true
      · exact q
      · rw [if_neg q] at he; cases he
    · exact h p hp
  · rw [if_neg h3]
    by_cases h4 : r.kind = 4
    · rw [if_pos h4]; exact del_fits h _
    · rw [if_neg h4]
      split
      · intro p hp; cases hp
      · exact h
theorem len_del {α : Type} (L : Prs α) (k : Int) : (delM L k).length ≤ L.length := List.length_filter_le _ _
theorem step_len (L : Prs Hd) (r : UR) : (stepL L r).length ≤ L.length + 1 := by
  unfold stepL
  split
  · exact length_putM _ _ _
  · split
    · have := len_del L r.id; omega
    · split
      · simp
      · omega
theorem net_fits {L : Prs Hd} (h : Fits L) (k : Int) : -9223372036854775808 ≤ netL L k ∧ netL L k ≤ 9223372036854775807 := by
  unfold netL
  split
  · rename_i x hx
    exact fit_of (h _ (getM_mem hx))
  · omega
theorem goE_go {tx : Int} {L : Prs Hd} {r : UR} {rs : List UR} (h : r.tx = tx) (he : stepE L r = 0) : goE tx L (r :: rs) = goE tx (stepL L r) rs := by simp only [goE, if_pos h, if_pos he]
theorem goL_go {tx : Int} {L : Prs Hd} {r : UR} {rs : List UR} (h : r.tx = tx) (he : stepE L r = 0) : goL tx L (r :: rs) = goL tx (stepL L r) rs := by simp only [goL, if_pos h, if_pos he]
theorem goE_no {tx : Int} {L : Prs Hd} {r : UR} {rs : List UR} (h : r.tx = tx) (he : stepE L r ≠ 0) : goE tx L (r :: rs) = stepE L r := by simp only [goE, if_pos h, if_neg he]
theorem goE_skip {tx : Int} {L : Prs Hd} {r : UR} {rs : List UR} (h : r.tx ≠ tx) : goE tx L (r :: rs) = goE tx L rs := by simp only [goE, if_neg h]
theorem goL_skip {tx : Int} {L : Prs Hd} {r : UR} {rs : List UR} (h : r.tx ≠ tx) : goL tx L (r :: rs) = goL tx L rs := by simp only [goL, if_neg h]
/-! The document's list: in the order in which the counters came. -/
structure Sim (D L : Prs Hd) : Prop where
  nd : (D.map (·.1)).Nodup
  eq : ∀ k, getM D k = getM L k
theorem Sim.nil : Sim [] [] := ⟨List.nodup_nil, fun _ => rfl⟩
theorem getM_app {α : Type} (D E : Prs α) (k : Int) : getM (D ++ E) k = match getM D k with
    | some v => some v
    | none => getM E k := by
  induction D with
  | nil => rfl
  | cons p r ih =>
    rw [List.cons_append, getM_cons, getM_cons, ih]
    split <;> rfl
theorem none_of {α : Type} {D : Prs α} {k : Int} (h : getM D k = none) : ∀ q ∈ D, q.1 ≠ k := by
  intro q hq e
  induction D with
  | nil => cases hq
  | cons p r ih =>
    rw [getM_cons] at h
    by_cases hp : p.1 = k
    · rw [if_pos hp] at h; cases h
    · rw [if_neg hp] at h
      rcases List.mem_cons.1 hq with rfl | hq
      · exact hp e
      · exact ih h hq
theorem getM_nd {α : Type} {D : Prs α} (h : (D.map (·.1)).Nodup) {i : Nat} (hi : i < D.length) : getM D D[i].1 = some D[i].2 := by
  induction D generalizing i with
  | nil => cases hi
  | cons p r ih =>
    rw [List.map_cons, List.nodup_cons] at h
    rw [getM_cons]
    cases i with
    | zero => simp
    | succ i =>
      have hne : p.1 ≠ ((p :: r)[i + 1]'hi).1 := by
        intro e
        apply h.1
        rw [e]
        exact List.mem_map.2 ⟨_, List.getElem_mem (by simpa using hi), rfl⟩
      rw [if_neg hne]
      exact ih h.2 (by simpa using hi)
theorem getM_set {α : Type} {D : Prs α} (h : (D.map (·.1)).Nodup) {i : Nat} (hi : i < D.length) (v : α) (k : Int) : getM (D.set i (D[i].1, v)) k = if k = D[i].1 then some v else getM D k := by
  induction D generalizing i with
  | nil => cases hi
  | cons p r ih =>
    rw [List.map_cons, List.nodup_cons] at h
    cases i with
    | zero =>
      simp only [List.set_cons_zero, List.getElem_cons_zero]
      rw [getM_cons, getM_cons]
      by_cases q : p.1 = k
      · simp [q]
      · rw [if_neg q, if_neg q, if_neg (fun e => q e.symm)]
    | succ i =>
      have hi' : i < r.length := by simpa using hi
      simp only [List.set_cons_succ, List.getElem_cons_succ]
      rw [getM_cons, getM_cons, ih h.2 hi']
      by_cases q : p.1 = k
      · rw [if_pos q, if_pos q]
        rw [if_neg]
        intro e
        apply h.1
        rw [q, e]
        exact List.mem_map.2 ⟨_, List.getElem_mem hi', rfl⟩
      · rw [if_neg q, if_neg q]
theorem map_set {α : Type} {D : Prs α} {i : Nat} (hi : i < D.length) (v : α) : (D.set i (D[i].1, v)).map (·.1) = D.map (·.1) := by
  induction D generalizing i with
  | nil => cases hi
  | cons p r ih =>
    cases i with
    | zero => rfl
    | succ i =>
      simp only [List.set_cons_succ, List.getElem_cons_succ, List.map_cons]
      rw [ih (by simpa using hi)]
def cutAt {α : Type} (D : List α) (i : Nat) : List α := D.take i ++ D.drop (i + 1)
theorem getM_cut {α : Type} {D : Prs α} (h : (D.map (·.1)).Nodup) {i : Nat} (hi : i < D.length) (k : Int) : getM (cutAt D i) k = if k = D[i].1 then none else getM D k := by
  unfold cutAt
  induction D generalizing i with
  | nil => cases hi
  | cons p r ih =>
    rw [List.map_cons, List.nodup_cons] at h
    cases i with
    | zero =>
      simp only [List.take_zero, List.nil_append, Nat.zero_add, List.drop_succ_cons, List.drop_zero, List.getElem_cons_zero]
      rw [getM_cons]
      by_cases q : k = p.1
      · rw [if_pos q]
        refine getM_none (fun x hx e => h.1 ?_)
        rw [← q, ← e]
        exact List.mem_map.2 ⟨_, hx, rfl⟩
      · rw [if_neg q, if_neg (fun e => q e.symm)]
    | succ i =>
      have hi' : i < r.length := by simpa using hi
      simp only [List.take_succ_cons, List.cons_append, List.drop_succ_cons, List.getElem_cons_succ]
      rw [getM_cons, getM_cons, ih h.2 hi']
      by_cases q : p.1 = k
      · rw [if_pos q, if_pos q, if_neg]
        intro e
        apply h.1
        rw [q, e]
        exact List.mem_map.2 ⟨_, List.getElem_mem hi', rfl⟩
      · rw [if_neg q, if_neg q]
theorem cut_nd {α : Type} {D : Prs α} (h : (D.map (·.1)).Nodup) (i : Nat) : ((cutAt D i).map (·.1)).Nodup := by
  have e : (cutAt D i).map (·.1) = (D.map (·.1)).eraseIdx i := by
    unfold cutAt
    rw [List.eraseIdx_eq_take_drop_succ, List.map_append, List.map_take, List.map_drop]
  rw [e]
  exact h.sublist (List.eraseIdx_sublist _ _)
theorem getM_del {α : Type} (L : Prs α) (k j : Int) : getM (delM L k) j = if j = k then none else getM L j := by
  induction L with
  | nil => unfold delM; simp [getM]
  | cons p r ih =>
    by_cases q : p.1 = k
    · have e : delM (p :: r) k = delM r k := by unfold delM; simp [q]
      rw [e, ih, getM_cons]
      by_cases q2 : j = k
      · rw [if_pos q2, if_pos q2]
      · rw [if_neg q2, if_neg q2, if_neg]
        intro e; exact q2 (e.symm.trans q)
    · have e : delM (p :: r) k = p :: delM r k := by unfold delM; simp [q]
      rw [e, getM_cons, getM_cons, ih]
      by_cases q2 : j = k
      · rw [if_pos q2, if_pos q2, if_neg]
        intro e; exact q (e.trans q2)
      · rw [if_neg q2, if_neg q2]
theorem Sim.push {D L : Prs Hd} (h : Sim D L) (hu : Up L) (k : Int) (v : Hd) (hn : getM D k = none) : Sim (D ++ [(k, v)]) (putM k v L) := by
  refine ⟨?_, fun j => ?_⟩
  · rw [List.map_append, List.nodup_append]
    refine ⟨h.nd, by simp, ?_⟩
    intro a ha b hb e
    simp at hb
    obtain ⟨q, hq, rfl⟩ := List.mem_map.1 ha
    exact none_of hn q hq (by rw [e, hb])
  · rw [getM_put hu, getM_app]
    by_cases q : j = k
    · subst q
      rw [hn, if_pos rfl]
      simp [getM]
    · rw [if_neg q, h.eq j]
      cases hg : getM L j with
      | some x => rfl
      | none => simp only [getM_cons]; rw [if_neg (fun e => q e.symm)]; rfl
theorem Sim.change {D L : Prs Hd} (h : Sim D L) (hu : Up L) {i : Nat} (hi : i < D.length) (v : Hd) : Sim (D.set i (D[i].1, v)) (putM D[i].1 v L) := by
  refine ⟨by rw [map_set hi]; exact h.nd, fun j => ?_⟩
  rw [getM_put hu, getM_set h.nd hi, h.eq j]
theorem Sim.cut {D L : Prs Hd} (h : Sim D L) {i : Nat} (hi : i < D.length) : Sim (cutAt D i) (delM L D[i].1) := by
  refine ⟨cut_nd h.nd i, fun j => ?_⟩
  rw [getM_cut h.nd hi, getM_del, h.eq j]
/-- The least of all goes first. -/
theorem Sim.least {D L : Prs Hd} (h : Sim D L) (hu : Up L) {i : Nat} (hi : i < D.length) (hm : ∀ j (hj : j < D.length), D[i].1 ≤ D[j].1) : ∃ L', L = D[i] :: L' ∧ Sim (cutAt D i) L' ∧ Up L' := by
  have h1 := getM_nd h.nd hi
  rw [h.eq] at h1
  have m1 := getM_mem h1
  cases L with
  | nil => cases m1
  | cons p r =>
    have h2 := getM_of_mem hu (p := p) (by simp)
    rw [← h.eq] at h2
    obtain ⟨j, hj, ej⟩ := List.getElem_of_mem (getM_mem h2)
    have h3 := hm j hj
    rw [ej] at h3
    simp only at h3
    have e : p = (D[i].1, D[i].2) := by
      rcases List.mem_cons.1 m1 with q | q
      · exact q.symm
      · have := hu.head _ q
        simp only at this
        omega
    refine ⟨r, by rw [e], ⟨cut_nd h.nd i, fun k => ?_⟩, hu.tail⟩
    rw [getM_cut h.nd hi, h.eq k, getM_cons, e]
    by_cases q : k = D[i].1
    · rw [if_pos q]
      refine (getM_none (fun x hx => ?_)).symm
      have := hu.head _ hx
      rw [e] at this
      simp only at this
      omega
    · rw [if_neg q, if_neg (fun x => q x.symm)]
theorem Sim.done {L : Prs Hd} (h : Sim [] L) (hu : Up L) : L = [] := by
  cases L with
  | nil => rfl
  | cons p r =>
    have h2 := getM_of_mem hu (p := p) (by simp)
    rw [← h.eq] at h2
    cases h2
/-- Where a counter stands. -/
theorem at_none {D : Prs Hd} {k : Int} (h : ∀ i (hi : i < D.length), D[i].1 ≠ k) : getM D k = none := getM_none (fun q hq => by
  obtain ⟨i, hi, e⟩ := List.getElem_of_mem hq
  rw [← e]
  exact h i hi)
end Go.QU
