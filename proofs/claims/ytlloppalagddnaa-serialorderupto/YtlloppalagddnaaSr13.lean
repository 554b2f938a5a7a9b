import Derived.Test.YtlloppalagddnaaSr12
set_option linter.all false
namespace Go.Proofs.Ytlloppalagddnaa
open Go.RowKit Go.QK Quota Go.Maps Go.QM Go.QS
set_option maxRecDepth 100000
/-! Counters turned while a map is gone through. -/
theorem getM_mapK {α β : Type} (f : Int → α → β) (C : Prs α) (k : Int) : getM (C.map (fun p => (p.1, f p.1 p.2))) k = (getM C k).map (f k) := by
  induction C with
  | nil => rfl
  | cons p r ih =>
    rw [List.map_cons, getM_cons, getM_cons, ih]
    simp only
    split
    · rename_i q; rw [q]; rfl
    · rfl
theorem up_mapK {α β : Type} (f : Int → α → β) {C : Prs α} : Up (C.map (fun p => (p.1, f p.1 p.2))) ↔ Up C := by
  unfold Up
  rw [List.pairwise_map]
/-- The counters with what was added to each. -/
def addC (C : Cs) (f : Int → Int) : Cs := C.map (fun p => (p.1, p.2.set (p.2.val + f p.1)))
def CU (C : Cs) (D : Hd) (left : Lit → Bool) : Cs := C.map (fun p => (p.1, if (getM D p.1).isSome && !left (.int .i64 p.1) then p.2.set (p.2.val + isum (idsD D p.1)) else p.2))
theorem CU_get (C : Cs) (D : Hd) (left : Lit → Bool) (k : Int) : getM (CU C D left) k = (getM C k).map (fun x => if (getM D k).isSome && !left (.int .i64 k) then x.set (x.val + isum (idsD D k)) else x) :=
  getM_mapK (fun k (x : Cn) => if (getM D k).isSome && !left (.int .i64 k) then x.set (x.val + isum (idsD D k)) else x) C k
theorem CU_up {C : Cs} (h : Up C) (D : Hd) (left : Lit → Bool) : Up (CU C D left) := (up_mapK (fun k (x : Cn) => if (getM D k).isSome && !left (.int .i64 k) then x.set (x.val + isum (idsD D k)) else x)).2 h
theorem CU_len (C : Cs) (D : Hd) (left : Lit → Bool) : (CU C D left).length = C.length := by unfold CU; simp
theorem CU_start {C : Cs} (h : Up C) (D : Hd) : CU C D (Maps.has (mapE (H := Value) .held (mapD D))) = C := by
  refine up_ext (CU_up h D _) h (fun k => ?_)
  rw [CU_get, mapE_has, hasM_get]
  have : getM (mapD D) k = (getM D k).map Prod.fst := getM_map (fun (x : Value × List Int) => x.1) D k
  rw [this]
  cases getM C k with
  | none => rfl
  | some x => cases getM D k <;> simp
theorem CU_step {C : Cs} (h : Up C) (D : Hd) (left : Lit → Bool) {k : Int} {x : Cn} (hk : getM C k = some x) (hD : (getM D k).isSome = true) : putM k (x.set (x.val + isum (idsD D k))) (CU C D left) = CU C D (fun z => left z && !z.sameKey (.int .i64 k)) := by
  refine up_ext ((CU_up h D _).put _ _) (CU_up h D _) (fun j => ?_)
  rw [getM_put (CU_up h D _), CU_get, CU_get]
  by_cases e : j = k
  · subst e
    rw [if_pos rfl, hk]
    simp [hD, Lit.sameKey]
  · rw [if_neg e]
    have : (Lit.int .i64 j).sameKey (.int .i64 k) = false := by simp [Lit.sameKey, e]
    simp [this]
theorem CU_end {C : Cs} (h : Up C) (D : Hd) (left : Lit → Bool) (hl : ∀ z, left z = false) : CU C D left = addC C (fun k => isum (idsD D k)) := by
  unfold CU addC
  refine List.map_congr_left (fun p _ => ?_)
  rw [hl]
  cases q : getM D p.1 with
  | none =>
    have : idsD D p.1 = [] := by unfold idsD; rw [q]; rfl
    simp [this, isum, Cn.set]
  | some u => simp
/-- Is what a counter comes to within its bounds? -/
def inC (f : Int → Int) (p : Int × Cn) : Bool := decide (p.2.lo ≤ p.2.val + f p.1) && decide (p.2.val + f p.1 ≤ p.2.hi)
def plyE (C : Cs) (l : List Hn) : Int := if thereB C l then (if C.all (inC (fun k => isum (dl l k))) then 0 else 110) else 120
def plyC (C : Cs) (l : List Hn) : Cs := addC C (fun k => isum (dl l k))
theorem CsOk.add {C : Cs} (h : CsOk C) {f : Int → Int} (hf : C.all (inC f) = true) : CsOk (addC C f) := by
  have h1 : ∀ p ∈ C, p.2.lo ≤ p.2.val + f p.1 ∧ p.2.val + f p.1 ≤ p.2.hi := fun p hp => by
    have := List.all_eq_true.1 hf p hp
    simpa [inC] using this
  refine ⟨(up_mapK (fun k (x : Cn) => x.set (x.val + f k))).2 h.up, fun p hp => ?_, fun p hp => ?_, fun p hp => ?_⟩
  all_goals
    obtain ⟨q, hq, rfl⟩ := List.mem_map.1 hp
  · exact h.ids q hq
  · have h2 := h1 q hq
    obtain ⟨o1, o2, o3, o4, o5⟩ := h.ok q hq
    refine ⟨o1, o2, o3, ?_, o5⟩
    unfold I64 at *
    simp only [Cn.set]
    omega
  · exact h1 q hq
theorem RM.made' (B : Nat) (w : World) (hB : B ≤ w.heap.size) : RM (fun _ => 1) B (w.alloc (.map #[] 0)) w.heap.size [] := ⟨AnyAt.made Try.prog 3 w, (fun p hp => by cases hp), List.Pairwise.nil, (fun p hp => by cases hp), rfl, (fun p hp => by cases hp), hB⟩
theorem CsOk.len {C : Cs} (h : CsOk C) : C.length ≤ 1048576 := by
  have := up_len h.up (a := 1) (b := 1048576) (fun p hp => (h.ids p hp).2)
  omega
theorem isum_inV {v s lo hi : Int} (h1 : I64 lo) (h2 : I64 hi) (h : lo ≤ v + s ∧ v + s ≤ hi) : fitB (s + v) = true := by
  refine fitB_true.2 ?_
  unfold I64 at *
  omega
end Go.Proofs.Ytlloppalagddnaa
