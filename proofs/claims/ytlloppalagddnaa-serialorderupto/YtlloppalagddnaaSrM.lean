import Derived.Test.YtlloppalagddnaaMapE
import Derived.Test.YtlloppalagddnaaLists
namespace Go.QS
open Go.QM Quota

/-! THE PLAIN MODEL of package serial. -/
/-- What Of looks at. -/
structure Ro where
  kind : Int
  tx : Int
  delta : Int
  id : Int
/-- Of each transaction what it holds: rising by the counter. -/
abbrev St := Int → Prs Int
def setS (S : St) (t : Int) (L : Prs Int) : St := fun x => if x = t then L else S x
def netOf (S : St) (t c : Int) : Int := (getM (S t) c).getD 0
def isTx (t : Int) : Bool := decide (1 ≤ t) && decide (t ≤ 2147483647)
def isId (c : Int) : Bool := decide (1 ≤ c) && decide (c ≤ 1048576)
/-- The numbers of a record that is not passed over. -/
def chkR (r : Ro) : Int := if r.kind = 3 ∨ r.kind = 4 ∨ r.kind = 5 then (if isTx r.tx = true then (if r.kind = 5 ∨ isId r.id = true then 0 else 4) else 130) else 0
def stepE (S : St) (r : Ro) : Int := if chkR r = 0 then (if r.kind = 3 ∧ fitB (netOf S r.tx r.id + r.delta) = false then 10 else 0) else chkR r
def stepS (S : St) (r : Ro) : St :=
  if r.kind = 3 then setS S r.tx (putM r.id (netOf S r.tx r.id + r.delta) (S r.tx))
  else if r.kind = 4 then setS S r.tx (delM (S r.tx) r.id)
  else if r.kind = 5 then setS S r.tx []
  else S
abbrev Rn := Int × Prs Int
def stepR (S : St) (r : Ro) : List Rn := if r.kind = 5 then [(r.tx, S r.tx)] else []
def ofE : St → List Ro → Int
  | _, [] => 0
  | S, r :: rs => if stepE S r = 0 then ofE (stepS S r) rs else stepE S r
def ofR : St → List Ro → List Rn
  | _, [] => []
  | S, r :: rs => if stepE S r = 0 then stepR S r ++ ofR (stepS S r) rs else []
def ofS : St → List Ro → St
  | S, [] => S
  | S, r :: rs => ofS (stepS S r) rs
def st0 : St := fun _ => []
structure StOk (S : St) : Prop where
  up : ∀ t, Up (S t)
  fit : ∀ t, ∀ p ∈ S t, I64 p.2
  ids : ∀ t, ∀ p ∈ S t, 1 ≤ p.1 ∧ p.1 ≤ 1048576
theorem StOk.nil : StOk st0 := by
  refine ⟨fun t => List.Pairwise.nil, fun t p hp => ?_, fun t p hp => ?_⟩ <;> cases hp
theorem setS_at (S : St) (t : Int) (L : Prs Int) : setS S t L t = L := if_pos rfl
theorem setS_no {S : St} {t : Int} {L : Prs Int} {x : Int} (h : x ≠ t) : setS S t L x = S x := if_neg h
theorem StOk.set {S : St} (h : StOk S) {t : Int} {L : Prs Int} (h1 : Up L) (h2 : ∀ p ∈ L, I64 p.2) (h3 : ∀ p ∈ L, 1 ≤ p.1 ∧ p.1 ≤ 1048576) : StOk (setS S t L) := by
  refine ⟨fun x => ?_, fun x => ?_, fun x => ?_⟩ <;> unfold setS <;> split
  · exact h1
  · exact h.up x
  · exact h2
  · exact h.fit x
  · exact h3
  · exact h.ids x
theorem getM_del {α : Type} (L : Prs α) (k j : Int) : getM (delM L k) j = if j = k then none else getM L j := by
  induction L with
  | nil => unfold delM; simp [getM]
  | cons p r ih =>
    by_cases q : p.1 = k
    · have e : delM (p :: r) k = delM r k := by unfold delM; simp [q]
      rw [e, ih, getM_cons]
      by_cases q2 : j = k
      · rw [if_pos q2, if_pos q2]
      · rw [if_neg q2, if_neg q2, if_neg]
        intro e; exact q2 (e.symm.trans q)
    · have e : delM (p :: r) k = p :: delM r k := by unfold delM; simp [q]
      rw [e, getM_cons, getM_cons, ih]
      by_cases q2 : j = k
      · rw [if_pos q2, if_pos q2, if_neg]
        intro e; exact q (e.trans q2)
      · rw [if_neg q2, if_neg q2]
theorem netOf_fit {S : St} (h : StOk S) (t c : Int) : I64 (netOf S t c) := by
  unfold netOf
  cases q : getM (S t) c with
  | none => simp [I64]
  | some v => exact h.fit t _ (getM_mem q)
theorem StOk.step {S : St} (h : StOk S) {r : Ro} (he : stepE S r = 0) : StOk (stepS S r) := by
  unfold stepE at he
  split at he
  · rename_i hc
    unfold stepS
    split
    · rename_i h3
      have hi : isId r.id = true := by
        unfold chkR at hc
        rw [if_pos (.inl h3)] at hc
        split at hc
        · split at hc
          · rename_i q
            rcases q with q | q
            · omega
            · exact q
          · cases hc
        · cases hc
      have hf : fitB (netOf S r.tx r.id + r.delta) = true := by
        split at he
        · cases he
        · rename_i q
          cases z : fitB (netOf S r.tx r.id + r.delta)
          · exact absurd ⟨h3, z⟩ q
          · rfl
      refine h.set ((h.up _).put _ _) (fun p hp => ?_) (fun p hp => ?_)
      · rcases mem_putM hp with rfl | q
        · exact fitB_true.1 hf
        · exact h.fit _ _ q
      · rcases mem_putM hp with rfl | q
        · simpa [isId] using hi
        · exact h.ids _ _ q
    · split
      · refine h.set ((h.up _).del _) (fun p hp => h.fit _ _ (List.mem_filter.1 hp).1) (fun p hp => h.ids _ _ (List.mem_filter.1 hp).1)
      · split
        · exact h.set List.Pairwise.nil (fun p hp => by cases hp) (fun p hp => by cases hp)
        · exact h
  · rename_i hc
    exact absurd he hc
/-! A front. -/
theorem ofE_app (S : St) (a b : List Ro) : ofE S (a ++ b) = if ofE S a = 0 then ofE (ofS S a) b else ofE S a := by
  induction a generalizing S with
  | nil => simp [ofE, ofS]
  | cons r rs ih =>
    simp only [List.cons_append, ofE, ofS]
    split
    · exact ih _
    · rfl
theorem ofR_app (S : St) (a b : List Ro) (h : ofE S a = 0) : ofR S (a ++ b) = ofR S a ++ ofR (ofS S a) b := by
  induction a generalizing S with
  | nil => simp [ofR, ofS]
  | cons r rs ih =>
    simp only [List.cons_append, ofE, ofS, ofR] at h ⊢
    split at h
    · rename_i q
      rw [if_pos q, if_pos q, ih _ h, List.append_assoc]
    · rename_i q
      exact absurd h q
theorem ofS_app (S : St) (a b : List Ro) : ofS S (a ++ b) = ofS (ofS S a) b := by
  induction a generalizing S with
  | nil => rfl
  | cons r rs ih => exact ih _
theorem ofE_take {S : St} {l : List Ro} (k : Nat) (hk : k < l.length) (h : ofE S (l.take k) = 0) : ofE S (l.take (k + 1)) = stepE (ofS S (l.take k)) l[k] := by
  rw [List.take_succ_eq_append_getElem hk, ofE_app, if_pos h]
  simp only [ofE]
  split
  · rename_i q; exact q.symm
  · rfl
theorem ofS_take {S : St} {l : List Ro} (k : Nat) (hk : k < l.length) : ofS S (l.take (k + 1)) = stepS (ofS S (l.take k)) l[k] := by
  rw [List.take_succ_eq_append_getElem hk, ofS_app]
  rfl
theorem ofR_take {S : St} {l : List Ro} (k : Nat) (hk : k < l.length) (h : ofE S (l.take k) = 0) (h2 : stepE (ofS S (l.take k)) l[k] = 0) : ofR S (l.take (k + 1)) = ofR S (l.take k) ++ stepR (ofS S (l.take k)) l[k] := by
  rw [List.take_succ_eq_append_getElem hk, ofR_app _ _ _ h]
  simp only [ofR, if_pos h2, List.append_nil]
theorem ofE_stop {S : St} {l : List Ro} (k : Nat) (h : ofE S (l.take k) ≠ 0) : ofE S l = ofE S (l.take k) := by
  have e : l = l.take k ++ l.drop k := (List.take_append_drop k l).symm
  conv => lhs; rw [e]
  rw [ofE_app, if_neg h]
theorem StOk.of {S : St} (h : StOk S) {l : List Ro} (he : ofE S l = 0) : StOk (ofS S l) := by
  induction l generalizing S with
  | nil => exact h
  | cons r rs ih =>
    simp only [ofE] at he
    split at he
    · rename_i q
      exact ih (h.step q) he
    · rename_i q
      exact absurd he q
theorem ofR_len (S : St) (l : List Ro) : (ofR S l).length ≤ l.length := by
  induction l generalizing S with
  | nil => exact Nat.le_refl _
  | cons r rs ih =>
    simp only [ofR]
    split
    · have := ih (stepS S r)
      rw [List.length_append, List.length_cons]
      unfold stepR
      split
      · simp; omega
      · simp; omega
    · simp
end Go.QS
