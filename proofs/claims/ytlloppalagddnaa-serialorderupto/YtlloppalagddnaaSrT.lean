import Derived.Test.YtlloppalagddnaaSrM
namespace Go.QS
open Go.QM Quota

/-! What is gathered at a Commit: counter by counter, as the list of counters has them. -/
def gS (L X : Prs Int) (c : Int) : Prs Int × Prs Int := match getM L c with
  | some d => (delM L c, X ++ [(c, d)])
  | none => (L, X)
def gF : List Int → Prs Int × Prs Int → Prs Int × Prs Int
  | [], s => s
  | c :: r, s => gF r (gS s.1 s.2 c)
theorem gF_app (a b : List Int) (s : Prs Int × Prs Int) : gF (a ++ b) s = gF b (gF a s) := by
  induction a generalizing s with
  | nil => rfl
  | cons c r ih => exact ih _
theorem gF_take {ids : List Int} (s : Prs Int × Prs Int) (k : Nat) (hk : k < ids.length) : gF (ids.take (k + 1)) s = gS (gF (ids.take k) s).1 (gF (ids.take k) s).2 ids[k] := by
  rw [List.take_succ_eq_append_getElem hk, gF_app]
  rfl
theorem del_perm {L : Prs Int} (h : Up L) {c d : Int} (hc : getM L c = some d) : ((c, d) :: delM L c).Perm L := by
  induction L with
  | nil => cases hc
  | cons p r ih =>
    rw [getM_cons] at hc
    by_cases q : p.1 = c
    · rw [if_pos q] at hc
      have e1 : delM (p :: r) c = r := by
        have := delM_none (L := r) (k := c) (fun x hx => by have := h.head x hx; omega)
        unfold delM at this ⊢
        simp [q, this]
      rw [e1, ← q, ← Option.some.inj hc]
    · rw [if_neg q] at hc
      have e1 : delM (p :: r) c = p :: delM r c := by
        unfold delM
        simp [q]
      rw [e1]
      exact (List.Perm.swap _ _ _).trans (List.Perm.cons p (ih h.tail hc))
structure Gt (L0 : Prs Int) (gone : List Int) (s : Prs Int × Prs Int) : Prop where
  up : Up s.1
  perm : (s.2 ++ s.1).Perm L0
  none : ∀ c ∈ gone, getM s.1 c = none
theorem Gt.start {L0 : Prs Int} (h : Up L0) : Gt L0 [] (L0, []) := ⟨h, List.Perm.refl _, fun c hc => by cases hc⟩
theorem Gt.step {L0 : Prs Int} {gone : List Int} {s : Prs Int × Prs Int} (h : Gt L0 gone s) (c : Int) : Gt L0 (gone ++ [c]) (gS s.1 s.2 c) := by
  unfold gS
  cases q : getM s.1 c with
  | none =>
    refine ⟨h.up, h.perm, fun x hx => ?_⟩
    rcases List.mem_append.1 hx with r | r
    · exact h.none x r
    · simp at r; rw [r]; exact q
  | some d =>
    refine ⟨h.up.del c, ?_, fun x hx => ?_⟩
    · refine List.Perm.trans ?_ h.perm
      rw [List.append_assoc]
      exact List.Perm.append_left _ (del_perm h.up q)
    · rw [getM_del]
      rcases List.mem_append.1 hx with r | r
      · split
        · rfl
        · exact h.none x r
      · simp at r; rw [if_pos r]
theorem Gt.fold {L0 : Prs Int} (ids : List Int) {gone : List Int} {s : Prs Int × Prs Int} (h : Gt L0 gone s) : Gt L0 (gone ++ ids) (gF ids s) := by
  induction ids generalizing gone s with
  | nil => simpa [gF] using h
  | cons c r ih =>
    have := ih (h.step c)
    rw [List.append_assoc] at this
    exact this
theorem Gt.done {L0 : Prs Int} {gone : List Int} {s : Prs Int × Prs Int} (h : Gt L0 gone s) (hc : ∀ p ∈ L0, p.1 ∈ gone) : s.1 = [] ∧ s.2.Perm L0 := by
  have e : s.1 = [] := by
    cases q : s.1 with
    | nil => rfl
    | cons p r =>
      have h1 : p ∈ s.1 := by rw [q]; exact List.mem_cons_self
      have h2 : p ∈ L0 := h.perm.mem_iff.1 (List.mem_append_right _ h1)
      have h3 := h.none p.1 (hc p h2)
      rw [getM_of_mem h.up h1] at h3
      cases h3
  refine ⟨e, ?_⟩
  have := h.perm
  rw [e, List.append_nil] at this
  exact this
theorem up_nodup {L : Prs Int} (h : Up L) : (L.map Prod.fst).Nodup := by
  unfold Up at h
  rw [List.nodup_iff_pairwise_ne, List.pairwise_map]
  exact h.imp (fun q => by omega)
theorem up_of_sorted {A L : Prs Int} (h : Up L) (hp : A.Perm L) (hs : A.Pairwise (fun p q => p.1 ≤ q.1)) : Up A := by
  have h1 : (A.map Prod.fst).Nodup := (hp.map Prod.fst).nodup_iff.2 (up_nodup h)
  rw [List.nodup_iff_pairwise_ne, List.pairwise_map] at h1
  unfold Up
  exact (hs.and h1).imp (fun q => by omega)
theorem up_perm {A L : Prs Int} (ha : Up A) (h : Up L) (hp : A.Perm L) : A = L := by
  unfold Up at ha h
  exact List.Perm.eq_of_pairwise (le := fun (p q : Int × Int) => p.1 < q.1) (fun a b _ _ q1 q2 => by omega) ha h hp
theorem up_len' {L : Prs Int} (h : Up L) {a b : Int} (hr : ∀ p ∈ L, a ≤ p.1 ∧ p.1 ≤ b) : L.length ≤ (b + 1 - a).toNat := by
  induction L generalizing a with
  | nil => simp
  | cons p r ih =>
    have h1 := hr p (by simp)
    have := ih h.tail (a := p.1 + 1) (fun q hq => ⟨by have := h.head q hq; omega, (hr q (by simp [hq])).2⟩)
    simp only [List.length_cons]
    omega
end Go.QS
