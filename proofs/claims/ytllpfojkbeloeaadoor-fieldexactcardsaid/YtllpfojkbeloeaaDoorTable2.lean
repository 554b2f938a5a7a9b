import Derived.Test.YtllpfojkbeloeaaDoorTable
namespace Go.Proofs.YtllpfojkbeloeaaDoor
open Go.RowKit Go.QK

def upd (sd : Nat → Side) (i : Nat) (f : Side → Side) : Nat → Side := fun j => if j = i then f (sd j) else sd j
theorem upd_same (sd : Nat → Side) (i : Nat) (f : Side → Side) : upd sd i f i = f (sd i) := by simp [upd]
theorem upd_other (sd : Nat → Side) (i j : Nat) (f : Side → Side) (h : j ≠ i) : upd sd i f j = sd j := by simp [upd, h]

section
variable {w w' : World} {lab lab' : Nat → Nat} {B t : Nat} {sd : Nat → Side} {vL vM : Value} {Ls Ms : List Value}

/-- One side has turned: what the acting label's object is now, the rest as it was. -/
theorem Tb.turn {Y : Nat → Prop} (q : TbX (fun l => False ∨ Y l) w' lab' B t sd vL vM Ls Ms) (i : Nat) (f : Side → Side)
    (htb : Cells w' t (tcs (upd sd i f) vL vM))
    (hw : ∀ j, j < 2 → ¬ Y (10 * j + 1) → (upd sd i f j).p = (sd j).p ∧ (upd sd i f j).v = (sd j).v ∧ (upd sd i f j).l = (sd j).l)
    (hw' : ∀ j, j < 2 → Y (10 * j + 1) → Wr w' B (upd sd i f j).p (upd sd i f j).v (upd sd i f j).l ∧ ∀ b, wS (upd sd i f j).p (upd sd i f j).v b → lab' b = 10 * j + 1)
    (hs : ∀ j, j < 2 → ¬ Y (10 * j + 2) → (upd sd i f j).s = (sd j).s ∧ (upd sd i f j).sl = (sd j).sl)
    (hs' : ∀ j, j < 2 → Y (10 * j + 2) → OwnB w' B (upd sd i f j).s (upd sd i f j).sl ∧ ∀ b, (upd sd i f j).s.ownBlock = some b → lab' b = 10 * j + 2)
    (hr : ∀ j, j < 2 → RdL w' lab' B (10 * j + 3) (upd sd i f j).r (upd sd i f j).ra (upd sd i f j).rc (upd sd i f j).x (upd sd i f j).pos (upd sd i f j).e)
    (hd : ∀ j, j < 2 → RdL w' lab' B (10 * j + 4) (upd sd i f j).d (upd sd i f j).da (upd sd i f j).dc (upd sd i f j).y (upd sd i f j).qos (upd sd i f j).f)
    (h5 : ¬ Y 5) (h6 : ¬ Y 6) (hE : ∀ k, ¬ Y (100 + k)) : Tb w' lab' B t (upd sd i f) vL vM Ls Ms := by
  refine ⟨q.base, q.tB, q.lt, q.tl, fun _ => htb, fun j hj _ => ?_, fun j hj _ => ?_, fun j hj _ => hr j hj, fun j hj _ => hd j hj, fun _ => q.rL (fun r => r.elim id h5), fun _ => q.rM (fun r => r.elim id h6), q.len, q.low, fun k h1 h2 _ => q.en k h1 h2 (fun r => r.elim id (hE k))⟩
  · by_cases hY : Y (10 * j + 1)
    · exact hw' j hj hY
    · obtain ⟨e1, e2, e3⟩ := hw j hj hY
      rw [e1, e2, e3]
      exact q.wr j hj (fun r => r.elim id hY)
  · by_cases hY : Y (10 * j + 2)
    · exact hs' j hj hY
    · obtain ⟨e1, e2⟩ := hs j hj hY
      rw [e1, e2]
      exact q.sa j hj (fun r => r.elim id hY)

theorem upd_fix (sd : Nat → Side) (i j : Nat) (f : Side → Side) {α : Type} (g : Side → α) (h : ∀ s, g (f s) = g s) : g (upd sd i f j) = g (sd j) := by
  unfold upd
  split
  · exact h _
  · rfl
theorem tcs_fix (sd : Nat → Side) (i : Nat) (f : Side → Side) (vL vM : Value) (h : ∀ s, (f s).p = s.p ∧ (f s).s = s.s ∧ (f s).r = s.r ∧ (f s).d = s.d) : tcs (upd sd i f) vL vM = tcs sd vL vM := by
  unfold tcs
  simp only [upd_fix sd i _ f (·.p) (fun s => (h s).1), upd_fix sd i _ f (·.s) (fun s => (h s).2.1), upd_fix sd i _ f (·.r) (fun s => (h s).2.2.1), upd_fix sd i _ f (·.d) (fun s => (h s).2.2.2)]

theorem cells_fix {w : World} {t : Nat} {sd : Nat → Side} {i : Nat} {f : Side → Side} {vL vM : Value} (h : ∀ s, (f s).p = s.p ∧ (f s).s = s.s ∧ (f s).r = s.r ∧ (f s).d = s.d) (q : Cells w t (tcs sd vL vM)) : Cells w t (tcs (upd sd i f) vL vM) := by
  rw [tcs_fix sd i f vL vM h]
  exact q
theorem nY {a b : Nat} (h : a ≠ b) : ¬ (False ∨ a = b) := fun r => r.elim id h

/-- The acting owner's label on new blocks. -/
def relab (w : World) (lab : Nat → Nat) (L : Nat) : Nat → Nat := fun b => if b < w.heap.size then lab b else L
theorem relab_old (w : World) (lab : Nat → Nat) (L : Nat) : ∀ b, b < w.heap.size → relab w lab L b = lab b := fun b hb => by simp [relab, hb]
theorem relab_new (w : World) (lab : Nat → Nat) (L b : Nat) (h : w.heap.size ≤ b) : relab w lab L b = L := by
  have : ¬ b < w.heap.size := by omega
  simp [relab, this]

/-- A writer's call. -/
theorem Tb.writer (h : Tb w lab B t sd vL vM Ls Ms) (i : Nat) (hi : i < 2) {v' : Value} {l' : List Nat} (hw : Wr w' B (sd i).p v' l') (hk : Keep (wS (sd i).p (sd i).v) w w') (hm : moved w (sd i).v v') :
    (∃ lab', Tb w' lab' B t (upd sd i (fun s => { s with v := v', l := l' })) vL vM Ls Ms) ∧ Below B w w' := by
  obtain ⟨h1, h2⟩ := h.wr i hi id
  have q := h.keep (Y := fun L => L = 10 * i + 1) hk (relab_old w lab (10 * i + 1)) (fun b hb => h2 b hb)
  refine ⟨⟨_, Tb.turn q i _ ?_ ?_ ?_ ?_ ?_ ?_ ?_ (by omega) (by omega) (by omega)⟩, hk.below h.base (fun b hb r => by have := (h1.lt b r).1; omega)⟩
  · exact cells_fix (fun _ => ⟨rfl, rfl, rfl, rfl⟩) (q.tb (nY (by omega)))
  · intro j hj hY
    have : j ≠ i := fun e => hY (by rw [e])
    rw [upd_other _ _ _ _ this]
    exact ⟨rfl, rfl, rfl⟩
  · intro j hj hY
    have : j = i := by omega
    subst this
    rw [upd_same]
    refine ⟨hw, fun b hb => ?_⟩
    by_cases hlt : b < w.heap.size
    · rw [relab_old _ _ _ b hlt]
      exact h2 b (wS.moved hm b hlt hb)
    · exact relab_new _ _ _ _ (by omega)
  · intro j hj hY
    exact ⟨upd_fix sd i j _ (·.s) (fun _ => rfl), upd_fix sd i j _ (·.sl) (fun _ => rfl)⟩
  · intro j hj hY; omega
  · intro j hj
    have := q.rd j hj (nY (by omega))
    unfold upd
    split <;> exact this
  · intro j hj
    have := q.rr j hj (nY (by omega))
    unfold upd
    split <;> exact this

/-- A reader's call. -/
theorem Tb.reader (h : Tb w lab B t sd vL vM Ls Ms) (i : Nat) (hi : i < 2) {pos' e' : Nat} (hr : Rd w' (sd i).r (sd i).ra (sd i).rc (sd i).x pos' e') (hk : Keep (fun k => k = (sd i).r) w w') :
    Tb w' lab B t (upd sd i (fun s => { s with pos := pos', e := e' })) vL vM Ls Ms ∧ Below B w w' := by
  obtain ⟨h1, h2, h3, h4⟩ := h.rd i hi id
  have q := h.keep (Y := fun L => L = 10 * i + 3) (lab' := lab) hk (fun _ _ => rfl) (fun b hb => by rw [hb]; exact h2)
  refine ⟨Tb.turn q i _ ?_ ?_ ?_ ?_ ?_ ?_ ?_ (by omega) (by omega) (by omega), hk.below h.base (fun b hb r => by have : b = (sd i).r := r; omega)⟩
  · exact cells_fix (fun _ => ⟨rfl, rfl, rfl, rfl⟩) (q.tb (nY (by omega)))
  · intro j hj hY
    exact ⟨upd_fix sd i j _ (·.p) (fun _ => rfl), upd_fix sd i j _ (·.v) (fun _ => rfl), upd_fix sd i j _ (·.l) (fun _ => rfl)⟩
  · intro j hj hY; omega
  · intro j hj hY
    exact ⟨upd_fix sd i j _ (·.s) (fun _ => rfl), upd_fix sd i j _ (·.sl) (fun _ => rfl)⟩
  · intro j hj hY; omega
  · intro j hj
    by_cases hji : j = i
    · subst hji
      rw [upd_same]
      exact ⟨hr, h2, h3, h4⟩
    · rw [upd_other _ _ _ _ hji]
      exact q.rd j hj (nY (by omega))
  · intro j hj
    have := q.rr j hj (nY (by omega))
    unfold upd
    split <;> exact this
/-- The document's reader's call. -/
theorem Tb.rreader (h : Tb w lab B t sd vL vM Ls Ms) (i : Nat) (hi : i < 2) {pos' e' : Nat} (hr : Rd w' (sd i).d (sd i).da (sd i).dc (sd i).y pos' e') (hk : Keep (fun k => k = (sd i).d) w w') :
    Tb w' lab B t (upd sd i (fun s => { s with qos := pos', f := e' })) vL vM Ls Ms ∧ Below B w w' := by
  obtain ⟨h1, h2, h3, h4⟩ := h.rr i hi id
  have q := h.keep (Y := fun L => L = 10 * i + 4) (lab' := lab) hk (fun _ _ => rfl) (fun b hb => by rw [hb]; exact h2)
  refine ⟨Tb.turn q i _ ?_ ?_ ?_ ?_ ?_ ?_ ?_ (by omega) (by omega) (by omega), hk.below h.base (fun b hb r => by have : b = (sd i).d := r; omega)⟩
  · exact cells_fix (fun _ => ⟨rfl, rfl, rfl, rfl⟩) (q.tb (nY (by omega)))
  · intro j hj hY
    exact ⟨upd_fix sd i j _ (·.p) (fun _ => rfl), upd_fix sd i j _ (·.v) (fun _ => rfl), upd_fix sd i j _ (·.l) (fun _ => rfl)⟩
  · intro j hj hY; omega
  · intro j hj hY
    exact ⟨upd_fix sd i j _ (·.s) (fun _ => rfl), upd_fix sd i j _ (·.sl) (fun _ => rfl)⟩
  · intro j hj hY; omega
  · intro j hj
    have := q.rd j hj (nY (by omega))
    unfold upd
    split <;> exact this
  · intro j hj
    by_cases hji : j = i
    · subst hji
      rw [upd_same]
      exact ⟨hr, h2, h3, h4⟩
    · rw [upd_other _ _ _ _ hji]
      exact q.rr j hj (nY (by omega))
end
end Go.Proofs.YtllpfojkbeloeaaDoor
