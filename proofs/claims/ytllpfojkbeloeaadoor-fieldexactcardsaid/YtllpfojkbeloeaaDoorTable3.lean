import Derived.Test.YtllpfojkbeloeaaDoorTable2
namespace Go.Proofs.YtllpfojkbeloeaaDoor
open Go.RowKit Go.QK

theorem two {i : Nat} (h : i < 2) : i = 0 ∨ i = 1 := by omega
theorem tcs_said (sd : Nat → Side) (i : Nat) (hi : i < 2) (vL vM s' : Value) (m : List Nat) : tcs (upd sd i (fun s => { s with s := s', sl := m })) vL vM = (tcs sd vL vM).set (2 + i) s' := by
  rcases two hi with rfl | rfl <;> rfl
theorem tcs_writer (sd : Nat → Side) (i : Nat) (hi : i < 2) (vL vM v' : Value) (p' : Nat) (m : List Nat) : tcs (upd sd i (fun s => { s with p := p', v := v', l := m })) vL vM = (tcs sd vL vM).set (0 + i) (ptrAt p') := by
  rcases two hi with rfl | rfl <;> rfl
theorem tcs_reader (sd : Nat → Side) (i : Nat) (hi : i < 2) (vL vM : Value) (r : Nat) (a : Option Addr) (c : Nat) (x : List Nat) (p e : Nat) : tcs (upd sd i (fun s => { s with r := r, ra := a, rc := c, x := x, pos := p, e := e })) vL vM = (tcs sd vL vM).set (4 + i) (ptrAt r) := by
  rcases two hi with rfl | rfl <;> rfl
theorem tcs_rreader (sd : Nat → Side) (i : Nat) (hi : i < 2) (vL vM : Value) (r : Nat) (a : Option Addr) (c : Nat) (x : List Nat) (p e : Nat) : tcs (upd sd i (fun s => { s with d := r, da := a, dc := c, y := x, qos := p, f := e })) vL vM = (tcs sd vL vM).set (6 + i) (ptrAt r) := by
  rcases two hi with rfl | rfl <;> rfl
theorem tcs_len (sd : Nat → Side) (vL vM : Value) : (tcs sd vL vM).length = 10 := rfl
theorem nY2 {a b : Nat} (h0 : a ≠ 0) (h : a ≠ b) : ¬ (False ∨ (a = 0 ∨ a = b)) := fun r => r.elim id (fun r => r.elim h0 h)
theorem nY0 {a b : Nat} (h0 : a ≠ 0) (h : a ≠ b) : ¬ (a = 0 ∨ a = b) := fun r => r.elim h0 h

section
variable {w w2 : World} {lab : Nat → Nat} {B t : Nat} {sd : Nat → Side} {vL vM : Value} {Ls Ms : List Value}

theorem Tb.putSaid (h : Tb w lab B t sd vL vM Ls Ms) (i : Nat) (hi : i < 2) {s' : Value} {m : List Nat} (hk : Keep (fun b => (sd i).s.ownBlock = some b) w w2) (ho : OwnB w2 B s' m) (hs : ∀ b, s'.ownBlock = some b → b < w.heap.size → (sd i).s.ownBlock = some b) :
    (∃ lab', Tb (w2.setCell ⟨t, 2 + i, none⟩ s') lab' B t (upd sd i (fun s => { s with s := s', sl := m })) vL vM Ls Ms) ∧ Below B w (w2.setCell ⟨t, 2 + i, none⟩ s') := by
  obtain ⟨h1, h2⟩ := h.sa i hi id
  have nt : ¬ (sd i).s.ownBlock = some t := fun q => by have := h2 t q; rw [h.lt] at this; omega
  have tb2 := (h.tb id).keep hk nt
  have kt : Keep (fun b => b = t) w2 (w2.setCell ⟨t, 2 + i, none⟩ s') := (Keep.refl (fun b => b = t) w2).setCell (fun _ => rfl) _
  have kk : Keep (fun b => b = t ∨ (sd i).s.ownBlock = some b) w (w2.setCell ⟨t, 2 + i, none⟩ s') := (hk.mono (fun _ _ q => .inr q)).trans kt (fun _ _ q => .inl q)
  have q := h.keep (Y := fun L => L = 0 ∨ L = 10 * i + 2) kk (relab_old w lab (10 * i + 2)) (fun b hb => hb.elim (fun e => .inl (by rw [e]; exact h.lt)) (fun e => .inr (h2 b e)))
  have ns' : ∀ b, s'.ownBlock = some b → ¬ b = t := by
    intro b hb e
    subst e
    exact nt (hs b hb h.tl)
  refine ⟨⟨_, Tb.turn q i _ ?_ ?_ ?_ ?_ ?_ ?_ ?_ (nY0 (by omega) (by omega)) (nY0 (by omega) (by omega)) (fun k => nY0 (by omega) (by omega))⟩, kk.below h.base (fun b hb r => by
    rcases r with r | r
    · have := h.tB; omega
    · have := (World.ownsRow.lt h1 b r).1; omega)⟩
  · rw [tcs_said sd i hi]
    exact tb2.stored (by rw [tcs_len]; omega) s'
  · intro j hj hY
    exact ⟨upd_fix sd i j _ (·.p) (fun _ => rfl), upd_fix sd i j _ (·.v) (fun _ => rfl), upd_fix sd i j _ (·.l) (fun _ => rfl)⟩
  · intro j hj hY; omega
  · intro j hj hY
    have : j ≠ i := fun e => hY (.inr (by rw [e]))
    rw [upd_other _ _ _ _ this]
    exact ⟨rfl, rfl⟩
  · intro j hj hY
    have : j = i := by omega
    subst this
    rw [upd_same]
    refine ⟨Owns.keep ho kt ns', fun b hb => ?_⟩
    by_cases hlt : b < w.heap.size
    · rw [relab_old _ _ _ b hlt]
      exact h2 b (hs b hb hlt)
    · exact relab_new _ _ _ _ (by omega)
  · intro j hj
    have := q.rd j hj (nY2 (by omega) (by omega))
    unfold upd
    split <;> exact this
  · intro j hj
    have := q.rr j hj (nY2 (by omega) (by omega))
    unfold upd
    split <;> exact this

theorem Tb.putWriter (h : Tb w lab B t sd vL vM Ls Ms) (i : Nat) (hi : i < 2) {p' : Nat} {v' : Value} {m : List Nat} (hk : Below w.heap.size w w2) (hw : Wr w2 B p' v' m) (hn : ∀ b, wS p' v' b → w.heap.size ≤ b) :
    (∃ lab', Tb (w2.setCell ⟨t, 0 + i, none⟩ (ptrAt p')) lab' B t (upd sd i (fun s => { s with p := p', v := v', l := m })) vL vM Ls Ms) ∧ Below B w (w2.setCell ⟨t, 0 + i, none⟩ (ptrAt p')) := by
  have tb2 := (h.tb id).below hk
  have kt : Keep (fun b => b = t) w2 (w2.setCell ⟨t, 0 + i, none⟩ (ptrAt p')) := (Keep.refl (fun b => b = t) w2).setCell (fun _ => rfl) _
  have kk : Keep (fun b => b = t) w (w2.setCell ⟨t, 0 + i, none⟩ (ptrAt p')) := (Keep.of_below hk).trans kt (fun _ _ q => q)
  have q := h.keep (Y := fun L => L = 0 ∨ L = 10 * i + 1) kk (relab_old w lab (10 * i + 1)) (fun b hb => .inl (by rw [hb]; exact h.lt))
  refine ⟨⟨_, Tb.turn q i _ ?_ ?_ ?_ ?_ ?_ ?_ ?_ (nY0 (by omega) (by omega)) (nY0 (by omega) (by omega)) (fun k => nY0 (by omega) (by omega))⟩, kk.below h.base (fun b hb r => by have := h.tB; have : b = t := r; omega)⟩
  · rw [tcs_writer sd i hi]
    exact tb2.stored (by rw [tcs_len]; omega) _
  · intro j hj hY
    have : j ≠ i := fun e => hY (.inr (by rw [e]))
    rw [upd_other _ _ _ _ this]
    exact ⟨rfl, rfl, rfl⟩
  · intro j hj hY
    have : j = i := by omega
    subst this
    rw [upd_same]
    have := h.tl
    exact ⟨hw.keep kt (fun b hb e => by have := hn b hb; have : b = t := e; omega), fun b hb => relab_new _ _ _ _ (hn b hb)⟩
  · intro j hj hY
    exact ⟨upd_fix sd i j _ (·.s) (fun _ => rfl), upd_fix sd i j _ (·.sl) (fun _ => rfl)⟩
  · intro j hj hY; omega
  · intro j hj
    have := q.rd j hj (nY2 (by omega) (by omega))
    unfold upd
    split <;> exact this
  · intro j hj
    have := q.rr j hj (nY2 (by omega) (by omega))
    unfold upd
    split <;> exact this

theorem Tb.putReader (h : Tb w lab B t sd vL vM Ls Ms) (i : Nat) (hi : i < 2) {r : Nat} {a : Option Addr} {c : Nat} {x : List Nat} {p e : Nat} (hk : Below w.heap.size w w2) (hr : Rd w2 r a c x p e) (hn : w.heap.size ≤ r) (hn2 : ∀ ad, a = some ad → w.heap.size ≤ ad.block) :
    (∃ lab', Tb (w2.setCell ⟨t, 4 + i, none⟩ (ptrAt r)) lab' B t (upd sd i (fun s => { s with r := r, ra := a, rc := c, x := x, pos := p, e := e })) vL vM Ls Ms) ∧ Below B w (w2.setCell ⟨t, 4 + i, none⟩ (ptrAt r)) := by
  have tb2 := (h.tb id).below hk
  have kt : Keep (fun b => b = t) w2 (w2.setCell ⟨t, 4 + i, none⟩ (ptrAt r)) := (Keep.refl (fun b => b = t) w2).setCell (fun _ => rfl) _
  have kk : Keep (fun b => b = t) w (w2.setCell ⟨t, 4 + i, none⟩ (ptrAt r)) := (Keep.of_below hk).trans kt (fun _ _ q => q)
  have q := h.keep (Y := fun L => L = 0 ∨ L = 10 * i + 3) kk (relab_old w lab (10 * i + 3)) (fun b hb => .inl (by rw [hb]; exact h.lt))
  refine ⟨⟨_, Tb.turn q i _ ?_ ?_ ?_ ?_ ?_ ?_ ?_ (nY0 (by omega) (by omega)) (nY0 (by omega) (by omega)) (fun k => nY0 (by omega) (by omega))⟩, kk.below h.base (fun b hb r => by have := h.tB; have : b = t := r; omega)⟩
  · rw [tcs_reader sd i hi]
    exact tb2.stored (by rw [tcs_len]; omega) _
  · intro j hj hY
    exact ⟨upd_fix sd i j _ (·.p) (fun _ => rfl), upd_fix sd i j _ (·.v) (fun _ => rfl), upd_fix sd i j _ (·.l) (fun _ => rfl)⟩
  · intro j hj hY; omega
  · intro j hj hY
    exact ⟨upd_fix sd i j _ (·.s) (fun _ => rfl), upd_fix sd i j _ (·.sl) (fun _ => rfl)⟩
  · intro j hj hY; omega
  · intro j hj
    by_cases hji : j = i
    · subst hji
      rw [upd_same]
      have := h.tl
      have := h.base
      exact ⟨hr.keep kt (fun e => by have : r = t := e; omega) (fun ad had e => by have := hn2 ad had; have : ad.block = t := e; omega), relab_new _ _ _ _ hn, by dsimp only; omega, fun _ ad had => ⟨relab_new _ _ _ _ (hn2 ad had), by have := hn2 ad had; omega⟩⟩
    · rw [upd_other _ _ _ _ hji]
      exact q.rd j hj (nY2 (by omega) (by omega))
  · intro j hj
    have := q.rr j hj (nY2 (by omega) (by omega))
    unfold upd
    split <;> exact this

theorem Tb.putRReader (h : Tb w lab B t sd vL vM Ls Ms) (i : Nat) (hi : i < 2) {r : Nat} {a : Option Addr} {c : Nat} {x : List Nat} {p e : Nat} (hk : Below w.heap.size w w2) (hr : Rd w2 r a c x p e) (hn : w.heap.size ≤ r) (hn2 : ∀ ad, a = some ad → w.heap.size ≤ ad.block) :
    (∃ lab', Tb (w2.setCell ⟨t, 6 + i, none⟩ (ptrAt r)) lab' B t (upd sd i (fun s => { s with d := r, da := a, dc := c, y := x, qos := p, f := e })) vL vM Ls Ms) ∧ Below B w (w2.setCell ⟨t, 6 + i, none⟩ (ptrAt r)) := by
  have tb2 := (h.tb id).below hk
  have kt : Keep (fun b => b = t) w2 (w2.setCell ⟨t, 6 + i, none⟩ (ptrAt r)) := (Keep.refl (fun b => b = t) w2).setCell (fun _ => rfl) _
  have kk : Keep (fun b => b = t) w (w2.setCell ⟨t, 6 + i, none⟩ (ptrAt r)) := (Keep.of_below hk).trans kt (fun _ _ q => q)
  have q := h.keep (Y := fun L => L = 0 ∨ L = 10 * i + 4) kk (relab_old w lab (10 * i + 4)) (fun b hb => .inl (by rw [hb]; exact h.lt))
  refine ⟨⟨_, Tb.turn q i _ ?_ ?_ ?_ ?_ ?_ ?_ ?_ (nY0 (by omega) (by omega)) (nY0 (by omega) (by omega)) (fun k => nY0 (by omega) (by omega))⟩, kk.below h.base (fun b hb r => by have := h.tB; have : b = t := r; omega)⟩
  · rw [tcs_rreader sd i hi]
    exact tb2.stored (by rw [tcs_len]; omega) _
  · intro j hj hY
    exact ⟨upd_fix sd i j _ (·.p) (fun _ => rfl), upd_fix sd i j _ (·.v) (fun _ => rfl), upd_fix sd i j _ (·.l) (fun _ => rfl)⟩
  · intro j hj hY; omega
  · intro j hj hY
    exact ⟨upd_fix sd i j _ (·.s) (fun _ => rfl), upd_fix sd i j _ (·.sl) (fun _ => rfl)⟩
  · intro j hj hY; omega
  · intro j hj
    have := q.rd j hj (nY2 (by omega) (by omega))
    unfold upd
    split <;> exact this
  · intro j hj
    by_cases hji : j = i
    · subst hji
      rw [upd_same]
      have := h.tl
      have := h.base
      exact ⟨hr.keep kt (fun e => by have : r = t := e; omega) (fun ad had e => by have := hn2 ad had; have : ad.block = t := e; omega), relab_new _ _ _ _ hn, by dsimp only; omega, fun _ ad had => ⟨relab_new _ _ _ _ (hn2 ad had), by have := hn2 ad had; omega⟩⟩
    · rw [upd_other _ _ _ _ hji]
      exact q.rr j hj (nY2 (by omega) (by omega))
end
end Go.Proofs.YtllpfojkbeloeaaDoor
