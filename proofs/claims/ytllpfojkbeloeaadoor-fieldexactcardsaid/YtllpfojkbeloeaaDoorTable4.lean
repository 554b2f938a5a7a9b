import Derived.Test.YtllpfojkbeloeaaDoorTable3
namespace Go.Proofs.YtllpfojkbeloeaaDoor
open Go.RowKit Go.QK

section
variable {w w' : World} {lab lab' : Nat → Nat} {B t : Nat} {sd : Nat → Side} {vL vM vL' vM' v u : Value} {Ls Ms : List Value}
/-- A list was put into the book. -/
theorem Tb.kept (h : Tb w lab B t sd vL vM Ls Ms) (hv : ∀ b, v.ownBlock = some b → b < w.heap.size ∧ lab b = 100 + Ls.length)
    (hl : ∀ b, b < w.heap.size → lab' b = lab b) (hc : Cells w' t (((tcs sd vL vM).set 8 vL').set 9 vM')) (rL : SRow w' B vL' (Ls ++ [v])) (rM : SRow w' B vM' (Ms ++ [u])) (he : BEnt w' v u (mk Ls.length))
    (lL : ∀ b, vL'.ownBlock = some b → lab' b = 5) (lM : ∀ b, vM'.ownBlock = some b → lab' b = 6) (lu : ∀ b, u.ownBlock = some b → lab' b = 100 + Ls.length)
    (hk : Keep (fun b => lab b = 0 ∨ lab b = 5 ∨ lab b = 6 ∨ lab b = 100 + Ls.length) w w') : Tb w' lab' B t sd vL' vM' (Ls ++ [v]) (Ms ++ [u]) ∧ Below B w w' := by
  have q := h.keep (Y := fun L => L = 0 ∨ L = 5 ∨ L = 6 ∨ L = 100 + Ls.length) hk hl (fun b hb => hb)
  have n4 : ∀ {L}, L ≠ 0 → L ≠ 5 → L ≠ 6 → L ≠ 100 + Ls.length → ¬ (False ∨ (L = 0 ∨ L = 5 ∨ L = 6 ∨ L = 100 + Ls.length)) := fun a b c d r => by
    rcases r with r | r | r | r | r
    · exact r
    · exact a r
    · exact b r
    · exact c r
    · exact d r
  have hlen := h.len
  refine ⟨⟨q.base, q.tB, q.lt, q.tl, fun _ => hc, fun i hi _ => q.wr i hi (n4 (by omega) (by omega) (by omega) (by omega)), fun i hi _ => q.sa i hi (n4 (by omega) (by omega) (by omega) (by omega)), fun i hi _ => q.rd i hi (n4 (by omega) (by omega) (by omega) (by omega)), fun i hi _ => q.rr i hi (n4 (by omega) (by omega) (by omega) (by omega)), fun _ => ⟨rL, lL⟩, fun _ => ⟨rM, lM⟩, by simp [hlen], q.low, fun k h1 h2 _ => ?_⟩, hk.below h.base (fun b hb r => by have := h.low b hb; omega)⟩
  by_cases hkl : k < Ls.length
  · rw [List.getElem_append_left hkl, List.getElem_append_left (by omega)]
    exact q.en k hkl (by omega) (n4 (by omega) (by omega) (by omega) (by omega))
  · have hke : k = Ls.length := by simp at h1; omega
    subst hke
    have e1 : (Ls ++ [v])[Ls.length] = v := by simp
    have e2 : (Ms ++ [u])[Ls.length] = u := by
      rw [List.getElem_append_right (by omega)]
      simp
    rw [e1, e2]
    refine ⟨he, fun b hb => ⟨Nat.lt_of_lt_of_le (hv b hb).1 hk.size, (hl b (hv b hb).1).trans (hv b hb).2⟩, fun b hb => ⟨?_, lu b hb⟩⟩
    obtain ⟨a, n, c, a', c', rfl, rfl, h3, h4, h5⟩ := he
    cases a' with
    | none => cases hb
    | some ad =>
      have : ad.block = b := Option.some.inj hb
      rw [← this]
      exact ne_bytes h4 (by simp) ad rfl
/-- What the book's own test reads. -/
theorem Tb.book (h : Tb w lab B t sd vL vM Ls Ms) : ∃ aL cL aM cM, BookAt w t 8 Ls.length aL cL aM cM := by
  obtain ⟨h1, _⟩ := h.rL id
  obtain ⟨h2, _⟩ := h.rM id
  obtain ⟨aL, cL, e1, _, _, _, f1⟩ := h1.form
  obtain ⟨aM, cM, e2, _, _, _, f2⟩ := h2.form
  have hlen := h.len
  refine ⟨aL, cL, aM, cM, h.tl, ?_, ?_, fun k hk => ?_⟩
  · rw [← e1]; exact ((h.tb id).get 8 vL rfl).1
  · rw [← hlen, ← e2]; exact ((h.tb id).get 9 vM rfl).1
  · obtain ⟨bL, p1, p2, p3⟩ := f1 k hk
    obtain ⟨bM, q1, q2, q3⟩ := f2 k (by omega)
    exact ⟨bL, bM, _, _, p1, q1, p2, q2, p3, q3, (h.en k hk (by omega) id).1⟩
end

/-- The table behind n calls. -/
def Tbl (w : World) (B t n : Nat) : Prop :=
  ∃ lab sd vL vM Ls Ms, Tb w lab B t sd vL vM Ls Ms ∧ Ls.length ≤ 2 * n ∧ ∀ i, i < 2 → (sd i).sl = (sd i).l ∧ (sd i).l.length ≤ 10 * n ∧ (sd i).y = (sd i).x ∧ (sd i).qos = (sd i).pos ∧ (sd i).f = (sd i).e ∧ AllB (sd i).l
end Go.Proofs.YtllpfojkbeloeaaDoor
