import Derived.Test.YthaiagalndcndaaPoN
import Derived.Test.YthaiagalndcndaaPo10
namespace Go.Proofs.Ythaiagalndcndaa
open Go.RowKit Go.QK Go.Maps Go.QM Go.QP
set_option maxRecDepth 100000
theorem vals {vG : List Value} {n : Nat → Nat} (h : ∀ k (hk : k < vG.length), ∃ a c, vG[k] = .slice a (n k) c) : ∃ (A : Nat → Option Addr) (C : Nat → Nat), ∀ k, k < vG.length → vG[k]? = some (.slice (A k) (n k) (C k)) := by
  induction vG generalizing n with
  | nil => exact ⟨fun _ => none, fun _ => 0, fun k hk => by cases hk⟩
  | cons v r ih =>
    obtain ⟨A, C, q⟩ := ih (n := fun k => n (k + 1)) (fun k hk => by have := h (k + 1) (by simpa using hk); simpa using this)
    obtain ⟨a, c, e⟩ := h 0 (by simp)
    simp only [List.getElem_cons_zero] at e
    refine ⟨fun k => match k with | 0 => a | k + 1 => A k, fun k => match k with | 0 => c | k + 1 => C k, fun k hk => ?_⟩
    cases k with
    | zero => simp [e]
    | succ k => simpa using q k (by simpa using hk)
/-- How the law's lists stand while they are made longer. -/
structure Inv5 (w : World) (B : Nat) (lab : Nat → Nat) (I : Nat → Option It) (uG uW uM : Value) (vG vW vM : List Value) (A : Nat → Option Addr) (C n : Nat → Nat) (it0 : It) (k : Nat) : Prop where
  own : Own w B lab I
  g : I 1 = some ⟨23, 1, uG, 6, vG⟩
  ww : I 2 = some ⟨23, 1, uW, 6, vW⟩
  m : I 3 = some ⟨23, 1, uM, k, vM⟩
  lm : vM.length = k
  done : ∀ j (h : j < vM.length), I (10 + 3 * j) = some ⟨28, 2, vM[j], n j + 1, drs (marks j (n j + 1))⟩
  todo : ∀ j, k ≤ j → j < 6 → I (10 + 3 * j) = some ⟨28, 2, .slice (A j) (n j) (C j), n j, drs (marks j (n j))⟩
  ew : I 11 = some it0
  told : ∀ j, j < k → Told w lab (10 + 3 * j) (A j) (drs (marks j (n j)))
section
variable {w w' : World} {B : Nat} {lab : Nat → Nat} {I : Nat → Option It} {uG uW uM : Value} {vG vW vM : List Value} {A : Nat → Option Addr} {C n : Nat → Nat} {it0 : It} {k : Nat}
theorem Inv5.below (h : Inv5 w B lab I uG uW uM vG vW vM A C n it0 k) (hb : Below w.heap.size w w') : Inv5 w' B lab I uG uW uM vG vW vM A C n it0 k := { h with own := h.own.below hb, told := fun j hj => (h.told j hj).below hb }
theorem Inv5.rowG (h : Inv5 w B lab I uG uW uM vG vW vM A C n it0 k) : GRow w B 23 1 uG 6 vG := (h.own.at_ 1 _ h.g).1
theorem Inv5.rowW (h : Inv5 w B lab I uG uW uM vG vW vM A C n it0 k) : GRow w B 23 1 uW 6 vW := (h.own.at_ 2 _ h.ww).1
theorem Inv5.rowM (h : Inv5 w B lab I uG uW uM vG vW vM A C n it0 k) : GRow w B 23 1 uM k vM := (h.own.at_ 3 _ h.m).1
theorem Inv5.cur (h : Inv5 w B lab I uG uW uM vG vW vM A C n it0 k) (hk : k < 6) : GRow w B 28 2 (.slice (A k) (n k) (C k)) (n k) (drs (marks k (n k))) := (h.own.at_ _ _ (h.todo k (Nat.le_refl _) hk)).1
theorem Inv5.mKeep {w2 : World} (h : Inv5 w B lab I uG uW uM vG vW vM A C n it0 k) (hk : k < 6) (k2 : Keep (fun z => (Value.slice (A k) (n k) (C k)).ownBlock = some z) w w2) : GRow w2 B 23 1 uM k vM :=
  GRow.keep h.rowM k2 (fun g hg s => by
    have h1 := (h.own.at_ 3 _ h.m).2 g hg
    have h2 := (h.own.at_ _ _ (h.todo k (Nat.le_refl _) hk)).2 g s
    omega)
theorem Inv5.gKeep {w2 : World} (h : Inv5 w B lab I uG uW uM vG vW vM A C n it0 k) (hk : k < 6) (k2 : Keep (fun z => (Value.slice (A k) (n k) (C k)).ownBlock = some z) w w2) : GRow w2 B 23 1 uG 6 vG :=
  GRow.keep h.rowG k2 (fun g hg s => by
    have h1 := (h.own.at_ 1 _ h.g).2 g hg
    have h2 := (h.own.at_ _ _ (h.todo k (Nat.le_refl _) hk)).2 g s
    omega)
theorem Inv5.more (h : Inv5 w B lab I uG uW uM vG vW vM A C n it0 k) (hk : k < 6) {w2 w2a w3 : World} {v uM' : Value} (hx : GRow w2 B 28 2 v (n k + 1) (drs (marks k (n k + 1)))) (k2 : Keep (fun z => (Value.slice (A k) (n k) (C k)).ownBlock = some z) w w2)
    (o2 : v.ownBlock = (Value.slice (A k) (n k) (C k)).ownBlock ∨ ∃ z, v.ownBlock = some z ∧ w.heap.size ≤ z) (ht : Lies w2 (A k) (drs (marks k (n k)))) (b2 : Below w2.heap.size w2 w2a)
    (g3 : GRow w3 B 23 1 uM' (k + 1) (vM ++ [v])) (k3 : Keep (fun z => uM.ownBlock = some z) w2a w3) (o3 : uM'.ownBlock = uM.ownBlock ∨ ∃ z, uM'.ownBlock = some z ∧ w2a.heap.size ≤ z) :
    ∃ lab' I', Inv5 w3 B lab' I' uG uW uM' vG vW (vM ++ [v]) A C n it0 (k + 1) := by
  have hcur := h.own.at_ _ _ (h.todo k (Nat.le_refl _) hk)
  have hl := hcur.2
  simp only at hl
  have p2 := h.own.put k2 (10 + 3 * k) (fun b _ s => hl b s) ⟨28, 2, v, n k + 1, drs (marks k (n k + 1))⟩ hx (fun g hg hlt => by
    rcases o2 with q | ⟨z, q, hz⟩
    · rw [q] at hg; exact hl g hg
    · rw [q] at hg; cases hg; omega)
  have p2a := p2.below b2
  have e3 : put I (10 + 3 * k) ⟨28, 2, v, n k + 1, drs (marks k (n k + 1))⟩ 3 = some ⟨23, 1, uM, k, vM⟩ := by rw [put_other _ _ (by omega)]; exact h.m
  have l3 := (p2a.at_ 3 _ e3).2
  simp only at l3
  have p3 := p2a.put k3 3 (fun b _ s => l3 b s) ⟨23, 1, uM', k + 1, vM ++ [v]⟩ g3 (fun g hg hlt => by
    rcases o3 with q | ⟨z, q, hz⟩
    · rw [q] at hg; exact l3 g hg
    · rw [q] at hg; cases hg; omega)
  have told2 : ∀ j, j < k + 1 → Told w2 (relab lab w.heap.size (10 + 3 * k)) (10 + 3 * j) (A j) (drs (marks j (n j))) := by
    intro j hj
    by_cases q : j < k
    · exact (h.told j q).keep k2 (fun b _ s => hl b s) (by omega)
    · obtain rfl : j = k := by omega
      refine ⟨ht, fun hne ad had => ?_⟩
      have hb : ad.block < w.heap.size := by
        obtain ⟨a, c, e, li, _⟩ := GRow.lies hcur.1
        cases e
        rcases li with r | ⟨b, off, e, hb, _⟩
        · exact absurd r hne
        · rw [had] at e; cases e; exact hb
      unfold relab
      rw [if_pos hb]
      exact hl ad.block (by rw [had]; rfl)
  refine ⟨_, _, p3, ?_, ?_, put_same _ _ _, by simp [h.lm], fun j hj => ?_, fun j h1 h2 => ?_, ?_, fun j hj => ?_⟩
  · rw [put_other _ _ (by omega), put_other _ _ (by omega)]; exact h.g
  · rw [put_other _ _ (by omega), put_other _ _ (by omega)]; exact h.ww
  · rw [put_other _ _ (by omega)]
    by_cases q : j < vM.length
    · rw [put_other _ _ (by have := h.lm; omega), h.done j q]
      simp [List.getElem_append_left q]
    · have : j = k := by have := h.lm; simp at hj; omega
      subst this
      rw [put_same]
      congr 2
      rw [List.getElem_append_right (by have := h.lm; omega)]
      simp
  · rw [put_other _ _ (by omega), put_other _ _ (by omega)]
    exact h.todo j (by omega) h2
  · rw [put_other _ _ (by omega), put_other _ _ (by omega)]; exact h.ew
  · exact ((told2 j hj).below b2).keep k3 (fun b _ s => l3 b s) (by omega)
end
theorem Inv5.start {w : World} {B : Nat} {lab : Nat → Nat} {I : Nat → Option It} {uG uW : Value} {vG vW : List Value} {R X : Nat → List Dr} {A : Nat → Option Addr} {C n : Nat → Nat} (h : Inv w B lab I uG uW vG vW R X 6) (hX : ∀ j, j < 6 → X j = marks j (n j)) (hn : ∀ k, (R k).length = n k)
    (hg : ∀ k (hk : k < vG.length), vG[k] = .slice (A k) (n k) (C k)) (h0 : 0 < vW.length) : ∃ lab' I', Inv5 w B lab' I' uG uW (.slice none 0 0) vG vW [] A C n ⟨28, 2, vW[0], n 0, drs (R 0)⟩ 0 := by
  have p := h.own.put (S := fun _ => False) (Keep.refl _ w) 3 (fun _ _ f => f.elim) ⟨23, 1, .slice none 0 0, 0, []⟩ (World.ownsRow_nil _ _ _ _) (fun g hg _ => by cases hg)
  refine ⟨_, _, p, ?_, ?_, put_same _ _ _, rfl, fun j hj => (by simp at hj), fun j _ h2 => ?_, ?_, fun j hj => (by omega)⟩
  · rw [put_other _ _ (by omega)]; exact h.g
  · rw [put_other _ _ (by omega)]; exact h.ww
  · have hl := h.lg
    rw [put_other _ _ (by omega), h.eg j (by omega), hg j (by omega), hX j h2, hn]
  · rw [put_other _ _ (by omega)]
    have := h.ew 0 h0
    rw [hn] at this
    exact this
theorem marks_at {w : World} {a : Option Addr} {k n i : Nat} (h : Lies w a (drs (marks k n))) (hi : i < n) : ∃ b off, a = some ⟨b, off, none⟩ ∧ b < w.heap.size ∧ w.cell? ⟨b, off + i * 2, none⟩ = some (.int .i64 (-1 - (k : Int))) ∧ w.cell? ⟨b, off + i * 2 + 1, none⟩ = some (.int .i64 (-(i : Int))) := by
  obtain ⟨b, off, e, hb, c0, c1⟩ := h.dr (k := i) (by rw [marks_len]; exact hi)
  have e1 : ∀ hh, (marks k n)[i]'hh = mrk k i := fun hh => by have := marks_get k n i hi; rw [List.getElem?_eq_getElem hh] at this; exact Option.some.inj this
  rw [e1] at c0 c1
  exact ⟨b, off, e, hb, c0, c1⟩
end Go.Proofs.Ythaiagalndcndaa
