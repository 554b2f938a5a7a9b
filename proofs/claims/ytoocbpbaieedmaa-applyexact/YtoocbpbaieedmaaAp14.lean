import Derived.Test.YtoocbpbaieedmaaAp13
namespace Go.Proofs.Ytoocbpbaieedmaa
open Go.RowKit Go.QK Quota
set_option maxRecDepth 100000
/-- All cells of the record are one cell each. -/
def Rc.One (r : Rc) : Prop := (recA r).toList.all (fun v => v.oneCell') = true
theorem Rc.One.asK {r : Rc} (h : Rc.One r) (k n : Int) : Rc.One (asK r k n) := by
  simp [Rc.One] at h ⊢
  exact h
theorem PIn.keep {S : Nat → Prop} {w w' : World} {p : Pg} {t : At} (h : PIn w p t) (hk : Keep S w w') (h1 : ∀ ad, t.a = some ad → ¬ S ad.block) (h2 : ∀ ad, t.b = some ad → ¬ S ad.block) : PIn w' p t := ⟨h.lc.keep hk h1, h.lg.keep hk h2, h.nc, h.ng, h.cc, h.cg⟩
theorem PgOut.in2 {w : World} {B : Nat} {v : Value} {p : Pg} (h : PgOut w B v p) : ∃ t, v = pgV p t ∧ PIn w p t ∧ ∀ ad : Addr, (t.a = some ad ∨ t.b = some ad) → B ≤ ad.block ∧ ad.block < w.heap.size := by
  obtain ⟨v1, v2, rfl, h1, h2, h3⟩ := h
  obtain ⟨a, c, rfl, l1, m1, _, n1, o1⟩ := GRow.lies h1
  obtain ⟨b, d, rfl, l2, m2, _, n2, o2⟩ := GRow.lies h2
  refine ⟨⟨a, c, b, d⟩, rfl, ⟨l1, l2, fun e => ⟨n1 e, by have := n1 e; omega⟩, fun e => ⟨n2 e, by have := n2 e; omega⟩, m1, m2⟩, fun ad q => ?_⟩
  rcases q with q | q
  · dsimp only at q
    obtain ⟨q1, q2⟩ := o1 ad q
    obtain ⟨bk, off, sp⟩ := ad
    dsimp only at q1 q2
    subst q1 q2
    subst q
    exact World.ownsRow.lt h1 bk rfl
  · dsimp only at q
    obtain ⟨q1, q2⟩ := o2 ad q
    obtain ⟨bk, off, sp⟩ := ad
    dsimp only at q1 q2
    subst q1 q2
    subst q
    exact World.ownsRow.lt h2 bk rfl
theorem done_at (p : Pg) (t : At) (r : Rc) (w : World) (h : PIn w p t) (hf : p.Fit) (hr : r.Fit) : Calls Try.prog 9 #[pgV p t, recV r] w fun e w' => ∃ u, e = .returned (.tuple #[pgV (doP p r) u, .bool (didB p r), .bool (doE p r == 0)]) ∧ PIn w' (doP p r) u ∧ (∀ ad : Addr, (u.a = some ad ∨ u.b = some ad) → w.heap.size ≤ ad.block ∧ ad.block < w'.heap.size) ∧ Below w.heap.size w w' := by
  refine (done_any p t r w h hf hr).mono ?_
  rintro e w' ⟨v, rfl, h4, h5⟩
  obtain ⟨u, rfl, h6, h7⟩ := h4.in2
  exact ⟨u, rfl, h6, h7, h5⟩
theorem lent_at (p : Pg) (t : At) (w : World) (h : PIn w p t) (hf : p.Fit) : Calls Try.prog 10 #[pgV p t] w fun e w' => ∃ u, e = .returned (pgV p u) ∧ PIn w' p u ∧ Below w.heap.size w w' := by
  refine (lent_any p t w h (Nat.le_trans hf.lc (by decide)) (Nat.le_trans hf.lg (by decide))).mono ?_
  rintro e w' ⟨u, g1, g2, rfl, h4, h5⟩
  exact ⟨u, rfl, h4.in_, h5⟩
theorem same_at (p : Pg) (t u : At) (w : World) (hf : p.Fit) (h1 : PIn w p t) (h2 : PIn w p u) : Calls Try.prog 12 #[pgV p t, pgV p u] w fun e w' => e = .returned (.bool true) ∧ Below w.heap.size w w' := same_true p t u w h1 h2 (Nat.le_trans hf.lc (by decide)) (Nat.le_trans hf.lg (by decide))
end Go.Proofs.Ytoocbpbaieedmaa
