import Derived.Test.YtapjbgkmcplpbaaGreatG12
import Derived.Deep.QuietTactic
import Derived.BigQuiet
namespace Go.Proofs.YtapjbgkmcplpbaaGreat
open Go.RowKit Go.QK

theorem below_drewN {B : Nat} {a w : World} (h : Below B a w) (n : Nat) : Below B a (w.drewN n) := ⟨h.os, h.tape, h.output, h.size, h.block⟩
/-- A list of pending writes that can be read. -/
def PSeen (w : World) (a : Option Addr) (ps : List PE) : Prop :=
  ∀ j (h : j < ps.length), (∃ b, a = some ⟨b, 0, none⟩ ∧ b < w.heap.size ∧ w.cell? ⟨b, j * 2, none⟩ = some (.int .i64 (ps[j].s : Int)) ∧ w.cell? ⟨b, j * 2 + 1, none⟩ = some ps[j].v) ∧ Bytes w (some ⟨ps[j].k, 0, none⟩) ps[j].b ∧ AllB ps[j].b
theorem PSeen.below {w w' : World} {a : Option Addr} {ps : List PE} (h : PSeen w a ps) (hb : Below w.heap.size w w') : PSeen w' a ps := fun j hj => by
  obtain ⟨⟨b, h1, h2, h3, h4⟩, h5, h6⟩ := h j hj
  exact ⟨⟨b, h1, Nat.lt_of_lt_of_le h2 hb.size, (hb.cell (p := ⟨b, j * 2, none⟩) h2).trans h3, (hb.cell (p := ⟨b, j * 2 + 1, none⟩) h2).trans h4⟩, Seen.below h5 hb, h6⟩
theorem PSeen.of {w : World} {B : Nat} {a : Option Addr} {n c : Nat} {ps : List PE} (h : PRow w B (.slice a n c) ps) (f : ∀ p ∈ ps, Bytes w (some ⟨p.k, 0, none⟩) p.b ∧ AllB p.b) : PSeen w a ps := fun j hj => ⟨h.form' j hj, f _ (List.getElem_mem hj)⟩
theorem cache_seen {w : World} {B : Nat} {n c : Nat} {a : Option Addr} {qs : List PE} {g : Dev} (ok : g.Ok) (hq : qs.map PE.out = g.pend) (hr : PRow w B (.slice a n c) qs) (hf : Fresh w B qs) : PSeen w a qs :=
  PSeen.of hr (fun p hp => ⟨Owns.seen_at (hf.own p hp).1, (ok.pend p.out (by rw [← hq]; exact List.mem_map.2 ⟨p, hp, rfl⟩)).2.2⟩)

/-- The program's device and the document's, that know nothing of one another. -/
structure Pr (w : World) (S : Nat → Prop) (d : Nat) (g : Dev) (T : Nat → Prop) (c : Nat) (k : Dev) : Prop where
  one : PDev w S d g
  two : RDev w T c k
  ap : ∀ b, S b → ¬ T b
section
variable {w w' : World} {S S' T T' : Nat → Prop} {d c : Nat} {g g' k k' : Dev}
theorem Pr.left (h : Pr w S d g T c k) (hd : PDev w' S' d g') (hs : Step w S w' S') : Pr w' S' d g' T c k :=
  ⟨hd, h.two.keep hs.1 h.ap, fun b hb ht => (hs.2 b hb).elim (fun q => h.ap b q ht) (fun q => by have := h.two.lt b ht; omega)⟩
theorem Pr.right (h : Pr w S d g T c k) (hd : RDev w' T' c k') (hs : Step w T w' T') : Pr w' S d g T' c k' :=
  ⟨h.one.keep hs.1 (fun b ht hb => h.ap b hb ht), hd, fun b hb ht => (hs.2 b ht).elim (fun q => h.ap b hb q) (fun q => by have := h.one.lt b hb; omega)⟩
theorem Pr.below (h : Pr w S d g T c k) (hb : Below w.heap.size w w') : Pr w' S d g T c k := ⟨h.one.below hb, h.two.below hb, h.ap⟩
/-- A step of one of the two is a step of both. -/
theorem Step.inl (hs : Step w S w' S') : Step w (fun b => S b ∨ T b) w' (fun b => S' b ∨ T b) :=
  ⟨hs.1.mono (fun _ _ q => .inl q), fun b q => q.elim (fun r => (hs.2 b r).elim (fun x => .inl (.inl x)) .inr) (fun r => .inl (.inr r))⟩
theorem Step.inr (hs : Step w T w' T') : Step w (fun b => S b ∨ T b) w' (fun b => S b ∨ T' b) :=
  ⟨hs.1.mono (fun _ _ q => .inr q), fun b q => q.elim (fun r => .inl (.inl r)) (fun r => (hs.2 b r).elim (fun x => .inl (.inr x)) .inr)⟩
end
end Go.Proofs.YtapjbgkmcplpbaaGreat
