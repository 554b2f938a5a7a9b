import Derived.Test.YtllpfojkbeloeaaDoorKeeps
import Derived.Test.YtllpfojkbeloeaaDoorSumsOf
namespace Go.Proofs.YtllpfojkbeloeaaDoor
open Go.RowKit Go.QK

set_option maxRecDepth 100000 in
theorem which_any (k : Int) (wh : Bool) (n : Nat) (i at_ size : Int) (ab : Option Addr) (lb cb : Nat) (ap : Option Addr) (lp cp : Nat) (w : World) :
    Calls Tryd.prog 42 #[.agg (opC k wh n i at_ size ab lb cb ap lp cp)] w fun e w' => e = .returned (.int .i64 ((if wh then 1 else 0 : Nat) : Int)) ∧ Below w.heap.size w w' := by
  cases wh with
  | false =>
    go_enter Tryd.func42, Tryd.ntmps42
    go_wp2_with fail
    go_ret
    exact ⟨rfl, (Below.refl _ _).alloc (Nat.le_refl _) _⟩
  | true =>
    go_enter Tryd.func42, Tryd.ntmps42
    go_wp2_with fail
    go_ret
    exact ⟨rfl, (Below.refl _ _).alloc (Nat.le_refl _) _⟩

/-- What the table holds of one side: the writer (block p, row v, what was written l), what is said beside it (s, sl), the reader (r, ra, rc) and the document's (d, da, dc), each over x, at pos, with fault e. -/
structure Side where
  p : Nat
  v : Value
  l : List Nat
  s : Value
  sl : List Nat
  r : Nat
  ra : Option Addr
  rc : Nat
  x : List Nat
  pos : Nat
  e : Nat
  d : Nat
  da : Option Addr
  dc : Nat
  y : List Nat
  qos : Nat
  f : Nat

def ptrAt (p : Nat) : Value := .pointer (some ⟨p, 0, none⟩)
def tcs (sd : Nat → Side) (vL vM : Value) : List Value :=
  [ptrAt (sd 0).p, ptrAt (sd 1).p, (sd 0).s, (sd 1).s, ptrAt (sd 0).r, ptrAt (sd 1).r, ptrAt (sd 0).d, ptrAt (sd 1).d, vL, vM]

/-- A reader with its label. -/
def RdL (w : World) (lab : Nat → Nat) (B L p : Nat) (a : Option Addr) (c : Nat) (x : List Nat) (pos e : Nat) : Prop :=
  Rd w p a c x pos e ∧ lab p = L ∧ B ≤ p ∧ (x ≠ [] → ∀ ad, a = some ad → lab ad.block = L ∧ B ≤ ad.block)
/-- An entry of the book with its label. -/
def EntL (w : World) (lab : Nat → Nat) (L : Nat) (v u : Value) (m : Nat) : Prop :=
  BEnt w v u m ∧ (∀ b, v.ownBlock = some b → b < w.heap.size ∧ lab b = L) ∧ (∀ b, u.ownBlock = some b → b < w.heap.size ∧ lab b = L)

section
variable {S : Nat → Prop} {w w' : World} {lab lab' : Nat → Nat} {B L : Nat}
theorem ne_bytes {a : Option Addr} {x : List Nat} (h : Bytes w a x) (hx : x ≠ []) : ∀ ad, a = some ad → ad.block < w.heap.size := by
  intro ad had
  rcases h with q | ⟨b, off, q, hlt, _⟩
  · cases x with
    | nil => exact (hx rfl).elim
    | cons y x => simp [ints] at q
  · rw [had] at q
    cases q
    exact hlt
theorem RdL.keep {p : Nat} {a : Option Addr} {c : Nat} {x : List Nat} {pos e : Nat} (h : RdL w lab B L p a c x pos e) (hk : Keep S w w') (hl : ∀ b, b < w.heap.size → lab' b = lab b) (hn : ∀ b, S b → lab b ≠ L) : RdL w' lab' B L p a c x pos e := by
  obtain ⟨h1, h2, h3, h4⟩ := h
  have hp : ¬ S p := fun q => hn p q h2
  refine ⟨⟨h1.1.keep hk hp, ?_, h1.2.2⟩, (hl p h1.1.1).trans h2, h3, fun hx ad had => ⟨(hl _ (ne_bytes h1.2.1 hx ad had)).trans (h4 hx ad had).1, (h4 hx ad had).2⟩⟩
  by_cases hx : x = []
  · subst hx; exact .inl rfl
  · exact Seen.keep h1.2.1 hk (fun ad had q => hn _ q (h4 hx ad had).1)
theorem EntL.keep {v u : Value} {m : Nat} (h : EntL w lab L v u m) (hk : Keep S w w') (hl : ∀ b, b < w.heap.size → lab' b = lab b) (hn : ∀ b, S b → lab b ≠ L) : EntL w' lab' L v u m := by
  obtain ⟨⟨a, n, c, a', c', rfl, rfl, h3, h4, h5⟩, h6, h7⟩ := h
  refine ⟨⟨a, n, c, a', c', rfl, rfl, Seen.keep h3 hk (fun ad had q => hn _ q (h6 _ (by rw [had]; rfl)).2), Seen.keep h4 hk (fun ad had q => hn _ q (h7 _ (by rw [had]; rfl)).2), h5⟩, fun b hb => ?_, fun b hb => ?_⟩
  · exact ⟨Nat.lt_of_lt_of_le (h6 b hb).1 hk.size, (hl b (h6 b hb).1).trans (h6 b hb).2⟩
  · exact ⟨Nat.lt_of_lt_of_le (h7 b hb).1 hk.size, (hl b (h7 b hb).1).trans (h7 b hb).2⟩
end

/-- The table, but for what bears a label of X. -/
structure TbX (X : Nat → Prop) (w : World) (lab : Nat → Nat) (B t : Nat) (sd : Nat → Side) (vL vM : Value) (Ls Ms : List Value) : Prop where
  base : B ≤ w.heap.size
  tB : B ≤ t
  lt : lab t = 0
  tl : t < w.heap.size
  tb : ¬ X 0 → Cells w t (tcs sd vL vM)
  wr : ∀ i, i < 2 → ¬ X (10 * i + 1) → Wr w B (sd i).p (sd i).v (sd i).l ∧ ∀ b, wS (sd i).p (sd i).v b → lab b = 10 * i + 1
  sa : ∀ i, i < 2 → ¬ X (10 * i + 2) → OwnB w B (sd i).s (sd i).sl ∧ ∀ b, (sd i).s.ownBlock = some b → lab b = 10 * i + 2
  rd : ∀ i, i < 2 → ¬ X (10 * i + 3) → RdL w lab B (10 * i + 3) (sd i).r (sd i).ra (sd i).rc (sd i).x (sd i).pos (sd i).e
  rr : ∀ i, i < 2 → ¬ X (10 * i + 4) → RdL w lab B (10 * i + 4) (sd i).d (sd i).da (sd i).dc (sd i).y (sd i).qos (sd i).f
  rL : ¬ X 5 → SRow w B vL Ls ∧ ∀ b, vL.ownBlock = some b → lab b = 5
  rM : ¬ X 6 → SRow w B vM Ms ∧ ∀ b, vM.ownBlock = some b → lab b = 6
  len : Ms.length = Ls.length
  low : ∀ b, b < B → lab b = 7
  en : ∀ k (h : k < Ls.length) (h' : k < Ms.length), ¬ X (100 + k) → EntL w lab (100 + k) Ls[k] Ms[k] (mk k)

/-- What happens to blocks of labels in Y leaves all else. -/
theorem TbX.keep {X Y S : Nat → Prop} {w w' : World} {lab lab' : Nat → Nat} {B t : Nat} {sd : Nat → Side} {vL vM : Value} {Ls Ms : List Value} (h : TbX X w lab B t sd vL vM Ls Ms) (hk : Keep S w w') (hl : ∀ b, b < w.heap.size → lab' b = lab b) (hS : ∀ b, S b → Y (lab b)) :
    TbX (fun l => X l ∨ Y l) w' lab' B t sd vL vM Ls Ms := by
  have ne : ∀ {L}, ¬ Y L → ∀ b, S b → lab b ≠ L := fun hY b hb q => hY (q ▸ hS b hb)
  refine ⟨Nat.le_trans h.base hk.size, h.tB, (hl t h.tl).trans h.lt, Nat.lt_of_lt_of_le h.tl hk.size, ?_, ?_, ?_, ?_, ?_, ?_, ?_, h.len, fun b hb => (hl b (Nat.lt_of_lt_of_le hb h.base)).trans (h.low b hb), ?_⟩
  · intro hX
    exact (h.tb (fun q => hX (.inl q))).keep hk (fun q => ne (fun q => hX (.inr q)) t q h.lt)
  · intro i hi hX
    obtain ⟨h1, h2⟩ := h.wr i hi (fun q => hX (.inl q))
    exact ⟨h1.keep hk (fun b hb q => ne (fun q => hX (.inr q)) b q (h2 b hb)), fun b hb => (hl b (h1.lt b hb).2).trans (h2 b hb)⟩
  · intro i hi hX
    obtain ⟨h1, h2⟩ := h.sa i hi (fun q => hX (.inl q))
    exact ⟨Owns.keep h1 hk (fun b hb q => ne (fun q => hX (.inr q)) b q (h2 b hb)), fun b hb => (hl b (World.ownsRow.lt h1 b hb).2).trans (h2 b hb)⟩
  · intro i hi hX
    exact (h.rd i hi (fun q => hX (.inl q))).keep hk hl (ne (fun q => hX (.inr q)))
  · intro i hi hX
    exact (h.rr i hi (fun q => hX (.inl q))).keep hk hl (ne (fun q => hX (.inr q)))
  · intro hX
    obtain ⟨h1, h2⟩ := h.rL (fun q => hX (.inl q))
    exact ⟨h1.keep hk (fun b hb q => ne (fun q => hX (.inr q)) b q (h2 b hb)), fun b hb => (hl b (h1.lt b hb).2).trans (h2 b hb)⟩
  · intro hX
    obtain ⟨h1, h2⟩ := h.rM (fun q => hX (.inl q))
    exact ⟨h1.keep hk (fun b hb q => ne (fun q => hX (.inr q)) b q (h2 b hb)), fun b hb => (hl b (h1.lt b hb).2).trans (h2 b hb)⟩
  · intro k h1 h2 hX
    exact (h.en k h1 h2 (fun q => hX (.inl q))).keep hk hl (ne (fun q => hX (.inr q)))

abbrev Tb := TbX (fun _ => False)
theorem Tb.below {w w' : World} {lab lab' : Nat → Nat} {B t : Nat} {sd : Nat → Side} {vL vM : Value} {Ls Ms : List Value} (h : Tb w lab B t sd vL vM Ls Ms) (hk : Below w.heap.size w w') (hl : ∀ b, b < w.heap.size → lab' b = lab b) : Tb w' lab' B t sd vL vM Ls Ms := by
  have q := h.keep (S := fun _ => False) (Y := fun _ => False) (Keep.of_below hk) hl (fun _ q => q)
  have n : ¬ (False ∨ False) := fun q => q.elim id id
  exact ⟨q.base, q.tB, q.lt, q.tl, fun _ => q.tb n, fun i hi _ => q.wr i hi n, fun i hi _ => q.sa i hi n, fun i hi _ => q.rd i hi n, fun i hi _ => q.rr i hi n, fun _ => q.rL n, fun _ => q.rM n, q.len, q.low, fun k h1 h2 _ => q.en k h1 h2 n⟩
end Go.Proofs.YtllpfojkbeloeaaDoor
