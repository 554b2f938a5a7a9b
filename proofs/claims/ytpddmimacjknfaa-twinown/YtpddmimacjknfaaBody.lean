import Derived.Test.YtpddmimacjknfaaDisk
namespace Go.QK
open Go.RowKit

/-! A device in memory. -/

/-- A pending write in memory: its sector, the block of its bytes, their room, the bytes. -/
structure PE where
  s : Nat
  k : Nat
  c : Nat
  b : List Nat
def PE.out (p : PE) : Nat × List Nat := (p.s, p.b)
def PE.v (p : PE) : Value := .slice (some ⟨p.k, 0, none⟩) p.b.length p.c
def rowOf (ps : List PE) : List Value := ps.flatMap fun p => [.int .i64 (p.s : Int), p.v]
theorem rowOf_append (ps qs : List PE) : rowOf (ps ++ qs) = rowOf ps ++ rowOf qs := by simp [rowOf]
theorem rowOf_length (ps : List PE) : (rowOf ps).length = ps.length * 2 := by
  induction ps with
  | nil => rfl
  | cons p ps ih => simp only [rowOf, List.flatMap_cons, List.length_append] at *; simp [ih]; omega
theorem rowOf_get : (ps : List PE) → (k : Nat) → (h : k < ps.length) → (rowOf ps)[k * 2]? = some (.int .i64 (ps[k].s : Int)) ∧ (rowOf ps)[k * 2 + 1]? = some ps[k].v
  | [], k, h => by simp at h
  | p :: ps, 0, h => ⟨rfl, rfl⟩
  | p :: ps, k + 1, h => by
    have := rowOf_get ps k (by simpa using h)
    have e : rowOf (p :: ps) = .int .i64 (p.s : Int) :: p.v :: rowOf ps := rfl
    rw [e]
    refine ⟨?_, ?_⟩
    · rw [show (k + 1) * 2 = k * 2 + 1 + 1 by omega]
      simpa using this.1
    · rw [show (k + 1) * 2 + 1 = (k * 2 + 1) + 1 + 1 by omega]
      simpa using this.2

/-- A row of pending writes (pending writes are of type 65). -/
def PRow (w : World) (B : Nat) (v : Value) (ps : List PE) : Prop := w.ownsRow B 102 2 v ps.length (rowOf ps)

section
variable {w w' : World} {B : Nat} {v : Value} {ps : List PE} {S : Nat → Prop}
theorem PRow.nil (w : World) (B : Nat) : PRow w B (.slice none 0 0) [] := World.ownsRow_nil _ _ _ _
theorem PRow.lt (h : PRow w B v ps) : ∀ b, v.ownBlock = some b → B ≤ b ∧ b < w.heap.size := fun b hb => World.ownsRow.lt h b hb
theorem PRow.keep (h : PRow w B v ps) (hb : Keep S w w') (hn : ∀ g, v.ownBlock = some g → ¬ S g) : PRow w' B v ps := by
  refine ⟨h.1, ?_⟩
  rcases h.2 with q | ⟨g, cap, cur, q, hbg, hg, rest⟩
  · exact .inl q
  · have hlt := (World.ownsRow.lt h g (by rw [q]; rfl)).2
    exact .inr ⟨g, cap, cur, q, hbg, (hb.block g hlt (hn g (by rw [q]; rfl))).trans hg, rest⟩
theorem PRow.form (h : PRow w B v ps) : ∃ a c, v = .slice a ps.length c ∧ (a = none → c = 0) ∧ ps.length ≤ c ∧ c ≤ maxLen ∧ ∀ k (hk : k < ps.length), ∃ b, a = some ⟨b, 0, none⟩ ∧ b < w.heap.size ∧ w.cell? ⟨b, k * 2, none⟩ = some (.int .i64 (ps[k].s : Int)) ∧ w.cell? ⟨b, k * 2 + 1, none⟩ = some ps[k].v := by
  rcases h.2 with ⟨rfl, hn⟩ | ⟨g, cap, cur, rfl, hb, hg, hle, hm, hs, ht⟩
  · have : ps = [] := List.eq_nil_of_length_eq_zero hn
    subst this
    exact ⟨none, 0, rfl, fun _ => rfl, Nat.le_refl _, by unfold maxLen; omega, nofun⟩
  · refine ⟨_, cap, rfl, nofun, hle, hm, fun k hk => ⟨g, rfl, (World.ownsRow.lt h g rfl).2, ?_, ?_⟩⟩
    · have := World.ownsRow.cells h (g := g) rfl (k * 2) _ (rowOf_get ps k hk).1
      rw [addr_add, Nat.zero_add] at this
      exact this
    · have := World.ownsRow.cells h (g := g) rfl (k * 2 + 1) _ (rowOf_get ps k hk).2
      rw [addr_add, Nat.zero_add] at this
      exact this
end

/-- All of a device but its own block. -/
structure Body (w : World) (S : Nat → Prop) (d : Nat) (img : List Nat) (loss : Option Loss) (ib ic : Nat) (pv : Value) (ps : List PE) (kv : Value) (to off : Int) : Prop where
  dS : S d
  img : OwnB w 0 (.slice (some ⟨ib, 0, none⟩) img.length ic) img
  iS : S ib ∧ ib ≠ d
  row : PRow w 0 pv ps
  rS : ∀ b, pv.ownBlock = some b → S b ∧ b ≠ d ∧ b ≠ ib
  en : ∀ p ∈ ps, Bytes w (some ⟨p.k, 0, none⟩) p.b ∧ p.b.length ≤ p.c ∧ p.c ≤ maxLen ∧ S p.k ∧ p.k ≠ d ∧ p.k ≠ ib ∧ pv.ownBlock ≠ some p.k
  loss : ∀ l, loss = some l → to = l.torn ∧ off = l.off ∧ ∃ a c, kv = .slice a l.keep.length c ∧ Seen .u64 w a (ints l.keep) ∧ (a = none → c = 0) ∧ ∀ ad, a = some ad → S ad.block ∧ ad.block ≠ d ∧ ad.block ≠ ib ∧ pv.ownBlock ≠ some ad.block
  lt : ∀ b, S b → b < w.heap.size

section
variable {w w' : World} {S T S' : Nat → Prop} {d : Nat} {img : List Nat} {loss : Option Loss} {ib ic : Nat} {pv : Value} {ps : List PE} {kv : Value} {to off : Int}
theorem Body.keep (h : Body w S d img loss ib ic pv ps kv to off) (hk : Keep T w w') (hT : ∀ b, T b → S b → b = d) : Body w' S d img loss ib ic pv ps kv to off := by
  have nd : ∀ {b}, S b → b ≠ d → ¬ T b := fun hs hn ht => hn (hT _ ht hs)
  refine ⟨h.dS, Owns.keep h.img hk (fun g hg => ?_), h.iS, h.row.keep hk (fun g hg => nd (h.rS g hg).1 (h.rS g hg).2.1), h.rS, fun p hp => ?_, fun l hl => ?_, fun b hb => Nat.lt_of_lt_of_le (h.lt b hb) hk.size⟩
  · have e : ib = g := Option.some.inj hg
    subst e
    exact nd h.iS.1 h.iS.2
  · obtain ⟨h1, h2, h2', h3, h4, h5, h6⟩ := h.en p hp
    exact ⟨Seen.keep h1 hk (fun ad had => by cases had; exact nd h3 h4), h2, h2', h3, h4, h5, h6⟩
  · obtain ⟨h1, h2, a, c, h3, h4, h5, h6⟩ := h.loss l hl
    exact ⟨h1, h2, a, c, h3, Seen.keep h4 hk (fun ad had => nd (h6 ad had).1 (h6 ad had).2.1), h5, h6⟩
theorem Body.set (h : Body w S d img loss ib ic pv ps kv to off) (j : Nat) (y : Value) : Body (w.setCell ⟨d, j, none⟩ y) S d img loss ib ic pv ps kv to off :=
  h.keep (T := fun b => b = d) ((Keep.refl (fun b => b = d) w).setCell (fun _ => rfl) _) (fun _ q _ => q)
theorem Body.below (h : Body w S d img loss ib ic pv ps kv to off) (hk : Below w.heap.size w w') : Body w' S d img loss ib ic pv ps kv to off := h.keep (Keep.of_below (S := fun _ => False) hk) (fun _ q => q.elim)
/-- The image's block was written over. -/
theorem Body.image {img' : List Nat} (h : Body w S d img loss ib ic pv ps kv to off) (hk : Keep (fun b => b = ib) w w') (hi : OwnB w' 0 (.slice (some ⟨ib, 0, none⟩) img'.length ic) img') : Body w' S d img' loss ib ic pv ps kv to off := by
  refine ⟨h.dS, hi, h.iS, h.row.keep hk (fun g hg => (h.rS g hg).2.2), h.rS, fun p hp => ?_, fun l hl => ?_, fun b hb => Nat.lt_of_lt_of_le (h.lt b hb) hk.size⟩
  · obtain ⟨h1, h2, h2', h3, h4, h5, h6⟩ := h.en p hp
    exact ⟨Seen.keep h1 hk (fun ad had => by cases had; exact h5), h2, h2', h3, h4, h5, h6⟩
  · obtain ⟨h1, h2, a, c, h3, h4, h5, h6⟩ := h.loss l hl
    exact ⟨h1, h2, a, c, h3, Seen.keep h4 hk (fun ad had => (h6 ad had).2.2.1), h5, h6⟩
/-- No pending writes any more. -/
theorem Body.drop (h : Body w S d img loss ib ic pv ps kv to off) : Body w S d img loss ib ic (.slice none 0 0) [] kv to off :=
  ⟨h.dS, h.img, h.iS, PRow.nil _ _, nofun, nofun, fun l hl => (by
    obtain ⟨h1, h2, a, c, h3, h4, h5, h6⟩ := h.loss l hl
    exact ⟨h1, h2, a, c, h3, h4, h5, fun ad had => ⟨(h6 ad had).1, (h6 ad had).2.1, (h6 ad had).2.2.1, nofun⟩⟩), h.lt⟩
/-- Whatever the loss was. -/
theorem Body.forget (h : Body w S d img loss ib ic pv ps kv to off) (kv' : Value) (to' off' : Int) : Body w S d img none ib ic pv ps kv' to' off' := ⟨h.dS, h.img, h.iS, h.row, h.rS, h.en, nofun, h.lt⟩
end

def pcs (iv pv : Value) (g : Dev) (kv : Value) (to off : Int) : List Value := [iv, pv, .int .i64 (g.calls : Int), .bool g.down, .int .i64 (g.left : Int), kv, .int .i64 to, .int .i64 off]
def rcs (iv pv : Value) (g : Dev) (kv : Value) (to off : Int) : List Value := [iv, pv, .bool g.down, .int .i64 (g.calls : Int), .int .i64 (g.left : Int), kv, .int .i64 to, .int .i64 off]

/-- The device g lies at block d, in the blocks of S. -/
def DevAt (cs : Value → Value → Dev → Value → Int → Int → List Value) (w : World) (S : Nat → Prop) (d : Nat) (g : Dev) : Prop :=
  ∃ ib ic pv ps kv to off, Cells w d (cs (.slice (some ⟨ib, 0, none⟩) g.img.length ic) pv g kv to off) ∧ Body w S d g.img g.loss ib ic pv ps kv to off ∧ g.pend = ps.map PE.out ∧ g.Ok
abbrev PDev := DevAt pcs
abbrev RDev := DevAt rcs

theorem DevAt.keep {cs : Value → Value → Dev → Value → Int → Int → List Value} {w w' : World} {S T : Nat → Prop} {d : Nat} {g : Dev} (h : DevAt cs w S d g) (hk : Keep T w w') (hT : ∀ b, T b → ¬ S b) : DevAt cs w' S d g := by
  obtain ⟨ib, ic, pv, ps, kv, to, off, h1, h2, h3, h4⟩ := h
  exact ⟨ib, ic, pv, ps, kv, to, off, h1.keep hk (fun q => hT d q h2.dS), h2.keep hk (fun b q r => (hT b q r).elim), h3, h4⟩
theorem DevAt.below {cs : Value → Value → Dev → Value → Int → Int → List Value} {w w' : World} {S : Nat → Prop} {d : Nat} {g : Dev} (h : DevAt cs w S d g) (hk : Below w.heap.size w w') : DevAt cs w' S d g := h.keep (Keep.of_below (S := fun _ => False) hk) (fun _ q => q.elim)
theorem DevAt.lt {cs : Value → Value → Dev → Value → Int → Int → List Value} {w : World} {S : Nat → Prop} {d : Nat} {g : Dev} (h : DevAt cs w S d g) : ∀ b, S b → b < w.heap.size := by
  obtain ⟨ib, ic, pv, ps, kv, to, off, h1, h2, h3, h4⟩ := h
  exact h2.lt
theorem DevAt.ok {cs : Value → Value → Dev → Value → Int → Int → List Value} {w : World} {S : Nat → Prop} {d : Nat} {g : Dev} (h : DevAt cs w S d g) : g.Ok := by
  obtain ⟨ib, ic, pv, ps, kv, to, off, h1, h2, h3, h4⟩ := h
  exact h4

/-- From the world w with the blocks S to w' with S': only blocks of S, and new ones. -/
def Step (w : World) (S : Nat → Prop) (w' : World) (S' : Nat → Prop) : Prop := Keep S w w' ∧ ∀ k, S' k → S k ∨ w.heap.size ≤ k
theorem Step.refl (w : World) (S : Nat → Prop) : Step w S w S := ⟨Keep.refl _ _, fun _ h => .inl h⟩
theorem Step.of_keep {w w' : World} {S : Nat → Prop} (h : Keep S w w') : Step w S w' S := ⟨h, fun _ h => .inl h⟩
theorem Step.of_below {w w' : World} {S : Nat → Prop} (h : Below w.heap.size w w') : Step w S w' S := ⟨Keep.of_below h, fun _ h => .inl h⟩
theorem Step.trans {w w1 w2 : World} {S S1 S2 : Nat → Prop} (h : Step w S w1 S1) (k : Step w1 S1 w2 S2) : Step w S w2 S2 := by
  refine ⟨h.1.trans k.1 (fun j hj hs => ?_), fun b hb => ?_⟩
  · rcases h.2 j hs with q | q
    · exact q
    · omega
  · rcases k.2 b hb with q | q
    · exact h.2 b q
    · exact .inr (Nat.le_trans h.1.size q)
/-- What lies apart from a device stays apart. -/
theorem Step.apart {w w' : World} {S S' T : Nat → Prop} (h : Step w S w' S') (hT : ∀ b, T b → b < w.heap.size) (ha : ∀ b, T b → ¬ S b) : ∀ b, T b → ¬ S' b := by
  intro b hb hs
  rcases h.2 b hs with q | q
  · exact ha b hb q
  · have := hT b hb; omega
end Go.QK
