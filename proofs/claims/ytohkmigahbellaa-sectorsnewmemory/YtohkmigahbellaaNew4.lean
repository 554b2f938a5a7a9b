import Derived.Test.YtohkmigahbellaaNew3
namespace Go.Proofs.Ytohkmigahbellaa
open Go.RowKit Go.QK

/-- A row of pending writes that was handed out: its block, its length. -/
structure CR where
  r : Nat
  n : Nat
def CR.v (c : CR) : Value := .slice (some ⟨c.r, 0, none⟩) c.n c.n

/-- The rows that were handed out: label 4 their own row, 12 + 3i the i-th. -/
structure Caches (w : World) (lab : Nat → Nat) (B : Nat) (cv : Value) (cs : List CR) : Prop where
  row : SRow 45 w B cv (cs.map CR.v)
  lc : ∀ b, cv.ownBlock = some b → lab b = 4
  ci : ∀ i (h : i < cs.length), (∃ L, w.ownsRow B 65 2 cs[i].v cs[i].n L) ∧ lab cs[i].r = 12 + 3 * i ∧ cs[i].n ≤ 1000
theorem row_keep {w w' : World} {B : Nat} {e size : Nat} {v : Value} {n : Nat} {L : List Value} {V : Nat → Prop} (h : w.ownsRow B e size v n L) (hk : Keep V w w') (hn : ∀ g, v.ownBlock = some g → ¬ V g) : w'.ownsRow B e size v n L := by
  refine ⟨h.1, ?_⟩
  rcases h.2 with q | ⟨g, cap, cur, q, hbg, hg, rest⟩
  · exact .inl q
  · have hlt := (World.ownsRow.lt h g (by rw [q]; rfl)).2
    exact .inr ⟨g, cap, cur, q, hbg, (hk.block g hlt (hn g (by rw [q]; rfl))).trans hg, rest⟩
theorem Caches.lt {w : World} {lab : Nat → Nat} {B : Nat} {cv : Value} {cs : List CR} (h : Caches w lab B cv cs) (i : Nat) (hi : i < cs.length) : cs[i].r < w.heap.size := by
  obtain ⟨⟨L, hL⟩, _⟩ := h.ci i hi
  exact (World.ownsRow.lt hL cs[i].r rfl).2
theorem Caches.keep {w w' : World} {lab lab' : Nat → Nat} {B : Nat} {cv : Value} {cs : List CR} {V : Nat → Prop} (h : Caches w lab B cv cs) (hk : Keep V w w') (hV : ∀ b, V b → lab b ≠ 4 ∧ ∀ i, lab b ≠ 12 + 3 * i) (hl : ∀ b, b < w.heap.size → lab' b = lab b) : Caches w' lab' B cv cs := by
  refine ⟨h.row.keep hk (fun b hb q => (hV b q).1 (h.lc b hb)), fun b hb => (hl _ (h.row.lt b hb).2).trans (h.lc b hb), fun i hi => ?_⟩
  obtain ⟨⟨L, hL⟩, h2, h3⟩ := h.ci i hi
  exact ⟨⟨L, row_keep hL hk (fun g hg q => by
    have e : cs[i].r = g := Option.some.inj hg
    exact (hV g q).2 i (e ▸ h2))⟩, (hl _ (h.lt i hi)).trans h2, h3⟩

/-- All of it: the device, what was handed out. -/
structure St (B : Nat) (w0 w : World) (S : Nat → Prop) (d : Nat) (g : Dev) (lab : Nat → Nat) (hb : Nat) (gv wv : Value) (gs ws : List PE) (cv : Value) (cs : List CR) (x : Nat) : Prop where
  live : Live B w0 w S d g
  up : g.down = false ∧ g.left = 0 ∧ g.img.length = 512 * (1 + x)
  ls : ∀ b, S b → lab b = 0
  held : Held w lab B hb gv wv gs ws
  cach : Caches w lab B cv cs
  lo : ∀ b, b < B → lab b = 8
section
variable {B : Nat} {w0 w w' : World} {S S' : Nat → Prop} {d : Nat} {g g' : Dev} {lab lab' : Nat → Nat} {hb : Nat} {gv wv gv' wv' cv cv' : Value} {gs ws gs' ws' : List PE} {cs cs' : List CR} {x : Nat}
theorem St.size (h : St B w0 w S d g lab hb gv wv gs ws cv cs x) : B ≤ w.heap.size := Nat.le_trans h.live.le h.live.bel.size
theorem St.dev (h : St B w0 w S d g lab hb gv wv gs ws cv cs x) (hd : PDev w' S' d g') (hs : Step w S w' S') (hu : g'.down = false ∧ g'.left = 0 ∧ g'.img.length = 512 * (1 + x)) : ∃ lab', St B w0 w' S' d g' lab' hb gv wv gs ws cv cs x := by
  have old : ∀ b, b < w.heap.size → (fun b => if b < w.heap.size then lab b else 0) b = lab b := fun b hb => if_pos hb
  refine ⟨fun b => if b < w.heap.size then lab b else 0, h.live.step hd hs, hu, fun b q => ?_, h.held.keep hs.1 (fun b q => .inl (h.ls b q)) old, h.cach.keep hs.1 (fun b q => ⟨by have := h.ls b q; omega, fun i => by have := h.ls b q; omega⟩) old, fun b hb => (old b (Nat.lt_of_lt_of_le hb h.size)).trans (h.lo b hb)⟩
  rcases hs.2 b q with r | r
  · exact (old b (h.live.dev.lt b r)).trans (h.ls b r)
  · show (if b < w.heap.size then lab b else 0) = 0
    rw [if_neg (by omega)]
/-- New blocks, labelled as one likes. -/
theorem St.fresh (h : St B w0 w S d g lab hb gv wv gs ws cv cs x) (hb' : Below w.heap.size w w') (hl : ∀ b, b < w.heap.size → lab' b = lab b) : St B w0 w' S d g lab' hb gv wv gs ws cv cs x :=
  ⟨h.live.below hb', h.up, fun b q => (hl b (h.live.dev.lt b q)).trans (h.ls b q), h.held.keep (Keep.of_below (S := fun _ => False) hb') (fun _ q => q.elim) hl, h.cach.keep (Keep.of_below (S := fun _ => False) hb') (fun _ q => q.elim) hl, fun b q => (hl b (Nat.lt_of_lt_of_le q h.size)).trans (h.lo b q)⟩
theorem St.below (h : St B w0 w S d g lab hb gv wv gs ws cv cs x) (hb' : Below w.heap.size w w') : St B w0 w' S d g lab hb gv wv gs ws cv cs x := h.fresh hb' (fun _ _ => rfl)
theorem Live.other {V : Nat → Prop} (h : Live B w0 w S d g) (hk : Keep V w w') (hV : ∀ b, V b → ¬ S b) (hB : ∀ b, b < w.heap.size → V b → B ≤ b) : Live B w0 w' S d g :=
  ⟨h.dev.keep hk hV, h.far, h.bel.trans (hk.below (Nat.le_trans h.le h.bel.size) (fun j hj q => by have := hB j (Nat.lt_of_lt_of_le hj (Nat.le_trans h.le h.bel.size)) q; omega)), h.le⟩
/-- Something was taken. -/
theorem St.took (h : St B w0 w S d g lab hb gv wv gs ws cv cs x) (hh : Held w' lab' B hb gv' wv' gs' ws') (hl : ∀ b, b < w.heap.size → lab' b = lab b) (hk : Keep (fun b => lab b = 1 ∨ lab b = 2 ∨ lab b = 3) w w') : St B w0 w' S d g lab' hb gv' wv' gs' ws' cv cs x := by
  refine ⟨h.live.other hk (fun b q r => by have := h.ls b r; omega) (fun b _ q => Nat.le_of_not_lt fun r => by have := h.lo b r; omega), h.up, fun b q => (hl b (h.live.dev.lt b q)).trans (h.ls b q), hh, h.cach.keep hk (fun b q => ⟨by omega, fun i => by omega⟩) hl, fun b q => (hl b (Nat.lt_of_lt_of_le q h.size)).trans (h.lo b q)⟩
/-- The row of rows grew. -/
theorem St.rows (h : St B w0 w S d g lab hb gv wv gs ws cv cs x) (hc : Caches w' lab' B cv' cs') (hl : ∀ b, b < w.heap.size → lab' b = lab b) (hk : Keep (fun b => lab b = 4) w w') : St B w0 w' S d g lab' hb gv wv gs ws cv' cs' x := by
  refine ⟨h.live.other hk (fun b q r => by have := h.ls b r; have q : lab b = 4 := q; omega) (fun b _ q => Nat.le_of_not_lt fun r => by have := h.lo b r; have q : lab b = 4 := q; omega), h.up, fun b q => (hl b (h.live.dev.lt b q)).trans (h.ls b q), h.held.keep hk (fun b q => .inr q) hl, hc, fun b q => (hl b (Nat.lt_of_lt_of_le q h.size)).trans (h.lo b q)⟩
end

/-- Marks of the rows. -/
def mkS (k i : Nat) : Int := -1000 * ((k : Int) + 1) - (i : Int)
theorem wroteD_up (g : Dev) (ps : List (Int × Nat)) : (wroteD g ps).down = g.down ∧ (wroteD g ps).left = g.left ∧ (wroteD g ps).img = g.img ∧ (wroteD g ps).pend.length = g.pend.length + ps.length ∧ (wroteD g ps).calls = g.calls + ps.length := by
  simp [wroteD]
end Go.Proofs.Ytohkmigahbellaa
