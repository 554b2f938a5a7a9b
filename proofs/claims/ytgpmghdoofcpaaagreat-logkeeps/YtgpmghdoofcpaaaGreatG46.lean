import Derived.Test.YtgpmghdoofcpaaaGreatLgW
import Derived.Test.YtgpmghdoofcpaaaGreatG42
namespace Go.Proofs.YtgpmghdoofcpaaaGreat.Lg
open Go.RowKit Go.QK

/-! Up, Arm, Load: what stands goes on standing. -/
section
variable {g : Dev} {first count k : Nat} {bs : List (List Nat)} {X : Nat → List Nat}
theorem Wip.up (h : Wip g first count bs k X) : Wip g.up first count bs k X := ⟨h.st, h.len, h.n, h.pend, .inl rfl, h.side⟩
theorem up_down (g : Dev) : g.up.down = false ∧ g.up.pend = g.pend ∧ g.up.calls = g.calls ∧ g.up.n = g.n := ⟨rfl, rfl, rfl, rfl⟩
theorem arm_eq (g : Dev) (hd : g.down = false) (step : Int) (hs : 0 ≤ step) (l : Loss) : g.arm step l = { g with left := step.toNat, loss := if 0 < step then some l else none } := by
  unfold Dev.arm
  rw [if_neg (by rw [hd]; simp; omega)]
theorem arm_still (g : Dev) (step : Int) (l : Loss) : (g.arm step l).down = g.down ∧ (g.arm step l).pend = g.pend ∧ (g.arm step l).calls = g.calls ∧ (g.arm step l).img = g.img ∧ (g.arm step l).n = g.n := by
  unfold Dev.arm
  split
  · exact ⟨rfl, rfl, rfl, rfl, rfl⟩
  · exact ⟨rfl, rfl, rfl, rfl, rfl⟩
theorem arm_armed (g : Dev) (hd : g.down = false) (step : Int) (hs : 0 ≤ step) (l : Loss) : Armed (g.arm step l) := by
  rw [arm_eq g hd step hs l]
  by_cases q : 0 < step
  · right
    exact ⟨l, if_pos q⟩
  · left
    show step.toNat = 0
    omega
theorem arm_zero (g : Dev) (hd : g.down = false) (l : Loss) : (g.arm 0 l).left = 0 := by
  rw [arm_eq g hd 0 (by decide) l]
  rfl
theorem Wip.arm' (h : Wip g first count bs k X) (hd : g.down = false) (step : Int) (hs : 0 ≤ step) (l : Loss) : Wip (g.arm step l) first count bs k X := by
  obtain ⟨_, e2, _, e4, e5⟩ := arm_still g step l
  refine ⟨by rw [e4]; exact h.st, by rw [e4]; exact h.len, by rw [e4, e5]; exact h.n, by rw [e2]; exact h.pend, arm_armed g hd step hs l, fun i hi hn => ?_⟩
  rw [e5] at hn
  rw [e4]
  exact h.side i hi hn
theorem Grw.arm' {m : LogM} (h : Grw g m X) (step : Int) (hs : 0 ≤ step) (l : Loss) : Grw (g.arm step l) m X := by
  obtain ⟨e1, e2, _, e4, e5⟩ := arm_still g step l
  exact ⟨by rw [e4, e5]; exact h.gi, by rw [e1]; exact h.down, by rw [e2]; exact h.pend, arm_armed g h.down step hs l, h.ended, h.ok⟩
/-- A copy of the image. -/
theorem Grw.load {m : LogM} (h : Grw g m X) : Wip (Dev.load g.img) m.first m.count m.recs m.forced X := by
  refine ⟨⟨h.gi.hfo, h.gi.yes, fun q => ?_⟩, h.gi.len, h.gi.nn, nofun, .inl rfl, h.gi.side⟩
  show Dead (sector g.img (m.first + m.forced))
  rw [h.gi.zer m.forced (Nat.le_refl _) q]
  exact Dead.zeros
/-- A fresh disk, and the log on it. -/
theorem Grw.new (n first count : Nat) (h1 : first + count ≤ n) (hp : first + count ≤ 10000) : Grw (Dev.new n) ⟨first, count, [], 0, false⟩ (fun _ => zerosB) := by
  have hl : (Dev.new n).img.length = 512 * n := List.length_replicate
  have hn : (Dev.new n).n = n := by unfold Dev.n; rw [hl]; omega
  have hz : ∀ i, i < n → sector (Dev.new n).img i = zerosB := fun i hi => new_content n i hi
  refine ⟨⟨?_, ?_, Nat.zero_le _, nofun, fun j _ hj => hz _ ?_, fun i _ hi => hz i ?_⟩, rfl, rfl, .inl rfl, rfl, ⟨Nat.zero_le _, hp, Nat.le_refl _⟩⟩
  · rw [hl]; show 512 * (first + count) ≤ _; omega
  · rw [hl, hn]
  · show first + j < n
    have : j < count := hj
    omega
  · omega
/-- The next Open of a disk on which zeros stand behind the records changes nothing. -/
theorem Wip.again {rs : List RecM} (h : Wip g first count bs k X) (hh : Holds rs bs) (hk : k ≤ rs.length) (hd : g.down = false) (hp : g.pend = []) (hf : 1 ≤ first) (hz : ∀ i, k ≤ i → i < count → sector g.img (first + i) = zerosB) : openE g first count = 0 ∧ openR g first count = bs.take k ∧ openD g first count = g := by
  obtain ⟨o1, o2, o3⟩ := h.open_ hh hk hd hp hf
  have e1 : settleE g = 0 := by unfold settleE; rw [hd, if_neg (by simp), if_pos hp]
  have e2 : settleD g = g := by unfold settleD; rw [hd, if_neg (by simp), if_pos hp]
  have hle := h.st.le
  have e4 : (bs.take k).length = k := by rw [List.length_take, hh.len]; omega
  have e5 : (fnd g first count).1 = bs.take k := by
    have := o1
    unfold openR at this
    rw [e2] at this
    exact this
  have e6 : (fnd g first count).2 = 0 := by
    have := o2
    unfold openAt at this
    rw [e1, if_neg (by simp), e2] at this
    exact this
  have e7 : wiped g first count k = (g, false, 0) := by
    unfold wiped
    refine wipeM_zeros first g false _ _ (fun i h3 h4 => ?_)
    have : g.content (first + i - 1) = sector g.img (first + i - 1) := by unfold Dev.content contentOf; rw [hp]; rfl
    rw [this, show first + i - 1 = first + (i - 1) by omega]
    exact hz (i - 1) (by omega) (by omega)
  refine ⟨?_, o1, ?_⟩
  · unfold openE
    rw [e1, if_neg (by simp), e2, e6, if_neg (by simp), e5, e4]
    unfold wipeE
    rw [e7]
    rfl
  · unfold openD
    rw [e1, if_neg (by simp), e2, e6, if_neg (by simp), e5, e4]
    unfold wipeD
    rw [e7]
    rfl
end
end Go.Proofs.YtgpmghdoofcpaaaGreat.Lg

namespace Go.Proofs.YtgpmghdoofcpaaaGreat.Lg
open Go.RowKit Go.QK
open Dv (hide bnext alloc_below LossAt)

/-! Rows of whatever cells, so many each. -/
def rowsC {α : Type} (f : α → List Value) (l : List α) : List Value := l.flatMap f
theorem rowsC_get {α : Type} (f : α → List Value) (n : Nat) (hf : ∀ x, (f x).length = n) (ls : List α) (k : Nat) (hk : k < ls.length) (j : Nat) (hj : j < n) : (rowsC f ls)[n * k + j]? = (f ls[k])[j]? := by
  induction ls generalizing k with
  | nil => simp at hk
  | cons l ls ih =>
    have hl := hf l
    cases k with
    | zero =>
      simp only [rowsC, List.flatMap_cons, Nat.mul_zero, Nat.zero_add]
      rw [List.getElem?_append_left (by omega)]
      rfl
    | succ k =>
      have e : n * (k + 1) = n * k + n := Nat.mul_succ n k
      simp only [rowsC, List.flatMap_cons]
      rw [List.getElem?_append_right (by omega)]
      have := ih k (by simpa using hk)
      simp only [List.getElem_cons_succ]
      rw [← this]
      show (rowsC f ls)[_]? = _
      congr 1
      omega
theorem Lies.rowAt {α : Type} {w : World} {a : Option Addr} (f : α → List Value) (n : Nat) (hf : ∀ x, (f x).length = n) {ls : List α} (h : Lies w a (rowsC f ls)) (k : Nat) (hk : k < ls.length) (hn : 0 < n) :
    ∃ b off, a = some ⟨b, off, none⟩ ∧ b < w.heap.size ∧ ∀ j v, (f ls[k])[j]? = some v → w.cell? ⟨b, off + k * n + j, none⟩ = some v := by
  rcases h with h | ⟨b, off, ha, hlt, hc⟩
  · have e := rowsC_get f n hf ls k hk 0 hn
    rw [h] at e
    have hl := hf ls[k]
    rw [List.getElem?_nil] at e
    have := List.getElem?_eq_none_iff.1 e.symm
    omega
  · refine ⟨b, off, ha, hlt, fun j v hv => ?_⟩
    have hj : j < n := by
      obtain ⟨hi, _⟩ := List.getElem?_eq_some_iff.1 hv
      have := hf ls[k]
      omega
    have e := rowsC_get f n hf ls k hk j hj
    rw [hv] at e
    obtain ⟨hi, hv'⟩ := List.getElem?_eq_some_iff.1 e
    have q := hc (n * k + j) hi
    rw [hv'] at q
    rw [← q]
    congr 2
    rw [Nat.mul_comm]
    omega

/-- A fall, and where its loss lies. -/
structure FallM where
  step : Int
  l : Loss
  a : Option Addr
  c : Nat
def fallC (f : FallM) : List Value := [.int .i64 f.step, .slice f.a f.l.keep.length f.c, .int .i64 f.l.torn, .int .i64 f.l.off]
/-- A record, and where its lists lie. -/
structure RecL where
  r : RecM
  la : Option Addr
  lc : Nat
  da : Option Addr
  dc : Nat
def recLC (x : RecL) : List Value := (recC x.r x.la x.lc x.da x.dc).toList
theorem recLC_length (x : RecL) : (recLC x).length = 17 := rfl
/-- A row of records in memory, with their lists. -/
structure RecsAt (w : World) (a : Option Addr) (xs : List RecL) : Prop where
  row : Lies w a (rowsC recLC xs)
  lists : ∀ x ∈ xs, Lies w x.la (liveCs x.r.live) ∧ Lies w x.da (dirtyCs x.r.dirty)
theorem RecsAt.below {w w' : World} {a : Option Addr} {xs : List RecL} (h : RecsAt w a xs) (b : Below w.heap.size w w') : RecsAt w' a xs := ⟨h.row.below b, fun x hx => ⟨(h.lists x hx).1.below b, (h.lists x hx).2.below b⟩⟩
structure FallsAt (w : World) (a : Option Addr) (xs : List FallM) : Prop where
  row : Lies w a (rowsC fallC xs)
  loss : ∀ x ∈ xs, LossAt w x.l x.a x.c
theorem FallsAt.fall {w : World} {a : Option Addr} {xs : List FallM} (h : FallsAt w a xs) (k : Nat) (hk : k < xs.length) : LossAt w xs[k].l xs[k].a xs[k].c ∧ ∃ b off, a = some ⟨b, off, none⟩ ∧ b < w.heap.size ∧ w.cell? ⟨b, off + k * 4, none⟩ = some (.int .i64 xs[k].step) ∧ w.cell? ⟨b, off + k * 4 + 1, none⟩ = some (.slice xs[k].a xs[k].l.keep.length xs[k].c) ∧ w.cell? ⟨b, off + k * 4 + 2, none⟩ = some (.int .i64 xs[k].l.torn) ∧ w.cell? ⟨b, off + k * 4 + 3, none⟩ = some (.int .i64 xs[k].l.off) := by
  refine ⟨h.loss _ (List.getElem_mem hk), ?_⟩
  obtain ⟨b, off, h1, h2, h3⟩ := Lies.rowAt fallC 4 (fun _ => rfl) h.row k hk (by decide)
  exact ⟨b, off, h1, h2, h3 0 _ rfl, h3 1 _ rfl, h3 2 _ rfl, h3 3 _ rfl⟩
end Go.Proofs.YtgpmghdoofcpaaaGreat.Lg

namespace Go.Proofs.YtgpmghdoofcpaaaGreat.Lg
open Go.RowKit Go.QK
open Dv (hide bnext alloc_below LossAt)
set_option maxRecDepth 100000

/-! Labels: of old blocks as they were, L of new ones. -/
def ext (lab : Nat → Nat) (n L : Nat) : Nat → Nat := fun b => if b < n then lab b else L
theorem ext_old {lab : Nat → Nat} {n L b : Nat} (h : b < n) : ext lab n L b = lab b := if_pos h
theorem ext_new {lab : Nat → Nat} {n L b : Nat} (h : n ≤ b) : ext lab n L b = L := if_neg (by omega)
/-- Cells that lie in a block with the label L. -/
def LiesL (w : World) (lab : Nat → Nat) (L : Nat) (a : Option Addr) (cs : List Value) : Prop :=
  cs = [] ∨ ∃ b off, a = some ⟨b, off, none⟩ ∧ b < w.heap.size ∧ lab b = L ∧ ∀ i (h : i < cs.length), w.cell? ⟨b, off + i, none⟩ = some cs[i]
theorem LiesL.lies {w : World} {lab : Nat → Nat} {L : Nat} {a : Option Addr} {cs : List Value} (h : LiesL w lab L a cs) : Lies w a cs := by
  rcases h with h | ⟨b, off, h1, h2, _, h3⟩
  · exact .inl h
  · exact .inr ⟨b, off, h1, h2, h3⟩
theorem LiesL.keep {S : Nat → Prop} {w w' : World} {lab lab' : Nat → Nat} {L : Nat} {a : Option Addr} {cs : List Value} (h : LiesL w lab L a cs) (hk : Keep S w w') (hS : ∀ b, S b → lab b ≠ L) (hl : ∀ b, b < w.heap.size → lab' b = lab b) : LiesL w' lab' L a cs := by
  rcases h with h | ⟨b, off, h1, h2, h3, h4⟩
  · exact .inl h
  · exact .inr ⟨b, off, h1, Nat.lt_of_lt_of_le h2 hk.size, (hl b h2).trans h3, fun i hi => (hk.cell (p := ⟨b, off + i, none⟩) h2 (fun q => hS b q h3)).trans (h4 i hi)⟩
theorem row_liesL {w : World} {B : Nat} {e : TypeId} {size n : Nat} {a : Option Addr} {c : Nat} {xs : List Value} (h : GRow w B e size (.slice a n c) n xs) (lab : Nat → Nat) (L : Nat) (hl : ∀ b, B ≤ b → lab b = L) : LiesL w lab L a xs := by
  obtain ⟨a', c', hv, hL, _, _, _, hsp⟩ := GRow.lies h
  cases hv
  rcases hL with q | ⟨b, off, ha, hlt, hc⟩
  · exact .inl q
  · refine .inr ⟨b, off, ha, hlt, hl b ?_, hc⟩
    subst ha
    obtain rfl : off = 0 := (hsp _ rfl).1
    exact (World.ownsRow.lt h b rfl).1
theorem RecOut.liesL {B : Nat} {w : World} {v : Value} {r : RecM} (h : RecOut B w v r) (lab : Nat → Nat) (L : Nat) (hl : ∀ b, B ≤ b → lab b = L) : ∃ (la da : Option Addr) (lc dc : Nat), v = .agg (recC r la lc da dc) ∧ LiesL w lab L la (liveCs r.live) ∧ LiesL w lab L da (dirtyCs r.dirty) := by
  obtain ⟨la, da, lc, dc, rfl, h1, h2, _⟩ := h
  exact ⟨la, da, lc, dc, rfl, row_liesL h1 lab L hl, row_liesL h2 lab L hl⟩
theorem info44 : (Tryz.prog.info? 44).map (fun i => (i.zero, i.size, i.bytes)) = some (some (.agg #[.int .i64 0, .int .i64 0, .int .i64 0, .int .i64 0, .int .i64 0, .int .i64 0, .int .i64 0, .int .i64 0, .int .i64 0, .int .i64 0, .int .i64 0, .int .i64 0, .int .i64 0, .int .i64 0, .slice none 0 0, .slice none 0 0, .int .i64 0]), 17, 168) := by kernel_rfl
theorem recLC_one (x : RecL) : ∀ u ∈ recLC x, u.oneCell' = true := by
  intro u hu
  simp [recLC] at hu
  rcases hu with rfl | rfl | rfl | rfl | rfl | rfl | rfl | rfl | rfl | rfl | rfl | rfl | rfl | rfl | rfl | rfl | rfl <;> rfl
/-- 'append(all, r)'. -/
theorem run_pushRec (ty : TypeId) (x : World) (B : Nat) (v : Value) (xs : List RecL) (hown : GRow x B 44 17 v xs.length (rowsC recLC xs)) (ad : Addr) (y : RecL) (hc : Lies x (some ad) (recLC y)) (h63 : xs.length + 1 ≤ 2000000) (hB : B ≤ x.heap.size) :
    ∃ v' x', (Builtin.append_ #[22, 22] ty #[v, .slice (some ad) 1 1]).run Tryz.prog x = .ok v' x' ∧ GRow x' B 44 17 v' (xs ++ [y]).length (rowsC recLC (xs ++ [y])) ∧ x.grownBy x' v.ownBlock ∧ (v'.ownBlock = v.ownBlock ∨ v'.ownBlock = some x.heap.size) := by
  obtain ⟨i0, hi, h0, h2, h3⟩ := info_of info44
  obtain ⟨v', w', hr, q2, q3, q4, q5⟩ := run_append_own_at (P := Tryz.prog) x B 22 ty 44 i0 _ 17 168 Tryz.underlying22 hi h0 h2 h3 rfl (by decide) v xs.length (rowsC recLC xs) hown ad 1 1 (recLC y) rfl
    (by
      intro j u hj
      obtain ⟨b, off, e1, _, hc2⟩ := hc.cellAt j u hj
      cases e1
      rw [addr_add]
      exact hc2) (recLC_one y) (by unfold maxLen; omega) (by omega) hB
  refine ⟨v', w', hr, ?_, q3, q5⟩
  have e1 : (xs ++ [y]).length = xs.length + 1 := by simp
  have e2 : rowsC recLC (xs ++ [y]) = rowsC recLC xs ++ recLC y := by unfold rowsC; simp
  rw [e1, e2]
  exact q2
/-- A log that grows, and its records in a row of their own: labels: 0 the log's and the disk's, 1 the row, 2 the records' lists. -/
structure Gst (B : Nat) (w0 w : World) (lab : Nat → Nat) (S T : Nat → Prop) (l d : Nat) (g : Dev) (m : LogM) (av : Value) (xs : List RecL) : Prop where
  lv : LV B w0 w S T l d g m
  l0 : ∀ b, S b ∨ T b ∨ b = l → lab b = 0
  row : GRow w B 44 17 av xs.length (rowsC recLC xs)
  l1 : ∀ b, av.ownBlock = some b → lab b = 1
  lists : ∀ x ∈ xs, LiesL w lab 2 x.la (liveCs x.r.live) ∧ LiesL w lab 2 x.da (dirtyCs x.r.dirty)
section
variable {B : Nat} {w0 w w' : World} {lab lab' : Nat → Nat} {S S' T T' V : Nat → Prop} {l d L : Nat} {g g' : Dev} {m m' : LogM} {av av' : Value} {xs : List RecL}
theorem Gst.keep1 (h : Gst B w0 w lab S T l d g m av xs) (hk : Keep V w w') (hV : ∀ b, V b → lab b = L) (hl : ∀ b, b < w.heap.size → lab' b = lab b) :
    (L ≠ 1 → GRow w' B 44 17 av xs.length (rowsC recLC xs)) ∧ (∀ b, av.ownBlock = some b → lab' b = 1) ∧ (L ≠ 2 → ∀ x ∈ xs, LiesL w' lab' 2 x.la (liveCs x.r.live) ∧ LiesL w' lab' 2 x.da (dirtyCs x.r.dirty)) ∧ (∀ b, S b ∨ T b ∨ b = l → lab' b = 0) := by
  have hlt := h.lv.ld.lt
  refine ⟨fun n => GRow.keep h.row hk (fun b hb q => n ((hV b q).symm.trans (h.l1 b hb))), fun b hb => (hl b (World.ownsRow.lt h.row b hb).2).trans (h.l1 b hb), fun n x hx => ?_, fun b hb => ?_⟩
  · obtain ⟨p1, p2⟩ := h.lists x hx
    exact ⟨p1.keep hk (fun b q e => n ((hV b q).symm.trans e)) hl, p2.keep hk (fun b q e => n ((hV b q).symm.trans e)) hl⟩
  · refine (hl b ?_).trans (h.l0 b hb)
    rcases hb with q | q | q
    · exact hlt.2.1 b q
    · exact hlt.2.2 b q
    · rw [q]; exact hlt.1
theorem Gst.below (h : Gst B w0 w lab S T l d g m av xs) (hb : Below w.heap.size w w') (L : Nat) : Gst B w0 w' (ext lab w.heap.size L) S T l d g m av xs := by
  obtain ⟨k1, k2, k3, k4⟩ := h.keep1 (L := 9) (V := fun _ => False) (lab' := ext lab w.heap.size L) (Keep.of_below hb) nofun (fun _ q => ext_old q)
  exact ⟨h.lv.below hb, k4, k1 (by decide), k2, k3 (by decide)⟩
theorem Gst.app (h : Gst B w0 w lab S T l d g m av xs) (hl : LD w' S T' l d g m') (hk : Keep (fun k => k = l ∨ T k) w w') (hT : ∀ k, T' k → T k ∨ w.heap.size ≤ k) : Gst B w0 w' (ext lab w.heap.size 0) S T' l d g m' av xs := by
  obtain ⟨k1, k2, k3, k4⟩ := h.keep1 (L := 0) (lab' := ext lab w.heap.size 0) hk (fun b q => h.l0 b (q.elim (fun e => .inr (.inr e)) (fun e => .inr (.inl e)))) (fun _ q => ext_old q)
  refine ⟨h.lv.app hl hk hT, fun b hb => ?_, k1 (by decide), k2, k3 (by decide)⟩
  rcases hb with q | q | q
  · exact k4 b (.inl q)
  · rcases hT b q with r | r
    · exact k4 b (.inr (.inl r))
    · exact ext_new r
  · exact k4 b (.inr (.inr q))
theorem Gst.dsk (h : Gst B w0 w lab S T l d g m av xs) (hl : LD w' S' T l d g' m') (hk : Keep (fun b => S b ∨ b = l) w w') (hS : ∀ k, S' k → S k ∨ w.heap.size ≤ k) : Gst B w0 w' (ext lab w.heap.size 0) S' T l d g' m' av xs := by
  obtain ⟨k1, k2, k3, k4⟩ := h.keep1 (L := 0) (lab' := ext lab w.heap.size 0) hk (fun b q => h.l0 b (q.elim .inl (fun e => .inr (.inr e)))) (fun _ q => ext_old q)
  refine ⟨h.lv.dsk hl hk hS, fun b hb => ?_, k1 (by decide), k2, k3 (by decide)⟩
  rcases hb with q | q | q
  · rcases hS b q with r | r
    · exact k4 b (.inl r)
    · exact ext_new r
  · exact k4 b (.inr (.inl q))
  · exact k4 b (.inr (.inr q))
theorem Gst.push (h : Gst B w0 w lab S T l d g m av xs) {y : RecL} {ob : Obj} (hy : LiesL w lab 2 y.la (liveCs y.r.live) ∧ LiesL w lab 2 y.da (dirtyCs y.r.dirty)) (hr : GRow w' B 44 17 av' (xs ++ [y]).length (rowsC recLC (xs ++ [y]))) (hg : (w.alloc ob).grownBy w' av.ownBlock) (hm : av'.ownBlock = av.ownBlock ∨ av'.ownBlock = some (w.alloc ob).heap.size) : Gst B w0 w' (ext lab w.heap.size 1) S T l d g m av' (xs ++ [y]) := by
  have hk : Keep (fun b => av.ownBlock = some b) w w' := ((Keep.refl (fun b => av.ownBlock = some b) w).alloc _).grown hg (fun _ q _ => q)
  obtain ⟨k1, k2, k3, k4⟩ := h.keep1 (L := 1) (lab' := ext lab w.heap.size 1) hk (fun b q => h.l1 b q) (fun _ q => ext_old q)
  have hlt := h.lv.ld.lt
  have n0 : ∀ b, av.ownBlock = some b → ¬ (S b ∨ T b ∨ b = l) := fun b hb q => by have := h.l1 b hb; have := h.l0 b q; omega
  have hB := Nat.le_trans h.lv.le h.lv.bel.size
  refine ⟨⟨h.lv.ld.keep hk (fun b hb q => n0 b hb (.inl q)) (fun b hb q => n0 b hb (.inr (.inl q))) (fun hb => n0 l hb (.inr (.inr rfl))), h.lv.fS, h.lv.fT, h.lv.fl, h.lv.bel.trans (hk.below hB (fun k hk q => by have := (World.ownsRow.lt h.row k q).1; omega)), h.lv.le⟩, k4, hr, fun b hb => ?_, fun x hx => ?_⟩
  · rcases hm with q | q
    · exact k2 b (q ▸ hb)
    · rw [q] at hb
      have e : (w.alloc ob).heap.size = b := Option.some.inj hb
      rw [World.size_alloc] at e
      exact ext_new (by omega)
  · rcases List.mem_append.1 hx with q | q
    · exact k3 (by decide) x q
    · obtain rfl : x = y := by simpa using q
      exact ⟨hy.1.keep hk (fun b q e => by have := h.l1 b q; omega) (fun _ q => ext_old q), hy.2.keep hk (fun b q e => by have := h.l1 b q; omega) (fun _ q => ext_old q)⟩
end
end Go.Proofs.YtgpmghdoofcpaaaGreat.Lg
