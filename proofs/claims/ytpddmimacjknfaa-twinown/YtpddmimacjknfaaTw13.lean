import Derived.Test.YtpddmimacjknfaaTw12
namespace Go.Proofs.Ytpddmimacjknfaa
open Go.RowKit Go.QK
set_option maxRecDepth 100000

/-- A fall in memory: its step, its loss and where that lies. -/
structure FallAt (w : World) (bk o : Nat) (s : Int) (l : Loss) (la : Option Addr) (lc : Nat) : Prop where
  c0 : w.cell? ⟨bk, o, none⟩ = some (.int .i64 s)
  c1 : w.cell? ⟨bk, o + 1, none⟩ = some (.slice la l.keep.length lc)
  c2 : w.cell? ⟨bk, o + 2, none⟩ = some (.int .i64 l.torn)
  c3 : w.cell? ⟨bk, o + 3, none⟩ = some (.int .i64 l.off)
  loss : LossAt w l la lc
  low : l.keep ≠ [] → ∀ ad, la = some ad → ad.block < w.heap.size
  short : l.keep.length ≤ 17592186044415
  lt : bk < w.heap.size
theorem LossAt.below' {w w' : World} {l : Loss} {a : Option Addr} {c : Nat} (h : LossAt w l a c) (b : Below w.heap.size w w') : LossAt w' l a c := ⟨Seen.below h.seen b, h.nil, h.cap, h.ok⟩
theorem FallAt.below {w w' : World} {bk o : Nat} {s : Int} {l : Loss} {la : Option Addr} {lc : Nat} (h : FallAt w bk o s l la lc) (b : Below w.heap.size w w') : FallAt w' bk o s l la lc :=
  ⟨(World.cell?_of_block (a := ⟨bk, o, none⟩) (b.block bk h.lt)).trans h.c0, (World.cell?_of_block (a := ⟨bk, o + 1, none⟩) (b.block bk h.lt)).trans h.c1, (World.cell?_of_block (a := ⟨bk, o + 2, none⟩) (b.block bk h.lt)).trans h.c2, (World.cell?_of_block (a := ⟨bk, o + 3, none⟩) (b.block bk h.lt)).trans h.c3, h.loss.below' b, fun q ad e => Nat.lt_of_lt_of_le (h.low q ad e) b.size, h.short, Nat.lt_of_lt_of_le h.lt b.size⟩
def FallsAt (w : World) (a : Option Addr) (m : Nat) : Prop := ∀ i, i < m → ∃ bk o s l la lc, a = some ⟨bk, o, none⟩ ∧ FallAt w bk (o + i * 4) s l la lc
theorem FallsAt.below {w w' : World} {a : Option Addr} {m : Nat} (h : FallsAt w a m) (b : Below w.heap.size w w') : FallsAt w' a m := fun i hi => by
  obtain ⟨bk, o, s, l, la, lc, e, q⟩ := h i hi
  exact ⟨bk, o, s, l, la, lc, e, q.below b⟩

/-- A disk between falls. -/
structure Half (H : Nat) (x : Nat → List Nat) (was b : List Nat) (cw cb : Prop) (g : Dev) : Prop where
  run : Run g 13
  rest : QK.Rest 2 H 13 x g.img
  st : (Quiet 2 H was g.img ∧ cw) ∨ ((Stand 2 H b g.img ∨ Quiet 2 H b g.img) ∧ cb)
structure Whole (H : Nat) (x : Nat → List Nat) (was b : List Nat) (cw cb : Prop) (g : Dev) : Prop where
  run : Run g 13
  rest : QK.Rest 2 H 13 x g.img
  st : (Quiet 2 H was g.img ∧ cw) ∨ (Quiet 2 H b g.img ∧ cb)
section
variable {H : Nat} {x : Nat → List Nat} {was b : List Nat} {cw cb : Prop} {g : Dev}
theorem _root_.Go.QK.Run.up' {n : Nat} (h : Run g n) : Run g.up n := ⟨h.ok.up, h.len, h.pend, rfl⟩
theorem Whole.up (h : Whole H x was b cw cb g) : Whole H x was b cw cb g.up := ⟨h.run.up', h.rest, h.st⟩
theorem Whole.half (h : Whole H x was b cw cb g) : Half H x was b cw cb g := ⟨h.run, h.rest, h.st.imp id (fun q => ⟨.inr q.1, q.2⟩)⟩
theorem Half.finish (h : Half H x was b cw cb g) (hl : Lie 2 H 13) (hb : b.length = 1024) (hB : AllB b) :
    (g.fnE 2 = 0 ∧ Whole H x was b cw cb (g.fnD 2) ∧ (g.fnD 2).calls ≤ g.calls + 5) ∨ (g.fnE 2 = 40 ∧ g.left ≠ 0 ∧ (g.fnD 2).down = true ∧ Half H x was b cw cb (g.fnD 2).up ∧ (g.fnD 2).pend.length ≤ 0 ∧ (g.fnD 2).calls ≤ g.calls + 5) := by
  rcases h.st with ⟨q, hc⟩ | ⟨q | q, hc⟩
  · obtain ⟨f1, f2, _⟩ := h.run.finish_quiet hl q
    refine .inl ⟨f1, ?_, ?_⟩
    · rw [show g.fnD 2 = g from f2]; exact ⟨h.run, h.rest, .inl ⟨q, hc⟩⟩
    · rw [show g.fnD 2 = g from f2]; omega
  · obtain ⟨k1, k2⟩ := h.run.finish_stand hl h.rest q hb hB
    by_cases c : 1 ≤ g.left ∧ g.left ≤ 5
    · obtain ⟨m1, _, m3, m4, m5, m6, m7⟩ := k2 c
      exact .inr ⟨m1, by omega, m4, ⟨m3, m6, .inr ⟨m7, hc⟩⟩, by rw [show (g.fnD 2).pend = [] from m3.pend]; decide, m5⟩
    · obtain ⟨m1, _, m3, m4, m5, m6⟩ := k1 c
      exact .inl ⟨m1, ⟨m3, m5, .inr ⟨m6, hc⟩⟩, Nat.le_of_eq m4⟩
  · obtain ⟨f1, f2, _⟩ := h.run.finish_quiet hl q
    refine .inl ⟨f1, ?_, ?_⟩
    · rw [show g.fnD 2 = g from f2]; exact ⟨h.run, h.rest, .inr ⟨q, hc⟩⟩
    · rw [show g.fnD 2 = g from f2]; omega
theorem _root_.Go.QK.Run.arm' {n : Nat} (h : Run g n) (st : Nat) (hst : st ≤ 1000) (l : Loss) (hl : l.Ok) : Run (g.arm (st : Int) l) n ∧ (g.arm (st : Int) l).img = g.img ∧ (g.arm (st : Int) l).left = st ∧ (g.arm (st : Int) l).calls = g.calls := by
  have ok := h.ok.arm' (st : Int) l hl (by omega)
  have e : g.arm (st : Int) l = { g with left := ((st : Int)).toNat, loss := if 0 < (st : Int) then some l else none } := by
    unfold Dev.arm
    rw [if_neg]
    rintro (q | q)
    · rw [h.up] at q; cases q
    · omega
  rw [e] at ok ⊢
  exact ⟨⟨ok, h.len, h.pend, h.up⟩, rfl, by simp, rfl⟩
theorem Half.arm (h : Half H x was b cw cb g) (st : Nat) (hst : st ≤ 1000) (l : Loss) (hl : l.Ok) : Half H x was b cw cb (g.arm (st : Int) l) ∧ (g.arm (st : Int) l).left = st ∧ (g.arm (st : Int) l).calls = g.calls := by
  obtain ⟨h1, h2, h3, h4⟩ := h.run.arm' st hst l hl
  exact ⟨⟨h1, by rw [h2]; exact h.rest, by rw [h2]; exact h.st⟩, h3, h4⟩
end
/-- What the Write leaves: of the law's disk, armed. -/
theorem Shelf.write {g : Dev} (h : Shelf 4 g) (j : Nat) (hj : j < 4) (st : Nat) (hst : st ≤ 11) (l : Loss) (hl : l.Ok) (b : List Nat) (hb : b.length = 1024) (hB : AllB b) :
    (¬ (1 ≤ st ∧ st ≤ 10) → (g.arm (st : Int) l).twE 2 ((5 + 2 * j : Nat) : Int) b = 0 ∧ ((g.arm (st : Int) l).twD 2 ((5 + 2 * j : Nat) : Int) b).down = false ∧ Half (5 + 2 * j) (fun i => sector g.img i) (pageB (5 + 2 * j)) b False True ((g.arm (st : Int) l).twD 2 ((5 + 2 * j : Nat) : Int) b).up ∧ ((g.arm (st : Int) l).twD 2 ((5 + 2 * j : Nat) : Int) b).calls ≤ 50) ∧
    (1 ≤ st ∧ st ≤ 10 → (g.arm (st : Int) l).twE 2 ((5 + 2 * j : Nat) : Int) b = 40 ∧ ((g.arm (st : Int) l).twD 2 ((5 + 2 * j : Nat) : Int) b).down = true ∧ Half (5 + 2 * j) (fun i => sector g.img i) (pageB (5 + 2 * j)) b (st ≤ 5) (4 ≤ st) ((g.arm (st : Int) l).twD 2 ((5 + 2 * j : Nat) : Int) b).up ∧ ((g.arm (st : Int) l).twD 2 ((5 + 2 * j : Nat) : Int) b).calls ≤ 50) ∧ (g.arm (st : Int) l).pend = [] ∧ (g.arm (st : Int) l).calls ≤ 100 := by
  obtain ⟨r1, r2, r3, r4⟩ := h.run.arm' st (by omega) l hl
  have hlie := lie13 j hj
  have W := r1.write (x := fun i => sector g.img i) (p := pageB (5 + 2 * j)) (b := b) hlie (fun i hi q1 q2 => by rw [r2]) ⟨by rw [r2]; exact h.mark, by rw [r2]; exact h.homes j hj⟩ hb hB
  have hc := h.calls
  refine ⟨fun q => ?_, fun q => ?_, r1.pend, by omega⟩
  · obtain ⟨m1, m2, m3, m4, m5, m6⟩ := W.good (by rw [r3]; exact q)
    refine ⟨m1, m2.up, ⟨m2.up', m5, .inr ⟨.inr m6, trivial⟩⟩, ?_⟩
    have e : ((g.arm (st : Int) l).twD 2 ((5 + 2 * j : Nat) : Int) b).calls = (g.arm (st : Int) l).calls + 10 := m3
    omega
  · obtain ⟨m1, m2, m3, m4, m5, m6⟩ := W.bad (by rw [r3]; exact q)
    rw [r3] at m6
    refine ⟨m1, m3, ⟨m2, m5, m6⟩, ?_⟩
    have e : ((g.arm (st : Int) l).twD 2 ((5 + 2 * j : Nat) : Int) b).calls ≤ (g.arm (st : Int) l).calls + 10 := m4
    omega
theorem Whole.rows {j : Nat} {g0 g : Dev} {was b : List Nat} {cw cb : Prop} (h : Whole (5 + 2 * j) (fun i => sector g0.img i) was b cw cb g) (h0 : Shelf 4 g0) (hj : j < 4) : Rows4 (5 + 2 * j) g := by
  refine ⟨h.run, fun i hi hne => ?_, ?_⟩
  · have e1 := h.rest (5 + 2 * i) (by omega) (by omega) (by omega)
    have e2 := h.rest (5 + 2 * i + 1) (by omega) (by omega) (by omega)
    rw [e1, e2]
    exact h0.homes i hi
  · have e1 := h.rest 0 (by omega) (by omega) (by omega)
    have e2 := h.rest 1 (by omega) (by omega) (by omega)
    rw [e1, e2, h0.lo.1, h0.lo.2]
    rfl
/-- The law's loop. -/
structure Rnd (w2 : World) (d gw gb H : Nat) (x : Nat → List Nat) (W B : List Nat) (cw cb : Prop) (m : Nat) (dn : Bool) (i : Nat) (wr : World) (Sr : Nat → Prop) (gr : Dev) : Prop where
  live : Live w2.heap.size w2 wr Sr d gr
  half : Half H x W B cw cb gr
  whole : dn = true → Whole H x W B cw cb gr
  left : gr.left = 0
  calls : gr.calls ≤ 50 + 5 * i
  i1 : i ≤ 21
  i2 : dn = false → i ≤ m ∧ i ≤ 20
  ab : Apart wr Sr gb B
  aw : Apart wr Sr gw W
end Go.Proofs.Ytpddmimacjknfaa
