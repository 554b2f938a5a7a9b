import Derived.Test.YtpddmimacjknfaaTw13
namespace Go.Proofs.Ytpddmimacjknfaa
open Go.RowKit Go.QK
set_option maxRecDepth 100000

/-- The law's disk: its four pages. -/
structure Four (pg : Nat → List Nat) (g : Dev) : Prop where
  run : Run g 13
  mark : (sector g.img 2).getD 511 0 = 0
  homes : ∀ i, i < 4 → sector g.img (5 + 2 * i) ++ sector g.img (5 + 2 * i + 1) = pg i
def updP (pg : Nat → List Nat) (j : Nat) (x : List Nat) : Nat → List Nat := fun i => if i = j then x else pg i
theorem Shelf.four {g : Dev} (h : Shelf 4 g) : Four (fun i => pageB (5 + 2 * i)) g := ⟨h.run, h.mark, h.homes⟩
section
variable {pg : Nat → List Nat} {g : Dev}
theorem Four.up (h : Four pg g) : Four pg g.up := ⟨h.run.up', h.mark, h.homes⟩
theorem Four.arm (h : Four pg g) (st : Nat) (hst : st ≤ 1000) (l : Loss) (hl : l.Ok) : Four pg (g.arm (st : Int) l) ∧ (g.arm (st : Int) l).calls = g.calls := by
  obtain ⟨h1, h2, h3, h4⟩ := h.run.arm' st hst l hl
  exact ⟨⟨h1, by rw [h2]; exact h.mark, by rw [h2]; exact h.homes⟩, h4⟩
theorem Four.quiet (h : Four pg g) : g.fnE 2 = 0 ∧ g.fnD 2 = g ∧ g.fnB 2 = false :=
  h.run.finish_quiet (A := 2) (lie13 0 (by decide)) ⟨h.mark, rfl⟩
theorem Four.read (h : Four pg g) (i : Nat) (hi : i < 4) : g.rdE ((5 + 2 * i : Nat) : Int) = 0 ∧ g.rdB ((5 + 2 * i : Nat) : Int) = pg i := by
  obtain ⟨r1, r2⟩ := h.run.read (f := 5 + 2 * i) (by omega)
  exact ⟨r1, r2.trans (h.homes i hi)⟩
theorem Four.of_whole {j : Nat} {x : List Nat} {g' : Dev} (h : Four pg g) (hr : Run g' 13) (hre : QK.Rest 2 (5 + 2 * j) 13 (fun i => sector g.img i) g'.img) (hj : j < 4) (hq : Quiet 2 (5 + 2 * j) x g'.img) : Four (updP pg j x) g' := by
  refine ⟨hr, hq.1, fun i hi => ?_⟩
  unfold updP
  by_cases e : i = j
  · subst e; rw [if_pos rfl]; exact hq.2
  · rw [if_neg e, hre (5 + 2 * i) (by omega) (by omega) (by omega), hre (5 + 2 * i + 1) (by omega) (by omega) (by omega)]
    exact h.homes i hi
/-- A Write that may fall, an Up, a Finish. -/
theorem Four.round (h : Four pg g) (j : Nat) (hj : j < 4) (b : List Nat) (hb : b.length = 1024) (hB : AllB b) :
    (g.twD 2 ((5 + 2 * j : Nat) : Int) b).up.fnE 2 = 0 ∧ (g.twD 2 ((5 + 2 * j : Nat) : Int) b).up.pend = [] ∧ (g.twD 2 ((5 + 2 * j : Nat) : Int) b).calls ≤ g.calls + 10 ∧ ((g.twD 2 ((5 + 2 * j : Nat) : Int) b).up.fnD 2).calls ≤ g.calls + 15 ∧
    ∃ x, Four (updP pg j x) ((g.twD 2 ((5 + 2 * j : Nat) : Int) b).up.fnD 2) ∧
      ((g.twE 2 ((5 + 2 * j : Nat) : Int) b = 0 ∧ (g.twD 2 ((5 + 2 * j : Nat) : Int) b).up.fnB 2 = false ∧ x = b) ∨ (g.twE 2 ((5 + 2 * j : Nat) : Int) b = 40 ∧ (g.twD 2 ((5 + 2 * j : Nat) : Int) b).up.fnB 2 = false ∧ x = pg j) ∨ (g.twE 2 ((5 + 2 * j : Nat) : Int) b = 40 ∧ x = b)) := by
  have hl := lie13 j hj
  have W : Wrote 2 (5 + 2 * j) 13 (fun i => sector g.img i) (pg j) b g (g.twE 2 ((5 + 2 * j : Nat) : Int) b) (g.twD 2 ((5 + 2 * j : Nat) : Int) b) := h.run.write (x := fun i => sector g.img i) (p := pg j) (b := b) hl (fun i hi q1 q2 => rfl) ⟨h.mark, h.homes j hj⟩ hb hB
  generalize g.twE 2 ((5 + 2 * j : Nat) : Int) b = E at *
  generalize g.twD 2 ((5 + 2 * j : Nat) : Int) b = D at *
  by_cases c : 1 ≤ g.left ∧ g.left ≤ 10
  · obtain ⟨m1, m2, m3, m4, m5, m6⟩ := W.bad c
    have m5' : QK.Rest 2 (5 + 2 * j) 13 (fun i => sector g.img i) D.up.img := m5
    rcases m6 with ⟨q, _⟩ | ⟨q | q, _⟩
    · obtain ⟨f1, f2, f3⟩ := m2.finish_quiet (A := 2) hl (p := pg j) q
      refine ⟨f1, m2.pend, m4, ?_, pg j, ?_, .inr (.inl ⟨m1, f3, rfl⟩)⟩
      · rw [show D.up.fnD 2 = D.up from f2]; show D.calls ≤ _; omega
      · rw [show D.up.fnD 2 = D.up from f2]; exact h.of_whole m2 m5' hj q
    · obtain ⟨k1, _⟩ := m2.finish_stand (A := 2) hl m5' q hb hB
      obtain ⟨f1, f2, f3, f4, f5, f6⟩ := k1 (by show ¬ (1 ≤ 0 ∧ _); omega)
      refine ⟨f1, m2.pend, m4, ?_, b, h.of_whole f3 f5 hj f6, .inr (.inr ⟨m1, rfl⟩)⟩
      have e : (D.up.fnD 2).calls = D.calls + 5 := f4
      omega
    · obtain ⟨f1, f2, f3⟩ := m2.finish_quiet (A := 2) hl (p := b) q
      refine ⟨f1, m2.pend, m4, ?_, b, ?_, .inr (.inr ⟨m1, rfl⟩)⟩
      · rw [show D.up.fnD 2 = D.up from f2]; show D.calls ≤ _; omega
      · rw [show D.up.fnD 2 = D.up from f2]; exact h.of_whole m2 m5' hj q
  · obtain ⟨m1, m2, m3, m4, m5, m6⟩ := W.good c
    have m2' := m2.up'
    have m5' : QK.Rest 2 (5 + 2 * j) 13 (fun i => sector g.img i) D.up.img := m5
    obtain ⟨f1, f2, f3⟩ := m2'.finish_quiet (A := 2) hl (p := b) m6
    refine ⟨f1, m2.pend, by omega, ?_, b, ?_, .inl ⟨m1, f3, rfl⟩⟩
    · rw [show D.up.fnD 2 = D.up from f2]; show D.calls ≤ _; omega
    · rw [show D.up.fnD 2 = D.up from f2]; exact h.of_whole m2' m5' hj m6
end
/-- The strings that were the pages: a row of thirteen. -/
structure Nows (w : World) (b : Nat) (k : Nat) (pg : Nat → List Nat) (S : Nat → Prop) : Prop where
  row : ∃ cs, Cells w b cs ∧ cs.length = 13 ∧ (∀ i, i < 13 → ∃ t, cs[i]? = some (.string t)) ∧ ∀ i, i < k → cs[5 + 2 * i]? = some (.string (strOf (pg i)))
  out : ¬ S b
  lt : b < w.heap.size
section
variable {w w' : World} {b k : Nat} {pg : Nat → List Nat} {S S' : Nat → Prop}
theorem Nows.step (h : Nows w b k pg S) (hs : Step w S w' S') : Nows w' b k pg S' := by
  obtain ⟨cs, c1, c2, c3, c4⟩ := h.row
  exact ⟨⟨cs, c1.keep hs.1 h.out, c2, c3, c4⟩, fun q => (hs.2 b q).elim h.out (fun r => by have := h.lt; omega), Nat.lt_of_lt_of_le h.lt hs.1.size⟩
theorem Nows.below (h : Nows w b k pg S) (hb : Below w.heap.size w w') : Nows w' b k pg S := h.step (Step.of_below hb)
theorem Nows.cell (h : Nows w b k pg S) (i : Nat) (hi : i < k) : w.cell? ⟨b, 5 + 2 * i, none⟩ = some (.string (strOf (pg i))) := by
  obtain ⟨cs, c1, c2, c3, c4⟩ := h.row
  have := (c1.get (5 + 2 * i) _ (c4 i hi)).1
  exact this
theorem Nows.any (h : Nows w b k pg S) (i : Nat) (hi : i < 13) : (∃ t, w.cell? ⟨b, i, none⟩ = some (.string t)) ∧ w.frozen? ⟨b, i, none⟩ = false := by
  obtain ⟨cs, c1, c2, c3, c4⟩ := h.row
  obtain ⟨t, ht⟩ := c3 i hi
  obtain ⟨g1, g2⟩ := c1.get i _ ht
  exact ⟨⟨t, g1⟩, g2⟩
theorem Nows.set (h : Nows w b k pg S) (j : Nat) (hj : j < 4) (x : List Nat) (k' : Nat) (pg' : Nat → List Nat) (hp : ∀ i, i < k' → (i = j ∧ pg' i = x) ∨ (i ≠ j ∧ i < k ∧ pg' i = pg i)) : Nows (w.setCell ⟨b, 5 + 2 * j, none⟩ (.string (strOf x))) b k' pg' S := by
  obtain ⟨cs, c1, c2, c3, c4⟩ := h.row
  refine ⟨⟨cs.set (5 + 2 * j) (.string (strOf x)), c1.stored (by omega) _, by rw [List.length_set]; exact c2, fun i hi => ?_, fun i hi => ?_⟩, h.out, by simpa using h.lt⟩
  · rw [List.getElem?_set]
    by_cases e : 5 + 2 * j = i
    · rw [if_pos e, if_pos (by omega)]; exact ⟨_, rfl⟩
    · rw [if_neg e]; exact c3 i hi
  · rw [List.getElem?_set]
    rcases hp i hi with ⟨rfl, e⟩ | ⟨e1, e2, e3⟩
    · rw [if_pos rfl, if_pos (by omega), e]
    · rw [if_neg (by omega), e3]; exact c4 i e2
end
def HomesAt (w : World) (a : Option Addr) (m : Nat) : Prop := ∀ i, i < m → ∃ bk o x, a = some ⟨bk, o, none⟩ ∧ bk < w.heap.size ∧ w.cell? ⟨bk, o + i, none⟩ = some (.int .i64 x)
theorem HomesAt.below {w w' : World} {a : Option Addr} {m : Nat} (h : HomesAt w a m) (b : Below w.heap.size w w') : HomesAt w' a m := fun i hi => by
  obtain ⟨bk, o, x, e, hl, hc⟩ := h i hi
  exact ⟨bk, o, x, e, Nat.lt_of_lt_of_le hl b.size, (World.cell?_of_block (a := ⟨bk, o + i, none⟩) (b.block bk hl)).trans hc⟩
theorem zero39 : (Try.prog.info? 39).map (fun i => i.zero) = some (some (.agg (Array.replicate 13 (.string ByteArray.empty)))) := by kernel_rfl
theorem zero39_run (w : World) : (zeroValue 39).run Try.prog w = .ok (.agg (Array.replicate 13 (.string ByteArray.empty))) w := by
  have h := zero39
  cases hq : Try.prog.info? 39 with
  | none => simp [hq] at h
  | some i =>
    rw [hq] at h
    simp only [Option.map_some, Option.some.injEq] at h
    simp [zeroValue, typeInfo, hq, h]
/-- Between the law's rounds. -/
structure Oft (w1 : World) (d nb : Nat) (pg : Nat → List Nat) (i : Nat) (wr : World) (Sr : Nat → Prop) (gr : Dev) : Prop where
  live : Live w1.heap.size w1 wr Sr d gr
  four : Four pg gr
  calls : gr.calls ≤ 40 + 15 * i
  nows : Nows wr nb 4 pg Sr
  hi : w1.heap.size ≤ nb
end Go.Proofs.Ytpddmimacjknfaa
