import Derived.Test.YtlibldioliicfaaXF
import Derived.Test.YtlibldioliicfaaXC
import Derived.Test.YtlibldioliicfaaChk3
import Derived.Test.YtlibldioliicfaaOne
import Derived.Test.YtlibldioliicfaaXE
import Derived.Test.YtlibldioliicfaaAwake
namespace Go.Proofs.Ytlibldioliicfaa
open Go.RowKit Go.QK
set_option maxRecDepth 100000
theorem run_ld36 {ev : Operand → Value} {oi : Oper} {x : Operand} {b : Nat} {cs : Array Value} {w : World} (ho : oi.op = .load 36 x) (hx : ev x = .pointer (some ⟨b, 0, none⟩)) (hb : RBox w b 36 cs) (hs : cs.size = 17) : (execOp ev oi).run Try.prog w = .ok (.value (.agg cs)) w := by
  unfold execOp
  simp only [ho, hx, Instr.loadAt, Instr.sureAddr, Sem.run_bind, Sem.run_pure, Result.andThen_ok, run_loadVar_row w b 36 36 cs (0, 0) _ hb Try.underlying36 rfl (size36' hs)]
theorem Lies.keepN {S : Nat → Prop} {w w' : World} {a : Option Addr} {cs : List Value} (h : Lies w a cs) (hk : Keep S w w') (hn : cs ≠ [] → ∀ ad, a = some ad → ¬ S ad.block) : Lies w' a cs := by
  by_cases hc : cs = []
  · exact .inl hc
  · exact h.keep hk (hn hc)
theorem Lies.blk {w : World} {b off : Nat} {cs : List Value} (h : Lies w (some ⟨b, off, none⟩) cs) (hc : cs ≠ []) : b < w.heap.size := by
  rcases h with h | ⟨b', off', e, hlt, _⟩
  · exact absurd h hc
  · cases e
    exact hlt
/-- The blocks that 'encodes' works with. -/
def EB (b3 b5 : Nat) (r : RecM) (la3 da3 la5 da5 : Option Addr) (b : Nat) : Prop :=
  b = b3 ∨ b = b5 ∨ (liveCs r.live ≠ [] ∧ ∃ ad, la3 = some ad ∧ ad.block = b) ∨ (dirtyCs r.dirty ≠ [] ∧ ∃ ad, da3 = some ad ∧ ad.block = b) ∨ (∃ ad, la5 = some ad ∧ ad.block = b) ∨ (∃ ad, da5 = some ad ∧ ad.block = b)
/-- How 'encodes' stands: the record, its own copy with the marks, the book. -/
structure ES (w0 : World) (B : Nat) (lab : Nat → Nat) (kb N b3 b5 : Nat) (wr : World) (labt : Nat → Nat) (n m : Nat) (r : RecM) (la3 : Option Addr) (lc3 : Nat) (da3 : Option Addr) (dc3 : Nat) (la5 : Option Addr) (lc5 : Nat) (da5 : Option Addr) (dc5 : Nat) : Prop where
  x3 : RBox wr b3 36 (recC r la3 lc3 da3 dc3)
  x5 : RBox wr b5 36 (recC r la5 lc5 da5 dc5)
  l3 : Lies wr la3 (liveCs r.live)
  d3 : Lies wr da3 (dirtyCs r.dirty)
  l5 : LentL wr B la5 lc5 r.live
  d5 : LentD wr B da5 dc5 r.dirty
  mi : ∀ b, EB b3 b5 r la3 da3 la5 da5 b → labt b = 9 ∧ b < N
  n3 : la3 = none → lc3 = 0 ∧ r.live.length = 0
  nd3 : da3 = none → dc3 = 0 ∧ r.dirty.length = 0
  bk : BkE wr B labt kb n m
  old : ∀ b, b < w0.heap.size → labt b = lab b
  kp : Keep (fun b => lab b ≠ 9) w0 wr
  fits : Fits r
  nl : r.live.length ≤ 100
  nd : r.dirty.length ≤ 100
  NN : N ≤ wr.heap.size
  gB : B ≤ w0.heap.size
  gN : w0.heap.size ≤ N
  nl5 : ∀ g, (Value.slice la5 (r.live.length + 1) lc5).ownBlock = some g → g ≠ b3 ∧ g ≠ b5 ∧ (Value.slice da5 (r.dirty.length + 1) dc5).ownBlock ≠ some g
  nd5 : ∀ g, (Value.slice da5 (r.dirty.length + 1) dc5).ownBlock = some g → g ≠ b3 ∧ g ≠ b5
  h5 : ∀ g, ((Value.slice la5 0 0).ownBlock = some g ∨ (Value.slice da5 0 0).ownBlock = some g) → w0.heap.size ≤ g
section
variable {w0 : World} {B : Nat} {lab : Nat → Nat} {kb N b3 b5 : Nat} {wr w' : World} {labt lab' : Nat → Nat} {n n' m : Nat} {r : RecM} {la3 : Option Addr} {lc3 : Nat} {da3 : Option Addr} {dc3 : Nat} {la5 : Option Addr} {lc5 : Nat} {da5 : Option Addr} {dc5 : Nat}
theorem ES.keep {S : Nat → Prop} (h : ES w0 B lab kb N b3 b5 wr labt n m r la3 lc3 da3 dc3 la5 lc5 da5 dc5) (hk : Keep S wr w') (hS : ∀ b, EB b3 b5 r la3 da3 la5 da5 b → ¬ S b) (hl : ∀ b, EB b3 b5 r la3 da3 la5 da5 b → lab' b = 9) (bk : BkE w' B lab' kb n' m) (old : ∀ b, b < w0.heap.size → lab' b = lab b) (kp : Keep (fun b => lab b ≠ 9) w0 w') :
    ES w0 B lab kb N b3 b5 w' lab' n' m r la3 lc3 da3 dc3 la5 lc5 da5 dc5 :=
  { h with
    x3 := h.x3.keep hk (hS _ (.inl rfl))
    x5 := h.x5.keep hk (hS _ (.inr (.inl rfl)))
    l3 := h.l3.keepN hk (fun hc ad q => hS _ (.inr (.inr (.inl ⟨hc, ad, q, rfl⟩))))
    d3 := h.d3.keepN hk (fun hc ad q => hS _ (.inr (.inr (.inr (.inl ⟨hc, ad, q, rfl⟩)))))
    l5 := GRow.keep h.l5 hk (fun g q => hS _ (.inr (.inr (.inr (.inr (.inl (by cases la5 with | none => cases q | some ad => exact ⟨ad, rfl, by cases q; rfl⟩)))))))
    d5 := GRow.keep h.d5 hk (fun g q => hS _ (.inr (.inr (.inr (.inr (.inr (by cases da5 with | none => cases q | some ad => exact ⟨ad, rfl, by cases q; rfl⟩)))))))
    mi := fun b q => ⟨hl b q, (h.mi b q).2⟩
    bk := bk
    old := old
    kp := kp
    NN := Nat.le_trans h.NN hk.size }
theorem ES.below (h : ES w0 B lab kb N b3 b5 wr labt n m r la3 lc3 da3 dc3 la5 lc5 da5 dc5) (hk : Below wr.heap.size wr w') : ES w0 B lab kb N b3 b5 w' labt n m r la3 lc3 da3 dc3 la5 lc5 da5 dc5 :=
  h.keep (Keep.of_below (S := fun _ => False) hk) (fun _ _ => id) (fun b q => (h.mi b q).1) (h.bk.below hk) h.old (h.kp.then_below hk)
/-- A list that is new went into the book. -/
theorem ES.kept {own : Nat → Prop} (h : ES w0 B lab kb N b3 b5 wr labt n m r la3 lc3 da3 dc3 la5 lc5 da5 dc5) (k : Kept wr B labt kb n' m own w' lab') (hf : ∀ b, own b → N ≤ b) : ES w0 B lab kb N b3 b5 w' lab' n' m r la3 lc3 da3 dc3 la5 lc5 da5 dc5 := by
  have hno : ∀ b, EB b3 b5 r la3 da3 la5 da5 b → ¬ own b := fun b q s => by have := (h.mi b q).2; have := hf b s; omega
  have hNN := h.NN
  have hgN := h.gN
  refine h.keep k.keep (fun b q s => ?_) (fun b q => ?_) k.bk (fun b hb => ?_) (h.kp.trans k.keep (fun b hb s => ?_))
  · rcases s with s | s
    · exact s (h.mi b q).1
    · exact hno b q s
  · rw [k.old b (by have := (h.mi b q).2; omega) (hno b q)]
    exact (h.mi b q).1
  · rw [k.old b (by omega) (fun s => by have := hf b s; omega)]
    exact h.old b hb
  · rcases s with s | s
    · rw [← h.old b hb]
      exact s
    · have := hf b s
      omega
end
/-- The record's own lists, beside its copy's. -/
structure LS (w0 : World) (B : Nat) (lab : Nat → Nat) (kb N b3 b5 : Nat) (wr : World) (labt : Nat → Nat) (n m : Nat) (r : RecM) (la3 : Option Addr) (lc3 : Nat) (da3 : Option Addr) (dc3 : Nat) (la5 : Option Addr) (lc5 : Nat) (da5 : Option Addr) (dc5 : Nat) : Prop where
  es : ES w0 B lab kb N b3 b5 wr labt n m r la3 lc3 da3 dc3 la5 lc5 da5 dc5
  rL : LRow wr B (.slice la3 r.live.length lc3) r.live
  rD : DRow wr B (.slice da3 r.dirty.length dc3) r.dirty
  nl3 : ∀ g, (Value.slice la3 0 0).ownBlock = some g → g ≠ b3 ∧ g ≠ b5 ∧ (Value.slice da3 0 0).ownBlock ≠ some g ∧ (Value.slice la5 0 0).ownBlock ≠ some g ∧ (Value.slice da5 0 0).ownBlock ≠ some g ∧ labt g = 9 ∧ w0.heap.size ≤ g
  nd3 : ∀ g, (Value.slice da3 0 0).ownBlock = some g → g ≠ b3 ∧ g ≠ b5 ∧ (Value.slice la5 0 0).ownBlock ≠ some g ∧ (Value.slice da5 0 0).ownBlock ≠ some g ∧ labt g = 9 ∧ w0.heap.size ≤ g
  nl5 : ∀ g, (Value.slice la5 0 0).ownBlock = some g → g ≠ b3 ∧ g ≠ b5 ∧ (Value.slice da5 0 0).ownBlock ≠ some g ∧ labt g = 9 ∧ w0.heap.size ≤ g
  nd5 : ∀ g, (Value.slice da5 0 0).ownBlock = some g → g ≠ b3 ∧ g ≠ b5 ∧ labt g = 9 ∧ w0.heap.size ≤ g
theorem own_zero (a : Option Addr) (n c : Nat) : (Value.slice a n c).ownBlock = (Value.slice a 0 0).ownBlock := by cases a <;> rfl
theorem own_of {a : Option Addr} {ad : Addr} (h : a = some ad) : (Value.slice a 0 0).ownBlock = some ad.block := by rw [h]; rfl
theorem cs_ne {ls : List LiveM} (h : liveCs ls ≠ []) : 0 < ls.length := by
  cases ls with
  | nil => exact absurd rfl h
  | cons l ls => simp
theorem ds_ne {ls : List DirtyM} (h : dirtyCs ls ≠ []) : 0 < ls.length := by
  cases ls with
  | nil => exact absurd rfl h
  | cons l ls => simp
theorem ne_cs {ls : List LiveM} (h : 0 < ls.length) : liveCs ls ≠ [] := by
  intro q
  have := liveCs_length ls
  rw [q] at this
  simp at this
  omega
theorem ne_ds {ls : List DirtyM} (h : 0 < ls.length) : dirtyCs ls ≠ [] := by
  intro q
  have := dirtyCs_length ls
  rw [q] at this
  simp at this
  omega
section
variable {w0 : World} {B : Nat} {lab : Nat → Nat} {kb N b3 b5 : Nat} {wr w' : World} {labt lab' : Nat → Nat} {n n' m : Nat} {r : RecM} {la3 : Option Addr} {lc3 : Nat} {da3 : Option Addr} {dc3 : Nat} {la5 : Option Addr} {lc5 : Nat} {da5 : Option Addr} {dc5 : Nat}
theorem LS.stepL (h : LS w0 B lab kb N b3 b5 wr labt n m r la3 lc3 da3 dc3 la5 lc5 da5 dc5) (ls : List LiveM) (hlen : ls.length = r.live.length) (hk : Keep (fun b => (Value.slice la3 0 0).ownBlock = some b ∨ (Value.slice la5 0 0).ownBlock = some b) wr w')
    (rL : LRow w' B (.slice la3 ls.length lc3) ls) (l5 : LentL w' B la5 lc5 ls) : LS w0 B lab kb N b3 b5 w' labt n m { r with live := ls } la3 lc3 da3 dc3 la5 lc5 da5 dc5 := by
  have e := h.es
  have hrc : ∀ a c a' c', recC { r with live := ls } a c a' c' = recC r a c a' c' := by intro a c a' c'; simp only [recC, hlen]
  have hS : ∀ b, ((Value.slice la3 0 0).ownBlock = some b ∨ (Value.slice la5 0 0).ownBlock = some b) → b ≠ b3 ∧ b ≠ b5 ∧ labt b = 9 ∧ w0.heap.size ≤ b ∧ (Value.slice da3 0 0).ownBlock ≠ some b ∧ (Value.slice da5 0 0).ownBlock ≠ some b := by
    intro b q
    rcases q with q | q
    · obtain ⟨q1, q2, q3, q4, q5, q6, q7⟩ := h.nl3 b q
      exact ⟨q1, q2, q6, q7, q3, q5⟩
    · obtain ⟨q1, q2, q3, q4, q5⟩ := h.nl5 b q
      exact ⟨q1, q2, q4, q5, fun s => (h.nd3 b s).2.2.1 q, q3⟩
  have hEB : ∀ b, EB b3 b5 { r with live := ls } la3 da3 la5 da5 b → EB b3 b5 r la3 da3 la5 da5 b := by
    rintro b (q | q | ⟨q1, q2⟩ | q | q | q)
    · exact .inl q
    · exact .inr (.inl q)
    · exact .inr (.inr (.inl ⟨ne_cs (by have := cs_ne q1; simp only at this; omega), q2⟩))
    · exact .inr (.inr (.inr (.inl q)))
    · exact .inr (.inr (.inr (.inr (.inl q))))
    · exact .inr (.inr (.inr (.inr (.inr q))))
  obtain ⟨a1, c1, e1, li, _⟩ := GRow.lies rL
  cases e1
  have d5k := GRow.keep e.d5 hk (fun g q s => (hS g s).2.2.2.2.2 ((own_zero _ _ _).symm.trans q))
  refine ⟨⟨?_, ?_, li, ?_, l5, d5k, fun b q => e.mi b (hEB b q), ?_, e.nd3, ?_, e.old, ?_, e.fits, by show ls.length ≤ 100; have := e.nl; omega, e.nd, Nat.le_trans e.NN hk.size, e.gB, e.gN, ?_, e.nd5, e.h5⟩, rL, GRow.keep h.rD hk (fun g q s => (hS g s).2.2.2.2.1 ((own_zero _ _ _).symm.trans q)), h.nl3, h.nd3, h.nl5, h.nd5⟩
  · rw [hrc]; exact e.x3.keep hk (fun s => (hS _ s).1 rfl)
  · rw [hrc]; exact e.x5.keep hk (fun s => (hS _ s).2.1 rfl)
  · exact e.d3.keepN hk (fun _ ad q s => (hS _ s).2.2.2.2.1 (own_of q))
  · intro q
    have := e.n3 q
    exact ⟨this.1, by show ls.length = 0; omega⟩
  · exact e.bk.keep hk (fun b _ s => (hS b s).2.2.1)
  · exact e.kp.trans hk (fun b hb s => by have := (hS b s).2.2.2.1; omega)
  · intro g q
    have q' := e.nl5 g ((own_zero _ _ _).trans ((own_zero _ _ _).symm.trans q))
    exact q'
theorem LS.stepD (h : LS w0 B lab kb N b3 b5 wr labt n m r la3 lc3 da3 dc3 la5 lc5 da5 dc5) (ds : List DirtyM) (hlen : ds.length = r.dirty.length) (hk : Keep (fun b => (Value.slice da3 0 0).ownBlock = some b ∨ (Value.slice da5 0 0).ownBlock = some b) wr w')
    (rD : DRow w' B (.slice da3 ds.length dc3) ds) (d5 : LentD w' B da5 dc5 ds) : LS w0 B lab kb N b3 b5 w' labt n m { r with dirty := ds } la3 lc3 da3 dc3 la5 lc5 da5 dc5 := by
  have e := h.es
  have hrc : ∀ a c a' c', recC { r with dirty := ds } a c a' c' = recC r a c a' c' := by intro a c a' c'; simp only [recC, hlen]
  have hS : ∀ b, ((Value.slice da3 0 0).ownBlock = some b ∨ (Value.slice da5 0 0).ownBlock = some b) → b ≠ b3 ∧ b ≠ b5 ∧ labt b = 9 ∧ w0.heap.size ≤ b ∧ (Value.slice la3 0 0).ownBlock ≠ some b ∧ (Value.slice la5 0 0).ownBlock ≠ some b := by
    intro b q
    rcases q with q | q
    · obtain ⟨q1, q2, q3, q4, q5, q6⟩ := h.nd3 b q
      exact ⟨q1, q2, q5, q6, fun s => (h.nl3 b s).2.2.1 q, q3⟩
    · obtain ⟨q1, q2, q4, q5⟩ := h.nd5 b q
      exact ⟨q1, q2, q4, q5, fun s => (h.nl3 b s).2.2.2.2.1 q, fun s => (h.nl5 b s).2.2.1 q⟩
  have hEB : ∀ b, EB b3 b5 { r with dirty := ds } la3 da3 la5 da5 b → EB b3 b5 r la3 da3 la5 da5 b := by
    rintro b (q | q | q | ⟨q1, q2⟩ | q | q)
    · exact .inl q
    · exact .inr (.inl q)
    · exact .inr (.inr (.inl q))
    · exact .inr (.inr (.inr (.inl ⟨ne_ds (by have := ds_ne q1; simp only at this; omega), q2⟩)))
    · exact .inr (.inr (.inr (.inr (.inl q))))
    · exact .inr (.inr (.inr (.inr (.inr q))))
  obtain ⟨a1, c1, e1, li, _⟩ := GRow.lies rD
  cases e1
  have l5k := GRow.keep e.l5 hk (fun g q s => (hS g s).2.2.2.2.2 ((own_zero _ _ _).symm.trans q))
  refine ⟨⟨?_, ?_, ?_, li, l5k, d5, fun b q => e.mi b (hEB b q), e.n3, ?_, ?_, e.old, ?_, e.fits, e.nl, by show ds.length ≤ 100; have := e.nd; omega, Nat.le_trans e.NN hk.size, e.gB, e.gN, ?_, ?_, e.h5⟩, GRow.keep h.rL hk (fun g q s => (hS g s).2.2.2.2.1 ((own_zero _ _ _).symm.trans q)), rD, h.nl3, h.nd3, h.nl5, h.nd5⟩
  · rw [hrc]; exact e.x3.keep hk (fun s => (hS _ s).1 rfl)
  · rw [hrc]; exact e.x5.keep hk (fun s => (hS _ s).2.1 rfl)
  · exact e.l3.keepN hk (fun _ ad q s => (hS _ s).2.2.2.2.1 (own_of q))
  · intro q
    have := e.nd3 q
    exact ⟨this.1, by show ds.length = 0; omega⟩
  · exact e.bk.keep hk (fun b _ s => (hS b s).2.2.1)
  · exact e.kp.trans hk (fun b hb s => by have := (hS b s).2.2.2.1; omega)
  · intro g q
    have q' := e.nl5 g q
    exact ⟨q'.1, q'.2.1, fun s => q'.2.2 ((own_zero _ _ _).trans ((own_zero _ _ _).symm.trans s))⟩
  · intro g q
    exact e.nd5 g ((own_zero _ _ _).trans ((own_zero _ _ _).symm.trans q))
/-- The record gets lists of its own. -/
theorem ES.own {la6 da6 : Option Addr} {lc6 dc6 : Nat} (h : ES w0 B lab kb N b3 b5 wr labt n m r la3 lc3 da3 dc3 la5 lc5 da5 dc5) (hl : LRow wr N (.slice la6 r.live.length lc6) r.live) (hd : DRow wr N (.slice da6 r.dirty.length dc6) r.dirty) (ld : ∀ g, (Value.slice la6 r.live.length lc6).ownBlock = some g → (Value.slice da6 r.dirty.length dc6).ownBlock ≠ some g)
    (h9 : ∀ b, ((Value.slice la6 0 0).ownBlock = some b ∨ (Value.slice da6 0 0).ownBlock = some b) → labt b = 9) (x3 : RBox w' b3 36 (recC r la6 lc6 da6 dc6)) (hk : Keep (fun b => b = b3) wr w') (hne : b5 ≠ b3) (hb3 : w0.heap.size ≤ b3) :
    LS w0 B lab kb w'.heap.size b3 b5 w' labt n m r la6 lc6 da6 dc6 la5 lc5 da5 dc5 := by
  have m3 := h.mi b3 (.inl rfl)
  have m5 := h.mi b5 (.inr (.inl rfl))
  have hs := hk.size
  have NN := h.NN
  have gN := h.gN
  have gB := h.gB
  have lL : ∀ g, (Value.slice la6 0 0).ownBlock = some g → N ≤ g ∧ g < wr.heap.size := fun g q => World.ownsRow.lt hl g ((own_zero _ _ _).trans q)
  have lD : ∀ g, (Value.slice da6 0 0).ownBlock = some g → N ≤ g ∧ g < wr.heap.size := fun g q => World.ownsRow.lt hd g ((own_zero _ _ _).trans q)
  have ob : ∀ {a : Option Addr} {g : Nat}, (Value.slice a 0 0).ownBlock = some g → ∃ ad, a = some ad ∧ ad.block = g := by
    intro a g q
    cases a with
    | none => cases q
    | some ad => exact ⟨ad, rfl, by cases q; rfl⟩
  have mL : ∀ g, (Value.slice la5 0 0).ownBlock = some g → labt g = 9 ∧ g < N := fun g q => h.mi g (.inr (.inr (.inr (.inr (.inl (ob q))))))
  have mD : ∀ g, (Value.slice da5 0 0).ownBlock = some g → labt g = 9 ∧ g < N := fun g q => h.mi g (.inr (.inr (.inr (.inr (.inr (ob q))))))
  have kL := GRow.keep hl hk (fun g q s => by have := (lL g ((own_zero _ _ _).symm.trans q)).1; have e : g = b3 := s; omega)
  have kD := GRow.keep hd hk (fun g q s => by have := (lD g ((own_zero _ _ _).symm.trans q)).1; have e : g = b3 := s; omega)
  obtain ⟨a1, c1, e1, li, hn1, _, hnil1, _⟩ := GRow.lies kL
  cases e1
  obtain ⟨a2, c2, e2, lj, hn2, _, hnil2, _⟩ := GRow.lies kD
  cases e2
  refine ⟨⟨x3, h.x5.keep hk hne, li, lj, GRow.keep h.l5 hk (fun g q s => (h.nl5 g q).1 s), GRow.keep h.d5 hk (fun g q s => (h.nd5 g q).1 s), ?_, fun q => ⟨hnil1 q, by have := hnil1 q; omega⟩, fun q => ⟨hnil2 q, by have := hnil2 q; omega⟩, h.bk.keep hk (fun b _ s => by have e : b = b3 := s; rw [e]; exact m3.1), h.old, h.kp.trans hk (fun b hb s => by have e : b = b3 := s; omega), h.fits, h.nl, h.nd, Nat.le_refl _, gB, by omega, h.nl5, h.nd5, h.h5⟩, GRow.mono kL (by omega), GRow.mono kD (by omega), ?_, ?_, ?_, ?_⟩
  · rintro b (rfl | rfl | ⟨_, ad, q, rfl⟩ | ⟨_, ad, q, rfl⟩ | ⟨ad, q, rfl⟩ | ⟨ad, q, rfl⟩)
    · exact ⟨m3.1, by omega⟩
    · exact ⟨m5.1, by omega⟩
    · exact ⟨h9 _ (.inl (own_of q)), by have := (lL _ (own_of q)).2; omega⟩
    · exact ⟨h9 _ (.inr (own_of q)), by have := (lD _ (own_of q)).2; omega⟩
    · exact ⟨(mL _ (own_of q)).1, by have := (mL _ (own_of q)).2; omega⟩
    · exact ⟨(mD _ (own_of q)).1, by have := (mD _ (own_of q)).2; omega⟩
  · intro g q
    have lg := lL g q
    exact ⟨by omega, by omega, fun s => ld g ((own_zero _ _ _).trans q) ((own_zero _ _ _).trans s), fun s => by have := (mL g s).2; omega, fun s => by have := (mD g s).2; omega, h9 g (.inl q), by omega⟩
  · intro g q
    have lg := lD g q
    exact ⟨by omega, by omega, fun s => by have := (mL g s).2; omega, fun s => by have := (mD g s).2; omega, h9 g (.inr q), by omega⟩
  · intro g q
    have q5 := h.nl5 g ((own_zero _ _ _).trans q)
    exact ⟨q5.1, q5.2.1, fun s => q5.2.2 ((own_zero _ _ _).trans s), (mL g q).1, h.h5 g (.inl q)⟩
  · intro g q
    have q5 := h.nd5 g ((own_zero _ _ _).trans q)
    exact ⟨q5.1, q5.2, (mD g q).1, h.h5 g (.inr q)⟩
theorem ES.reN {N' : Nat} (h : ES w0 B lab kb N b3 b5 wr labt n m r la3 lc3 da3 dc3 la5 lc5 da5 dc5) (h1 : N ≤ N') (h2 : N' ≤ wr.heap.size) : ES w0 B lab kb N' b3 b5 wr labt n m r la3 lc3 da3 dc3 la5 lc5 da5 dc5 :=
  { h with
    mi := fun b q => ⟨(h.mi b q).1, Nat.lt_of_lt_of_le (h.mi b q).2 h1⟩
    NN := h2
    gN := Nat.le_trans h.gN h1 }
end
end Go.Proofs.Ytlibldioliicfaa
namespace Go.Proofs.Ytlibldioliicfaa
open Go.RowKit Go.QK
set_option maxRecDepth 100000
section
variable {w0 : World} {B : Nat} {lab : Nat → Nat} {kb N b3 b5 : Nat} {wr w' : World} {labt lab' : Nat → Nat} {n n' m : Nat} {r : RecM} {la3 : Option Addr} {lc3 : Nat} {da3 : Option Addr} {dc3 : Nat} {la5 : Option Addr} {lc5 : Nat} {da5 : Option Addr} {dc5 : Nat}
theorem LS.twoL {g3 g5 : Nat} (h : LS w0 B lab kb N b3 b5 wr labt n m r (some ⟨g3, 0, none⟩) lc3 da3 dc3 (some ⟨g5, 0, none⟩) lc5 da5 dc5) (i : Nat) (hi : i < r.live.length) (w1 : World) (h1 : Below wr.heap.size wr w1) :
    (w1.cell? ⟨b3, 14, none⟩ = some (.slice (some ⟨g3, 0, none⟩) r.live.length lc3) ∧ ∃ y0 : Int, w1.cell? ⟨g3, i * 4 + 1, none⟩ = some (.int .i64 y0)) ∧ w1.frozen? ⟨g3, i * 4 + 1, none⟩ = false ∧
    ∀ (y : Int), (w1.setCell ⟨g3, i * 4 + 1, none⟩ (.int .i64 y)).cell? ⟨b3, 14, none⟩ = some (.slice (some ⟨g3, 0, none⟩) r.live.length lc3) ∧
      ∀ w2, Below (w1.setCell ⟨g3, i * 4 + 1, none⟩ (.int .i64 y)).heap.size (w1.setCell ⟨g3, i * 4 + 1, none⟩ (.int .i64 y)) w2 →
        (w2.cell? ⟨b3, 14, none⟩ = some (.slice (some ⟨g3, 0, none⟩) r.live.length lc3) ∧ w2.cell? ⟨b5, 14, none⟩ = some (.slice (some ⟨g5, 0, none⟩) r.live.length lc5) ∧ w2.cell? ⟨g3, i * 4 + 1, none⟩ = some (.int .i64 y)) ∧ ((∃ y1 : Int, w2.cell? ⟨g5, i * 4 + 1, none⟩ = some (.int .i64 y1)) ∧ w2.frozen? ⟨g5, i * 4 + 1, none⟩ = false) ∧
        ((w2.setCell ⟨g5, i * 4 + 1, none⟩ (.int .i64 y)).cell? ⟨b3, 14, none⟩ = some (.slice (some ⟨g3, 0, none⟩) r.live.length lc3) ∧ (w2.setCell ⟨g5, i * 4 + 1, none⟩ (.int .i64 y)).cell? ⟨b5, 14, none⟩ = some (.slice (some ⟨g5, 0, none⟩) r.live.length lc5) ∧ (w2.setCell ⟨g5, i * 4 + 1, none⟩ (.int .i64 y)).cell? ⟨g3, i * 4 + 1, none⟩ = some (.int .i64 y)) ∧
        LS w0 B lab kb N b3 b5 (w2.setCell ⟨g5, i * 4 + 1, none⟩ (.int .i64 y)) labt n m { r with live := r.live.set i { r.live[i] with last := y } } (some ⟨g3, 0, none⟩) lc3 da3 dc3 (some ⟨g5, 0, none⟩) lc5 da5 dc5 := by
  have ne35 : g3 ≠ g5 := fun q => (h.nl3 g3 rfl).2.2.2.1 (by rw [q]; rfl)
  have n3 := h.nl3 g3 rfl
  have n5 := h.nl5 g5 rfl
  have x3 := h.es.x3.below h1
  have x5 := h.es.x5.below h1
  have h1r := GRow.below h.rL h1
  have h1l := GRow.below h.es.l5 h1
  obtain ⟨y0, _, q1, _⟩ := GRow.live4 (ls := r.live) h1r i hi
  refine ⟨⟨(x3.cells.get 14 _ rfl).1, _, q1.1⟩, q1.2, ?_⟩
  intro y
  have kA : Keep (fun b => b = g3) w1 (w1.setCell ⟨g3, i * 4 + 1, none⟩ (.int .i64 y)) := (Keep.refl (fun b => b = g3) w1).setCell (fun _ => rfl) _
  have x3A := x3.keep kA (fun q => n3.1 q.symm)
  have x5A := x5.keep kA (fun q => n3.2.1 q.symm)
  refine ⟨(x3A.cells.get 14 _ rfl).1, ?_⟩
  intro w2 h2
  have rA := LRow.setLast h1r i hi y
  have gA := GRow.put h1r (i * 4 + 1) (.int .i64 y)
  have lA := GRow.keep h1l kA (fun g q e => ne35 (by cases q; exact e.symm))
  have x3B := x3A.below h2
  have x5B := x5A.below h2
  have rB := GRow.below rA h2
  have gB := GRow.below gA h2
  have h2l := GRow.below lA h2
  have kB : Keep (fun b => b = g5) w2 (w2.setCell ⟨g5, i * 4 + 1, none⟩ (.int .i64 y)) := (Keep.refl (fun b => b = g5) w2).setCell (fun _ => rfl) _
  have x3C := x3B.keep kB (fun q => n5.1 q.symm)
  have x5C := x5B.keep kB (fun q => n5.2.1 q.symm)
  have rC := GRow.keep rB kB (fun g q e => ne35 (by cases q; exact e))
  have gC := GRow.keep gB kB (fun g q e => ne35 (by cases q; exact e))
  have hlen := liveCs_length r.live
  have hget : ((liveCs r.live).set (i * 4 + 1) (Value.int .i64 y))[i * 4 + 1]? = some (.int .i64 y) := by rw [List.getElem?_set_self (by omega)]
  obtain ⟨y1, _, p1, _⟩ := GRow.live4 h2l i (by simp; omega)
  refine ⟨⟨(x3B.cells.get 14 _ rfl).1, (x5B.cells.get 14 _ rfl).1, (GRow.cellAt gB _ _ hget).1⟩, ⟨⟨_, p1.1⟩, p1.2⟩, ⟨(x3C.cells.get 14 _ rfl).1, (x5C.cells.get 14 _ rfl).1, (GRow.cellAt gC _ _ hget).1⟩, ?_⟩
  have KK : Keep (fun b => (Value.slice (some ⟨g3, 0, none⟩) 0 0).ownBlock = some b ∨ (Value.slice (some ⟨g5, 0, none⟩) 0 0).ownBlock = some b) wr (w2.setCell ⟨g5, i * 4 + 1, none⟩ (.int .i64 y)) := by
    refine ((((Keep.of_below (S := fun b => (Value.slice (some ⟨g3, 0, none⟩) 0 0).ownBlock = some b ∨ (Value.slice (some ⟨g5, 0, none⟩) 0 0).ownBlock = some b) h1).trans kA (fun b _ q => .inl (by rw [q]; rfl))).then_below h2).trans kB (fun b _ q => .inr (by rw [q]; rfl)))
  have lC := LentL.setLast h2l i hi y
  exact h.stepL _ (by simp) KK (by rw [List.length_set]; exact rC) lC
theorem LS.twoD {g3 g5 : Nat} (h : LS w0 B lab kb N b3 b5 wr labt n m r la3 lc3 (some ⟨g3, 0, none⟩) dc3 la5 lc5 (some ⟨g5, 0, none⟩) dc5) (i : Nat) (hi : i < r.dirty.length) (w1 : World) (h1 : Below wr.heap.size wr w1) :
    (w1.cell? ⟨b3, 15, none⟩ = some (.slice (some ⟨g3, 0, none⟩) r.dirty.length dc3) ∧ ∃ y0 : Int, w1.cell? ⟨g3, i * 2 + 1, none⟩ = some (.int .i64 y0)) ∧ w1.frozen? ⟨g3, i * 2 + 1, none⟩ = false ∧
    ∀ (y : Int), (w1.setCell ⟨g3, i * 2 + 1, none⟩ (.int .i64 y)).cell? ⟨b3, 15, none⟩ = some (.slice (some ⟨g3, 0, none⟩) r.dirty.length dc3) ∧
      ∀ w2, Below (w1.setCell ⟨g3, i * 2 + 1, none⟩ (.int .i64 y)).heap.size (w1.setCell ⟨g3, i * 2 + 1, none⟩ (.int .i64 y)) w2 →
        (w2.cell? ⟨b3, 15, none⟩ = some (.slice (some ⟨g3, 0, none⟩) r.dirty.length dc3) ∧ w2.cell? ⟨b5, 15, none⟩ = some (.slice (some ⟨g5, 0, none⟩) r.dirty.length dc5) ∧ w2.cell? ⟨g3, i * 2 + 1, none⟩ = some (.int .i64 y)) ∧ ((∃ y1 : Int, w2.cell? ⟨g5, i * 2 + 1, none⟩ = some (.int .i64 y1)) ∧ w2.frozen? ⟨g5, i * 2 + 1, none⟩ = false) ∧
        ((w2.setCell ⟨g5, i * 2 + 1, none⟩ (.int .i64 y)).cell? ⟨b3, 15, none⟩ = some (.slice (some ⟨g3, 0, none⟩) r.dirty.length dc3) ∧ (w2.setCell ⟨g5, i * 2 + 1, none⟩ (.int .i64 y)).cell? ⟨b5, 15, none⟩ = some (.slice (some ⟨g5, 0, none⟩) r.dirty.length dc5) ∧ (w2.setCell ⟨g5, i * 2 + 1, none⟩ (.int .i64 y)).cell? ⟨g3, i * 2 + 1, none⟩ = some (.int .i64 y)) ∧
        LS w0 B lab kb N b3 b5 (w2.setCell ⟨g5, i * 2 + 1, none⟩ (.int .i64 y)) labt n m { r with dirty := r.dirty.set i { r.dirty[i] with since := y } } la3 lc3 (some ⟨g3, 0, none⟩) dc3 la5 lc5 (some ⟨g5, 0, none⟩) dc5 := by
  have ne35 : g3 ≠ g5 := fun q => (h.nd3 g3 rfl).2.2.2.1 (by rw [q]; rfl)
  have n3 := h.nd3 g3 rfl
  have n5 := h.nd5 g5 rfl
  have x3 := h.es.x3.below h1
  have x5 := h.es.x5.below h1
  have h1r := GRow.below h.rD h1
  have h1l := GRow.below h.es.d5 h1
  obtain ⟨y0, _, q1⟩ := GRow.dirty2 (ls := r.dirty) h1r i hi
  refine ⟨⟨(x3.cells.get 15 _ rfl).1, _, q1.1⟩, q1.2, ?_⟩
  intro y
  have kA : Keep (fun b => b = g3) w1 (w1.setCell ⟨g3, i * 2 + 1, none⟩ (.int .i64 y)) := (Keep.refl (fun b => b = g3) w1).setCell (fun _ => rfl) _
  have x3A := x3.keep kA (fun q => n3.1 q.symm)
  have x5A := x5.keep kA (fun q => n3.2.1 q.symm)
  refine ⟨(x3A.cells.get 15 _ rfl).1, ?_⟩
  intro w2 h2
  have rA := DRow.setSince h1r i hi y
  have gA := GRow.put h1r (i * 2 + 1) (.int .i64 y)
  have lA := GRow.keep h1l kA (fun g q e => ne35 (by cases q; exact e.symm))
  have x3B := x3A.below h2
  have x5B := x5A.below h2
  have rB := GRow.below rA h2
  have gB := GRow.below gA h2
  have h2l := GRow.below lA h2
  have kB : Keep (fun b => b = g5) w2 (w2.setCell ⟨g5, i * 2 + 1, none⟩ (.int .i64 y)) := (Keep.refl (fun b => b = g5) w2).setCell (fun _ => rfl) _
  have x3C := x3B.keep kB (fun q => n5.1 q.symm)
  have x5C := x5B.keep kB (fun q => n5.2.1 q.symm)
  have rC := GRow.keep rB kB (fun g q e => ne35 (by cases q; exact e))
  have gC := GRow.keep gB kB (fun g q e => ne35 (by cases q; exact e))
  have hlen := dirtyCs_length r.dirty
  have hget : ((dirtyCs r.dirty).set (i * 2 + 1) (Value.int .i64 y))[i * 2 + 1]? = some (.int .i64 y) := by rw [List.getElem?_set_self (by omega)]
  obtain ⟨y1, _, p1⟩ := GRow.dirty2 h2l i (by simp; omega)
  refine ⟨⟨(x3B.cells.get 15 _ rfl).1, (x5B.cells.get 15 _ rfl).1, (GRow.cellAt gB _ _ hget).1⟩, ⟨⟨_, p1.1⟩, p1.2⟩, ⟨(x3C.cells.get 15 _ rfl).1, (x5C.cells.get 15 _ rfl).1, (GRow.cellAt gC _ _ hget).1⟩, ?_⟩
  have KK : Keep (fun b => (Value.slice (some ⟨g3, 0, none⟩) 0 0).ownBlock = some b ∨ (Value.slice (some ⟨g5, 0, none⟩) 0 0).ownBlock = some b) wr (w2.setCell ⟨g5, i * 2 + 1, none⟩ (.int .i64 y)) := by
    refine ((((Keep.of_below (S := fun b => (Value.slice (some ⟨g3, 0, none⟩) 0 0).ownBlock = some b ∨ (Value.slice (some ⟨g5, 0, none⟩) 0 0).ownBlock = some b) h1).trans kA (fun b _ q => .inl (by rw [q]; rfl))).then_below h2).trans kB (fun b _ q => .inr (by rw [q]; rfl)))
  have lC := LentD.setSince h2l i hi y
  exact h.stepD _ (by simp) KK (by rw [List.length_set]; exact rC) lC
end
end Go.Proofs.Ytlibldioliicfaa
namespace Go.Proofs.Ytlibldioliicfaa
open Go.RowKit Go.QK
set_option maxRecDepth 100000
set_option maxHeartbeats 0 in
theorem encodes_any (w : World) (B : Nat) (lab : Nat → Nat) (kb n m : Nat) (hbk : BkE w B lab kb n m) (hnn : n + 4 ≤ 100000) (r : RecM) (la da : Option Addr) (lc dc : Nat) (hl : Lies w la (liveCs r.live)) (hd : Lies w da (dirtyCs r.dirty)) (hla : la = none → lc = 0 ∧ r.live.length = 0) (hda : da = none → dc = 0 ∧ r.dirty.length = 0) (hf : Fits r) (nl : r.live.length ≤ 100) (nd : r.dirty.length ≤ 100)
    (gl : liveCs r.live ≠ [] → ∀ ad, la = some ad → lab ad.block = 9) (gd : dirtyCs r.dirty ≠ [] → ∀ ad, da = some ad → lab ad.block = 9) (hB : B ≤ w.heap.size) :
    Calls Try.prog 18 #[.pointer (some ⟨kb, 0, none⟩), .agg (recC r la lc da dc)] w fun e w' => e = .returned (.bool true) ∧ ∃ lab', (∀ b, b < w.heap.size → lab' b = lab b) ∧ BkE w' B lab' kb (n + 4) m ∧ Keep (fun b => lab b ≠ 9) w w' := by
  have hi9 : ∀ b, w.heap.size ≤ b → lab b = 9 := by
    obtain ⟨_, _, _, _, _, _, _, _, _, _, _, _, h⟩ := hbk
    exact h.hi
  have C0 := hide (fun w' a b => lent_any r la da lc dc w' a b hla hda (by omega) (by omega))
  have R0 := RBox.new w (recC r la lc da dc) 36
  have B0 := alloc_below w (.cells (recC r la lc da dc) 36)
  generalize hw0 : w.alloc (.cells (recC r la lc da dc) 36) = w0 at *
  have HL := hide hl
  have HD := hide hd
  have HG := hide (And.intro gl gd)
  have HN := hide (And.intro hla hda)
  have HBK := hide hbk
  have HF := hide hf
  replace R0 := hide R0
  replace B0 := hide B0
  clear hl hd gl gd hla hda hbk hf
  go_enter Try.func18, Try.ntmps18
  go_upto_region 1 with fail
  clear hw0
  generalize Value.agg (recC r la lc da dc) = ra
  go_wp2_with (refine wpList_load36g R0.out rfl rfl rfl ?_)
  refine (C0.out _ (HL.out.below B0.out) (HD.out.below B0.out)).mono ?_
  rintro e w1 ⟨la5, da5, lc5, dc5, rfl, l5, d5, ld, b1⟩
  have lt0 := R0.out.lt
  have sb1 := b1.size
  have R1 := R0.out.below b1
  have B1 := bnext B0.out b1 (Nat.le_refl _)
  have ll := fun g q => World.ownsRow.lt l5 g q
  have dl := fun g q => World.ownsRow.lt d5 g q
  have aR := R1.below (alloc_below w1 (.cells #[.int .i64 0, .int .i64 0, .int .i64 0, .int .i64 0, .int .i64 0, .int .i64 0, .int .i64 0, .int .i64 0, .int .i64 0, .int .i64 0, .int .i64 0, .int .i64 0, .int .i64 0, .int .i64 0, .slice none 0 0, .slice none 0 0, .int .i64 0] 36))
  have aB := bnext B1 (alloc_below w1 (.cells #[.int .i64 0, .int .i64 0, .int .i64 0, .int .i64 0, .int .i64 0, .int .i64 0, .int .i64 0, .int .i64 0, .int .i64 0, .int .i64 0, .int .i64 0, .int .i64 0, .int .i64 0, .int .i64 0, .slice none 0 0, .slice none 0 0, .int .i64 0] 36)) (Nat.le_refl _)
  have aL := GRow.below l5 (alloc_below w1 (.cells #[.int .i64 0, .int .i64 0, .int .i64 0, .int .i64 0, .int .i64 0, .int .i64 0, .int .i64 0, .int .i64 0, .int .i64 0, .int .i64 0, .int .i64 0, .int .i64 0, .int .i64 0, .int .i64 0, .slice none 0 0, .slice none 0 0, .int .i64 0] 36))
  have aD := GRow.below d5 (alloc_below w1 (.cells #[.int .i64 0, .int .i64 0, .int .i64 0, .int .i64 0, .int .i64 0, .int .i64 0, .int .i64 0, .int .i64 0, .int .i64 0, .int .i64 0, .int .i64 0, .int .i64 0, .int .i64 0, .int .i64 0, .slice none 0 0, .slice none 0 0, .int .i64 0] 36))
  have sB0 := B0.out.size
  clear C0
  go_upto_region 2 with (refine wpList_store36 (RBox.new _ _ _) rfl rfl rfl rfl rfl ?_; intro w2 X2 hk2)
  have R2 := aR.keep hk2 (by omega)
  have L2 := GRow.keep aL hk2 (fun g q s => by have := (ll g q).2; have e : g = w1.heap.size := s; omega)
  have D2 := GRow.keep aD hk2 (fun g q s => by have := (dl g q).2; have e : g = w1.heap.size := s; omega)
  have B2 : Below w.heap.size w w2 := aB.trans (hk2.below aB.size (fun k hk q => by have e : k = w1.heap.size := q; omega))
  obtain ⟨gL, eL⟩ := GRow.addr L2 (by omega)
  obtain ⟨gD, eD⟩ := GRow.addr D2 (by omega)
  have hgL := ll gL (by rw [eL]; rfl)
  have hgD := dl gD (by rw [eD]; rfl)
  have ES0 : ES w B lab kb w2.heap.size w.heap.size w1.heap.size w2 lab n m r la lc da dc la5 lc5 da5 dc5 := by
    have x2lt := X2.lt
    have sw2 := B2.size
    refine ⟨R2, X2, HL.out.below B2, HD.out.below B2, GRow.mono L2 (by omega), GRow.mono D2 (by omega), ?_, HN.out.1, HN.out.2, HBK.out.below B2, fun _ _ => rfl, Keep.of_below B2, HF.out, nl, nd, Nat.le_refl _, hB, by omega, fun g q => ⟨by have := (ll g q).1; omega, by have := (ll g q).2; omega, fun q' => ld g ((own_len _ _ _ _).trans q) ((own_len _ _ _ _).trans q')⟩, fun g q => ⟨by have := (dl g q).1; omega, by have := (dl g q).2; omega⟩, fun g q => by
      rcases q with q | q
      · have := (ll g ((own_zero _ _ _).trans q)).1; omega
      · have := (dl g ((own_zero _ _ _).trans q)).1; omega⟩
    rintro b (rfl | rfl | ⟨hc, ad, q, rfl⟩ | ⟨hc, ad, q, rfl⟩ | ⟨ad, q, rfl⟩ | ⟨ad, q, rfl⟩)
    · exact ⟨hi9 _ (Nat.le_refl _), by omega⟩
    · exact ⟨hi9 _ (by omega), by omega⟩
    · refine ⟨HG.out.1 hc ad q, ?_⟩
      rcases HL.out with h | ⟨b', off', e', hlt, _⟩
      · exact absurd h hc
      · rw [e'] at q; cases q; exact Nat.lt_of_lt_of_le hlt sw2
    · refine ⟨HG.out.2 hc ad q, ?_⟩
      rcases HD.out with h | ⟨b', off', e', hlt, _⟩
      · exact absurd h hc
      · rw [e'] at q; cases q; exact Nat.lt_of_lt_of_le hlt sw2
    · rw [eL] at q; cases q; exact ⟨hi9 _ (by show _ ≤ gL; omega), by show gL < _; omega⟩
    · rw [eD] at q; cases q; exact ⟨hi9 _ (by show _ ≤ gD; omega), by show gD < _; omega⟩
  have ES0 := hide ES0
  have NE5 := hide (show w1.heap.size ≠ w.heap.size by omega)
  generalize w1.heap.size = b5 at *
  clear aR aB aL aD R2 L2 D2 B2 X2 hk2 ll dl l5 d5 ld b1 R1 B1 lt0 sb1 sB0 hgL hgD eL eD HL HD HG HN HBK HF R0 B0
  simp only [Act.put]
  go_upto_region 3 with fail
  go_loopw [6] (fun i wr => ∃ (tt : Nat) (labt : Nat → Nat) (rt : RecM) (la3 : Option Addr) (lc3 : Nat) (da3 : Option Addr) (dc3 : Nat) (la5 : Option Addr) (lc5 : Nat) (da5 : Option Addr) (dc5 : Nat), i = .int .i64 (tt : Int) ∧ tt ≤ 2 ∧ ES w B lab kb wr.heap.size w.heap.size b5 wr labt (n + 2 * tt) m rt la3 lc3 da3 dc3 la5 lc5 da5 dc5) (fun i _ => 2 - (intOf i).toNat)
  case atStart => exact ⟨0, lab, r, la, lc, da, dc, la5, lc5, da5, dc5, rfl, by omega, ES0.out⟩
  case round =>
    clear ES0
    obtain ⟨tt, labt, rt, la3, lc3, da3, dc3, la5, lc5, da5, dc5, rfl, htt, hes⟩ := hrel
    have H := hide hes
    clear hes
    by_cases hlt : tt < 2
    · have d1 : decide ((tt : Int) < 2) = true := decide_eq_true (by omega)
      have d2 : (tt : Int) < 2 := by omega
      have hi9t : Hid (∀ b, wr.heap.size ≤ b → labt b = 9) := by
        obtain ⟨_, _, _, _, _, _, _, _, _, _, _, _, h⟩ := H.out.bk
        exact h.hi
      have f1 := fun w' (h : ES w B lab kb wr.heap.size w.heap.size b5 w' labt (n + 2 * tt) m rt la3 lc3 da3 dc3 la5 lc5 da5 dc5) => check_any rt la5 da5 lc5 dc5 w' (LentL.front h.l5) (LentD.front h.d5)
      have f2 := fun w' (h : ES w B lab kb wr.heap.size w.heap.size b5 w' labt (n + 2 * tt) m rt la3 lc3 da3 dc3 la5 lc5 da5 dc5) => encode_any rt la5 da5 lc5 dc5 w' (LentL.front h.l5) (LentD.front h.d5) h.fits
      have f3 := fun w' (h : ES w B lab kb wr.heap.size w.heap.size b5 w' labt (n + 2 * tt) m rt la3 lc3 da3 dc3 la5 lc5 da5 dc5) => rEncode_any rt la3 da3 lc3 dc3 w' h.l3 h.d3 h.fits
      have f4 := fun w' (h : ES w B lab kb wr.heap.size w.heap.size b5 w' labt (n + 2 * tt) m rt la3 lc3 da3 dc3 la5 lc5 da5 dc5) => rCheck_any rt la3 da3 lc3 dc3 w' h.l3 h.d3
      have hLb : (encB rt).length ≤ 1000000 ∧ AllB (encB rt) := by
        unfold encB
        split
        · rename_i hq
          have k := chkE_ok hq
          exact ⟨by have := bytesR_len (okB_in k.2) H.out.fits k.1.1 k.1.2; omega, allB_forms _⟩
        · exact ⟨by simp, by intro x hx; simp at hx⟩
      have f5 := fun w' (h : ES w B lab kb wr.heap.size w.heap.size b5 w' labt (n + 2 * tt) m rt la3 lc3 da3 dc3 la5 lc5 da5 dc5) => kept_any rt B la5 da5 la3 da3 lc5 dc5 lc3 dc3 w' h.l5 h.d5 h.l3 h.d3 (by have := h.nl; omega) (by have := h.nd; omega)
      generalize encB rt = L at *
      generalize chkE rt = ce at *
      have F1 := hide f1
      have F2 := hide f2
      have F3 := hide f3
      have F4 := hide f4
      have F5 := hide f5
      have HLB := hide hLb
      have sB := hide (And.intro H.out.gB H.out.gN)
      clear f1 f2 f3 f4 f5 hLb
      obtain ⟨wo, hwo⟩ : ∃ wo : World, wo = wr := ⟨_, rfl⟩
      subst hwo
      go_wp2_with (refine wpList_load36g H.out.x5 rfl rfl rfl ?_)
      refine (F1.out _ H.out).mono ?_
      rintro e w3 ⟨rfl, b3⟩
      replace H := hide (H.out.below b3)
      have s3 := b3.size
      clear b3 F1
      go_wp2_with (refine wpList_load36g H.out.x5 rfl rfl rfl ?_)
      refine (F2.out _ H.out).mono ?_
      rintro e w4 ⟨va, rfl, oa, b4⟩
      replace H := hide (H.out.below b4)
      have s4 := b4.size
      have ga := fun g q => World.ownsRow.lt oa g q
      clear b4
      go_wp2_with (refine wpList_load36g H.out.x5 rfl rfl rfl ?_)
      refine (F2.out _ H.out).mono ?_
      rintro e w5 ⟨vb, rfl, ob, b5'⟩
      replace H := hide (H.out.below b5')
      have s5 := b5'.size
      have gb := fun g q => World.ownsRow.lt ob g q
      have oa5 := Owns.below oa b5'
      clear b5' F2 oa
      go_wp2_with (refine wpList_load36g H.out.x3 rfl rfl rfl ?_)
      refine (F3.out _ H.out).mono ?_
      rintro e w6 ⟨vw, rfl, ow, b6⟩
      replace H := hide (H.out.below b6)
      have s6 := b6.size
      have oa6 := Owns.below oa5 b6
      have ob6 := Owns.below ob b6
      clear F3 b6 oa5 ob
      obtain ⟨aa, ca, ea, ya, _, _, _⟩ := ownB_form oa6
      obtain ⟨ab, cb, eb, yb, _, _, _⟩ := ownB_form ob6
      obtain ⟨aw, cw, ew, yw, _, _, _⟩ := ownB_form ow
      subst ea eb ew
      have GA := hide ga
      have GB := hide gb
      have OA := hide oa6
      have OB := hide ob6
      have OW := hide (And.intro yw (And.intro ya yb))
      clear ga gb oa6 ob6 yw ya yb ow
      go_upto_region 9 with fail
      have FX := hide (And.intro H.out.x3 H.out.x5)
      replace H := hide (H.out.below (Below.refl _ _).drew)
      have OA := hide (Owns.below OA.out (Below.refl _ w6).drew)
      have OB := hide (Owns.below OB.out (Below.refl _ w6).drew)
      have OW := hide (And.intro (Seen.below OW.out.1 (Below.refl _ w6).drew) (And.intro (Seen.below OW.out.2.1 (Below.refl _ w6).drew) (Seen.below OW.out.2.2 (Below.refl _ w6).drew)))
      have s7 : w6.heap.size ≤ w6.drew.heap.size := (Below.refl w6.heap.size w6).drew.size
      refine wp_region_held_drew (S := fun wq => RBox wq w.heap.size 36 (recC rt la3 lc3 da3 dc3) ∧ RBox wq b5 36 (recC rt la5 lc5 da5 dc5)) (by kernel_rfl) FX.out (fun hS => ?_)
      generalize w6.drew = w7 at *
      clear FX
      refine take_at 0 (some 40) (v := ?_) rfl rfl (by kernel_rfl) (by kernel_rfl) (by kernel_rfl) (fun _ _ _ h => h) ⟨by rfl, ?_⟩ hS ?_
      rotate_left
      · intro wq hSw; go_simp; try rfl
      simp only [Act.put, List.setIfInBounds_toArray, List.set_cons_zero, List.set_cons_succ]
      refine take_at 2 (some 42) (v := ?_) rfl rfl (by kernel_rfl) (by kernel_rfl) (by kernel_rfl) (fun _ _ _ h => h) ⟨by rfl, ?_⟩ hS ?_
      rotate_left
      · intro wq hSw; refine (run_ld36 (x := .tmp 3) ?_ ?_ hSw.1 ?_) <;> rfl
      simp only [Act.put, List.setIfInBounds_toArray, List.set_cons_zero, List.set_cons_succ]
      refine wpAnyH_ready (rs := [1]) (by kernel_rfl) (by simp) ?_
      refine AllReadyH.cons rfl (fun K hK => ?_) AllReadyH.nil
      go_simp
      go_wp2_with fail
      refine (num_any (ce : Int) _).mono ?_
      rintro e wq ⟨rfl, hq⟩
      obtain rfl : w7 = wq := hq.symm
      go_wp2_with fail
      refine hK.out _ _ ⟨H.out.x3, H.out.x5⟩ (fun hS => ?_)
      clear hK K
      (try simp only [Act.put, List.setIfInBounds_toArray, List.set_cons_zero, List.set_cons_succ])
      refine wpAnyH_ready (rs := [3]) (by kernel_rfl) (by simp) ?_
      refine AllReadyH.cons rfl (fun K hK => ?_) AllReadyH.nil
      go_simp
      go_wp2_with fail
      refine (F4.out _ H.out).mono ?_
      rintro e w8 ⟨rfl, bb⟩
      replace H := hide (H.out.below bb)
      have OA := hide (Owns.below OA.out bb)
      have OB := hide (Owns.below OB.out bb)
      have OW := hide (And.intro (Seen.below OW.out.1 bb) (And.intro (Seen.below OW.out.2.1 bb) (Seen.below OW.out.2.2 bb)))
      have t_w8 := bb.size
      clear bb
      go_wp2_with fail
      refine hK.out _ _ ⟨H.out.x3, H.out.x5⟩ (fun hS => ?_)
      clear hK K
      (try simp only [Act.put, List.setIfInBounds_toArray, List.set_cons_zero, List.set_cons_succ])
      refine take_at 4 (some 44) (v := ?_) rfl rfl (by kernel_rfl) (by kernel_rfl) (by kernel_rfl) (fun _ _ _ h => h) ⟨by rfl, ?_⟩ hS ?_
      rotate_left
      · intro wq hSw; go_simp; try rfl
      simp only [Act.put, List.setIfInBounds_toArray, List.set_cons_zero, List.set_cons_succ]
      refine take_at 5 (some 45) (v := ?_) rfl rfl (by kernel_rfl) (by kernel_rfl) (by kernel_rfl) (fun _ _ _ h => h) ⟨by rfl, ?_⟩ hS ?_
      rotate_left
      · intro wq hSw; go_simp; try rfl
      simp only [Act.put, List.setIfInBounds_toArray, List.set_cons_zero, List.set_cons_succ]
      refine take_at 6 (some 46) (v := ?_) rfl rfl (by kernel_rfl) (by kernel_rfl) (by kernel_rfl) (fun _ _ _ h => h) ⟨by rfl, ?_⟩ hS ?_
      rotate_left
      · intro wq hSw; go_simp; try rfl
      simp only [Act.put, List.setIfInBounds_toArray, List.set_cons_zero, List.set_cons_succ]
      refine take_at 8 (some 48) (v := ?_) rfl rfl (by kernel_rfl) (by kernel_rfl) (by kernel_rfl) (fun _ _ _ h => h) ⟨by rfl, ?_⟩ hS ?_
      rotate_left
      · intro wq hSw; go_simp; try rfl
      simp only [Act.put, List.setIfInBounds_toArray, List.set_cons_zero, List.set_cons_succ]
      refine wpAnyH_ready (rs := [7]) (by kernel_rfl) (by simp) ?_
      refine AllReadyH.cons rfl (fun K hK => ?_) AllReadyH.nil
      go_simp
      go_wp2_with fail
      refine (num_any (ce : Int) _).mono ?_
      rintro e wq ⟨rfl, hq⟩
      obtain rfl : w8 = wq := hq.symm
      go_wp2_with fail
      refine hK.out _ _ ⟨H.out.x3, H.out.x5⟩ (fun hS => ?_)
      clear hK K
      (try simp only [Act.put, List.setIfInBounds_toArray, List.set_cons_zero, List.set_cons_succ])
      refine take_at 9 (some 49) (v := ?_) rfl rfl (by kernel_rfl) (by kernel_rfl) (by kernel_rfl) (fun _ _ _ h => h) ⟨by rfl, ?_⟩ hS ?_
      rotate_left
      · intro wq hSw; go_simp; try rfl
      simp only [Act.put, List.setIfInBounds_toArray, List.set_cons_zero, List.set_cons_succ]
      refine take_at 10 (some 50) (v := ?_) rfl rfl (by kernel_rfl) (by kernel_rfl) (by kernel_rfl) (fun _ _ _ h => h) ⟨by rfl, ?_⟩ hS ?_
      rotate_left
      · intro wq hSw; go_simp; try rfl
      simp only [Act.put, List.setIfInBounds_toArray, List.set_cons_zero, List.set_cons_succ]
      refine take_at 11 (some 51) (v := ?_) rfl rfl (by kernel_rfl) (by kernel_rfl) (by kernel_rfl) (fun _ _ _ h => h) ⟨by rfl, ?_⟩ hS ?_
      rotate_left
      · intro wq hSw; go_simp; try rfl
      simp only [Act.put, List.setIfInBounds_toArray, List.set_cons_zero, List.set_cons_succ]
      refine take_at 12 (some 52) (v := ?_) rfl rfl (by kernel_rfl) (by kernel_rfl) (by kernel_rfl) (fun _ _ _ h => h) ⟨by rfl, ?_⟩ hS ?_
      rotate_left
      · intro wq hSw; go_simp; try rfl
      simp only [Act.put, List.setIfInBounds_toArray, List.set_cons_zero, List.set_cons_succ]
      refine take_at 14 (some 54) (v := ?_) rfl rfl (by kernel_rfl) (by kernel_rfl) (by kernel_rfl) (fun _ _ _ h => h) ⟨by rfl, ?_⟩ hS ?_
      rotate_left
      · intro wq hSw; go_simp; try rfl
      simp only [Act.put, List.setIfInBounds_toArray, List.set_cons_zero, List.set_cons_succ]
      refine wpAnyH_ready (rs := [13]) (by kernel_rfl) (by simp) ?_
      refine AllReadyH.cons rfl (fun K hK => ?_) AllReadyH.nil
      go_simp
      go_wp2_with fail
      refine (num_any (ce : Int) _).mono ?_
      rintro e wq ⟨rfl, hq⟩
      obtain rfl : w8 = wq := hq.symm
      go_wp2_with fail
      refine hK.out _ _ ⟨H.out.x3, H.out.x5⟩ (fun hS => ?_)
      clear hK K
      (try simp only [Act.put, List.setIfInBounds_toArray, List.set_cons_zero, List.set_cons_succ])
      refine take_at 15 (some 55) (v := ?_) rfl rfl (by kernel_rfl) (by kernel_rfl) (by kernel_rfl) (fun _ _ _ h => h) ⟨by rfl, ?_⟩ hS ?_
      rotate_left
      · intro wq hSw; go_simp; try rfl
      simp only [Act.put, List.setIfInBounds_toArray, List.set_cons_zero, List.set_cons_succ]
      refine take_at 16 (some 56) (v := ?_) rfl rfl (by kernel_rfl) (by kernel_rfl) (by kernel_rfl) (fun _ _ _ h => h) ⟨by rfl, ?_⟩ hS ?_
      rotate_left
      · intro wq hSw; go_simp; try rfl
      simp only [Act.put, List.setIfInBounds_toArray, List.set_cons_zero, List.set_cons_succ]
      refine take_at 17 (some 57) (v := ?_) rfl rfl (by kernel_rfl) (by kernel_rfl) (by kernel_rfl) (fun _ _ _ h => h) ⟨by rfl, ?_⟩ hS ?_
      rotate_left
      · intro wq hSw; go_simp; try rfl
      simp only [Act.put, List.setIfInBounds_toArray, List.set_cons_zero, List.set_cons_succ]
      refine take_at 18 (some 58) (v := ?_) rfl rfl (by kernel_rfl) (by kernel_rfl) (by kernel_rfl) (fun _ _ _ h => h) ⟨by rfl, ?_⟩ hS ?_
      rotate_left
      · intro wq hSw; go_simp; try rfl
      simp only [Act.put, List.setIfInBounds_toArray, List.set_cons_zero, List.set_cons_succ]
      refine take_at 19 (some 59) (v := ?_) rfl rfl (by kernel_rfl) (by kernel_rfl) (by kernel_rfl) (fun _ _ _ h => h) ⟨by rfl, ?_⟩ hS ?_
      rotate_left
      · intro wq hSw; go_simp; try rfl
      simp only [Act.put, List.setIfInBounds_toArray, List.set_cons_zero, List.set_cons_succ]
      refine wpAnyH_ready (rs := [20]) (by kernel_rfl) (by simp) ?_
      refine AllReadyH.cons rfl (fun K hK => ?_) AllReadyH.nil
      go_simp
      go_wp2_with fail
      refine (same_any aa aw L L ca cw _ OW.out.2.1 OW.out.1 HLB.out.2 HLB.out.2).mono ?_
      rintro e wq ⟨rfl, hq⟩
      obtain rfl : w8 = wq := hq.symm
      rw [decide_eq_true (rfl : L = L)]
      go_wp2_with fail
      refine hK.out _ _ ⟨H.out.x3, H.out.x5⟩ (fun hS => ?_)
      clear hK K
      (try simp only [Act.put, List.setIfInBounds_toArray, List.set_cons_zero, List.set_cons_succ])
      refine take_at 21 (some 61) (v := ?_) rfl rfl (by kernel_rfl) (by kernel_rfl) (by kernel_rfl) (fun _ _ _ h => h) ⟨by rfl, ?_⟩ hS ?_
      rotate_left
      · intro wq hSw; go_simp; try rfl
      simp only [Act.put, List.setIfInBounds_toArray, List.set_cons_zero, List.set_cons_succ]
      refine take_at 22 (some 62) (v := ?_) rfl rfl (by kernel_rfl) (by kernel_rfl) (by kernel_rfl) (fun _ _ _ h => h) ⟨by rfl, ?_⟩ hS ?_
      rotate_left
      · intro wq hSw; go_simp; try rfl
      simp only [Act.put, List.setIfInBounds_toArray, List.set_cons_zero, List.set_cons_succ]
      refine take_at 23 (some 63) (v := ?_) rfl rfl (by kernel_rfl) (by kernel_rfl) (by kernel_rfl) (fun _ _ _ h => h) ⟨by rfl, ?_⟩ hS ?_
      rotate_left
      · intro wq hSw; go_simp; try rfl
      simp only [Act.put, List.setIfInBounds_toArray, List.set_cons_zero, List.set_cons_succ]
      refine take_at 24 (some 64) (v := ?_) rfl rfl (by kernel_rfl) (by kernel_rfl) (by kernel_rfl) (fun _ _ _ h => h) ⟨by rfl, ?_⟩ hS ?_
      rotate_left
      · intro wq hSw; go_simp; try rfl
      simp only [Act.put, List.setIfInBounds_toArray, List.set_cons_zero, List.set_cons_succ]
      refine wpAnyH_ready (rs := [25]) (by kernel_rfl) (by simp) ?_
      refine AllReadyH.cons rfl (fun K hK => ?_) AllReadyH.nil
      go_simp
      go_wp2_with fail
      refine (same_any ab aw L L cb cw _ OW.out.2.2 OW.out.1 HLB.out.2 HLB.out.2).mono ?_
      rintro e wq ⟨rfl, hq⟩
      obtain rfl : w8 = wq := hq.symm
      rw [decide_eq_true (rfl : L = L)]
      go_wp2_with fail
      refine hK.out _ _ ⟨H.out.x3, H.out.x5⟩ (fun hS => ?_)
      clear hK K
      (try simp only [Act.put, List.setIfInBounds_toArray, List.set_cons_zero, List.set_cons_succ])
      refine take_at 26 (some 66) (v := ?_) rfl rfl (by kernel_rfl) (by kernel_rfl) (by kernel_rfl) (fun _ _ _ h => h) ⟨by rfl, ?_⟩ hS ?_
      rotate_left
      · intro wq hSw; go_simp; try rfl
      simp only [Act.put, List.setIfInBounds_toArray, List.set_cons_zero, List.set_cons_succ]
      refine take_at 27 (some 67) (v := ?_) rfl rfl (by kernel_rfl) (by kernel_rfl) (by kernel_rfl) (fun _ _ _ h => h) ⟨by rfl, ?_⟩ hS ?_
      rotate_left
      · intro wq hSw; go_simp; try rfl
      simp only [Act.put, List.setIfInBounds_toArray, List.set_cons_zero, List.set_cons_succ]
      refine take_at 28 (some 68) (v := ?_) rfl rfl (by kernel_rfl) (by kernel_rfl) (by kernel_rfl) (fun _ _ _ h => h) ⟨by rfl, ?_⟩ hS ?_
      rotate_left
      · intro wq hSw; refine (run_ld36 (x := .tmp 5) ?_ ?_ hSw.2 ?_) <;> rfl
      simp only [Act.put, List.setIfInBounds_toArray, List.set_cons_zero, List.set_cons_succ]
      refine take_at 29 (some 69) (v := ?_) rfl rfl (by kernel_rfl) (by kernel_rfl) (by kernel_rfl) (fun _ _ _ h => h) ⟨by rfl, ?_⟩ hS ?_
      rotate_left
      · intro wq hSw; refine (run_ld36 (x := .tmp 3) ?_ ?_ hSw.1 ?_) <;> rfl
      simp only [Act.put, List.setIfInBounds_toArray, List.set_cons_zero, List.set_cons_succ]
      refine wpAnyH_ready (rs := [30]) (by kernel_rfl) (by simp) ?_
      refine AllReadyH.cons rfl (fun K hK => ?_) AllReadyH.nil
      go_simp
      go_wp2_with fail
      refine (F5.out _ H.out).mono ?_
      rintro e w9 ⟨rfl, bb⟩
      replace H := hide (H.out.below bb)
      have OA := hide (Owns.below OA.out bb)
      have OB := hide (Owns.below OB.out bb)
      have OW := hide (And.intro (Seen.below OW.out.1 bb) (And.intro (Seen.below OW.out.2.1 bb) (Seen.below OW.out.2.2 bb)))
      have t_w9 := bb.size
      clear bb
      go_wp2_with fail
      refine hK.out _ _ ⟨H.out.x3, H.out.x5⟩ (fun hS => ?_)
      clear hK K
      (try simp only [Act.put, List.setIfInBounds_toArray, List.set_cons_zero, List.set_cons_succ])
      refine take_at 31 (some 71) (v := ?_) rfl rfl (by kernel_rfl) (by kernel_rfl) (by kernel_rfl) (fun _ _ _ h => h) ⟨by rfl, ?_⟩ hS ?_
      rotate_left
      · intro wq hSw; go_simp; try rfl
      simp only [Act.put, List.setIfInBounds_toArray, List.set_cons_zero, List.set_cons_succ]
      refine take_at 32 (some 14) (v := ?_) rfl rfl (by kernel_rfl) (by kernel_rfl) (by kernel_rfl) (fun _ _ _ h => h) ⟨by rfl, ?_⟩ hS ?_
      rotate_left
      · intro wq hSw; go_simp; try rfl
      simp only [Act.put, List.setIfInBounds_toArray, List.set_cons_zero, List.set_cons_succ]
      refine wpAnyH_done (by kernel_rfl) ?_ _
      clear hS
      clear F4 F5 OW
      have GA' := hide (fun g (q : (Value.slice aa L.length ca).ownBlock = some g) => GA.out g q)
      have GB' := hide (fun g (q : (Value.slice ab L.length cb).ownBlock = some g) => GB.out g q)
      clear GA GB
      have NB := hide (And.intro sB.out (And.intro s3 (And.intro s4 (And.intro s5 (And.intro s6 s7)))))
      clear sB s3 s4 s5 s6 s7
      go_wp2_with fail
      refine (bytes_any w9 B labt kb (n + 2 * tt) m H.out.bk (by omega) aa ca L (Owns.mono OA.out (by have := NB.out; omega)) HLB.out.1 (fun g q => hi9t.out g (by have := NB.out; have := (GA'.out g q).1; omega))).mono ?_
      rintro e w10 ⟨rfl, lab1, k1⟩
      have OB1 := Owns.keep OB.out k1.keep (fun g q s => by
        have g1 := GB'.out g q
        have nb := NB.out
        rcases s with s | s
        · exact s (hi9t.out g (by omega))
        · have := (GA'.out g s).2
          omega)
      have lb1 : Hid (∀ g, (Value.slice ab L.length cb).ownBlock = some g → lab1 g = 9) := hide (fun g q => by
        have g1 := GB'.out g q
        have nb := NB.out
        rw [k1.old g ((World.ownsRow.lt OB.out g q).2) (fun s => by have := (GA'.out g s).2; omega)]
        exact hi9t.out g (by omega))
      replace H := hide (H.out.kept k1 (fun b q => by have := (GA'.out b q).1; have := NB.out; omega))
      replace OB := hide OB1
      clear k1 OB1 OA GA' hi9t
      go_wp2_with fail
      refine (bytes_any w10 B lab1 kb (n + 2 * tt + 1) m H.out.bk (by omega) ab cb L (Owns.mono OB.out (by have := NB.out; omega)) HLB.out.1 lb1.out).mono ?_
      rintro e w11 ⟨rfl, lab2, k2⟩
      replace H := hide (H.out.kept k2 (fun b q => by have := (GB'.out b q).1; have := NB.out; omega))
      clear k2 OB GB' lb1
      have H := hide (H.out.reN (N' := w11.heap.size) H.out.NN (Nat.le_refl _))
      have hi2 : Hid (∀ b, w11.heap.size ≤ b → lab2 b = 9) := by
        obtain ⟨_, _, _, _, _, _, _, _, _, _, _, _, h⟩ := H.out.bk
        exact h.hi
      have hne := hide (show b5 ≠ w.heap.size from NE5.out)
      go_wp2_with (refine wpList_load36g H.out.x3 rfl rfl rfl ?_)
      refine (Own_any rt la3 da3 lc3 dc3 w11 H.out.l3 H.out.d3 H.out.n3 H.out.nd3 (by have := H.out.nl; omega) (by have := H.out.nd; omega)).mono ?_
      rintro e w12 ⟨v12, rfl, ro, b12⟩
      obtain ⟨la6, da6, lc6, dc6, rfl, l6, d6, ld6⟩ := ro
      replace H := hide (H.out.below b12)
      have s12 := b12.size
      clear b12
      go_upto_region 15 with (refine wpList_store36 H.out.x3 rfl rfl rfl rfl rfl ?_; intro w13 X13 hk13)
      have HS := hide (H.out.own l6 d6 ld6 (fun b q => by
        rcases q with q | q
        · exact hi2.out b (World.ownsRow.lt l6 b ((own_zero _ _ _).trans q)).1
        · exact hi2.out b (World.ownsRow.lt d6 b ((own_zero _ _ _).trans q)).1) X13 hk13 hne.out (Nat.le_refl _))
      clear H l6 d6 ld6 X13 hk13 hi2 s12 HLB NB
      simp only [Act.put]
      go_upto_region 16 with fail
      go_loopw [15] (fun i wr => ∃ (kL : Nat) (lsL : List LiveM), i = .int .i64 (kL : Int) ∧ lsL.length = rt.live.length ∧ kL ≤ lsL.length ∧ LS w B lab kb w13.heap.size w.heap.size b5 wr lab2 (n + 2 * tt + 1 + 1) m { rt with live := lsL } la6 lc6 da6 dc6 la5 lc5 da5 dc5) (fun i _ => rt.live.length - (intOf i).toNat)
      case atStart => exact ⟨0, rt.live, rfl, rfl, Nat.zero_le _, HS.out⟩
      case round =>
        clear HS
        obtain ⟨kL, lsL, rfl, hlsL, hkL, hL⟩ := hrel
        have HS := hide hL
        clear hL
        have HLSL := hide hlsL
        clear hlsL
        by_cases hltL : kL < lsL.length
        · have d3 : decide ((kL : Int) < (lsL.length : Int)) = true := decide_eq_true (by omega)
          have d4 : (kL : Int) < (lsL.length : Int) := by omega
          have d5 : lsL.length ≤ 100 := HS.out.es.nl
          have ewx : IntKind.i64.wrap ((kL : Int) + 1) = (kL : Int) + 1 := by rw [IntKind.wrap_i64]; omega
          obtain ⟨g3, e3⟩ := GRow.addr HS.out.rL (show 0 < lsL.length by omega)
          obtain ⟨g5, e5⟩ := GRow.addr HS.out.es.l5 (by omega)
          subst e3 e5
          have cz := (HS.out.es.x3.cells.get 14 _ rfl).1
          simp only at cz
          obtain ⟨⟨c1, y0, c2⟩, f1, hall⟩ := HS.out.twoL kL hltL wr.drew (Below.refl _ _).drew
          simp only at c1 hall
          have HALL := hide hall
          clear hall HS
          go_upto_region 18 with fail
          clear cz
          go_cut [102] (fun _ w' => ∃ y : Int, w' = wr.drew.setCell ⟨g3, kL * 4 + 1, none⟩ (.int .i64 y))
          case first =>
            refine wp_region_held_drew (S := fun wq => wq.cell? ⟨w.heap.size, 14, none⟩ = some (.slice (some ⟨g3, 0, none⟩) lsL.length lc6)) (by kernel_rfl) c1 (fun hS => ?_)
            generalize wr.drew = we at *
            refine take_at 0 (some 90) (v := ?_) rfl rfl (by kernel_rfl) (by kernel_rfl) (by kernel_rfl) (fun _ _ _ h => h) ⟨by rfl, ?_⟩ hS ?_
            rotate_left
            · intro wq hSw; go_simp; try rfl
            simp only [Act.put, List.setIfInBounds_toArray, List.set_cons_zero, List.set_cons_succ]
            refine take_at 1 (some 91) (v := ?_) rfl rfl (by kernel_rfl) (by kernel_rfl) (by kernel_rfl) (fun _ _ _ h => h) ⟨by rfl, ?_⟩ hS ?_
            rotate_left
            · intro wq hSw; go_simp; try rfl
            simp only [Act.put, List.setIfInBounds_toArray, List.set_cons_zero, List.set_cons_succ]
            refine take_at 2 (some 92) (v := ?_) rfl rfl (by kernel_rfl) (by kernel_rfl) (by kernel_rfl) (fun _ _ _ h => h) ⟨by rfl, ?_⟩ hS ?_
            rotate_left
            · intro wq hSw; go_simp; try rfl
            simp only [Act.put, List.setIfInBounds_toArray, List.set_cons_zero, List.set_cons_succ]
            refine take_at 3 (some 93) (v := ?_) rfl rfl (by kernel_rfl) (by kernel_rfl) (by kernel_rfl) (fun _ _ _ h => h) ⟨by rfl, ?_⟩ hS ?_
            rotate_left
            · intro wq hSw; go_simp; try rfl
            simp only [Act.put, List.setIfInBounds_toArray, List.set_cons_zero, List.set_cons_succ]
            refine take_at 4 (some 94) (v := ?_) rfl rfl (by kernel_rfl) (by kernel_rfl) (by kernel_rfl) (fun _ _ _ h => h) ⟨by rfl, ?_⟩ hS ?_
            rotate_left
            · intro wq hSw; go_simp; try rfl
            simp only [Act.put, List.setIfInBounds_toArray, List.set_cons_zero, List.set_cons_succ]
            refine take_at 5 (some 95) (v := ?_) rfl rfl (by kernel_rfl) (by kernel_rfl) (by kernel_rfl) (fun _ _ _ h => h) ⟨by rfl, ?_⟩ hS ?_
            rotate_left
            · intro wq hSw; go_simp; try rfl
            simp only [Act.put, List.setIfInBounds_toArray, List.set_cons_zero, List.set_cons_succ]
            refine take_at 6 (some 96) (v := ?_) rfl rfl (by kernel_rfl) (by kernel_rfl) (by kernel_rfl) (fun _ _ _ h => h) ⟨by rfl, ?_⟩ hS ?_
            rotate_left
            · intro wq hSw; go_simp; try rfl
            simp only [Act.put, List.setIfInBounds_toArray, List.set_cons_zero, List.set_cons_succ]
            refine take_at 7 (some 97) (v := ?_) rfl rfl (by kernel_rfl) (by kernel_rfl) (by kernel_rfl) (fun _ _ _ h => h) ⟨by rfl, ?_⟩ hS ?_
            rotate_left
            · intro wq hSw; go_simp; try rfl
            simp only [Act.put, List.setIfInBounds_toArray, List.set_cons_zero, List.set_cons_succ]
            refine take_at 8 (some 98) (v := ?_) rfl rfl (by kernel_rfl) (by kernel_rfl) (by kernel_rfl) (fun _ _ _ h => h) ⟨by rfl, ?_⟩ hS ?_
            rotate_left
            · intro wq hSw; go_simp; try rfl
            simp only [Act.put, List.setIfInBounds_toArray, List.set_cons_zero, List.set_cons_succ]
            refine take_at 9 (some 99) (v := ?_) rfl rfl (by kernel_rfl) (by kernel_rfl) (by kernel_rfl) (fun _ _ _ h => h) ⟨by rfl, ?_⟩ hS ?_
            rotate_left
            · intro wq hSw; go_simp; try rfl
            simp only [Act.put, List.setIfInBounds_toArray, List.set_cons_zero, List.set_cons_succ]
            refine wpAnyH_ready (rs := [10]) (by kernel_rfl) (by simp) ?_
            refine AllReadyH.cons rfl (fun K hK => ?_) AllReadyH.nil
            have cl := c2
            go_simp
            go_wp2_with fail
            refine hK.out _ _ c1 (fun hS => ?_)
            clear hK K
            (try simp only [Act.put, List.setIfInBounds_toArray, List.set_cons_zero, List.set_cons_succ])
            clear cl
            refine take_at 11 (some 101) (v := ?_) rfl rfl (by kernel_rfl) (by kernel_rfl) (by kernel_rfl) (fun _ _ _ h => h) ⟨by rfl, ?_⟩ hS ?_
            rotate_left
            · intro wq hSw; go_simp; try rfl
            simp only [Act.put, List.setIfInBounds_toArray, List.set_cons_zero, List.set_cons_succ]
            refine take_at 12 (some 102) (v := ?_) rfl rfl (by kernel_rfl) (by kernel_rfl) (by kernel_rfl) (fun _ _ _ h => h) ⟨by rfl, ?_⟩ hS ?_
            rotate_left
            · intro wq hSw; go_simp; try rfl
            simp only [Act.put, List.setIfInBounds_toArray, List.set_cons_zero, List.set_cons_succ]
            refine take_at 13 (some 103) (v := ?_) rfl rfl (by kernel_rfl) (by kernel_rfl) (by kernel_rfl) (fun _ _ _ h => h) ⟨by rfl, ?_⟩ hS ?_
            rotate_left
            · intro wq hSw; go_simp; try rfl
            simp only [Act.put, List.setIfInBounds_toArray, List.set_cons_zero, List.set_cons_succ]
            refine take_at 14 (some 104) (v := ?_) rfl rfl (by kernel_rfl) (by kernel_rfl) (by kernel_rfl) (fun _ _ _ h => h) ⟨by rfl, ?_⟩ hS ?_
            rotate_left
            · intro wq hSw; go_simp; try rfl
            simp only [Act.put, List.setIfInBounds_toArray, List.set_cons_zero, List.set_cons_succ]
            refine wpAnyH_ready (rs := [15]) (by kernel_rfl) (by simp) ?_
            refine AllReadyH.cons rfl (fun K hK => ?_) AllReadyH.nil
            go_simp
            go_wp2_with fail
            refine hK.out _ _ (HALL.out _).1 (fun hS => ?_)
            clear hK K
            (try simp only [Act.put, List.setIfInBounds_toArray, List.set_cons_zero, List.set_cons_succ])
            refine wpAnyH_done (by kernel_rfl) ?_ _
            go_wp2_with fail
            go_meet
            exact ⟨_, by first | rfl | trivial⟩
          case rest =>
            obtain ⟨y, hcut⟩ := hcut
            obtain ⟨_, hq⟩ := HALL.out y
            obtain ⟨FB, ⟨⟨y1, c5⟩, f5⟩, FC, hLS⟩ := hq _ (Below.refl _ _).drew
            obtain ⟨wA, hwA⟩ : ∃ wA, wA = wr.drew.setCell ⟨g3, kL * 4 + 1, none⟩ (.int .i64 y) := ⟨_, rfl⟩
            have FB := hide FB
            have FC := hide FC
            have HS := hide hLS
            rw [← hwA] at hcut FB FC HS c5 f5
            clear hwA HALL hq hLS c1 c2 f1
            have hcut' := hcut.symm
            clear hcut
            subst hcut'
            go_upto_region 19 with fail
            refine wp_region_held_drew (S := fun wq => wq.cell? ⟨w.heap.size, 14, none⟩ = some (.slice (some ⟨g3, 0, none⟩) lsL.length lc6) ∧ wq.cell? ⟨b5, 14, none⟩ = some (.slice (some ⟨g5, 0, none⟩) lsL.length lc5) ∧ wq.cell? ⟨g3, kL * 4 + 1, none⟩ = some (.int .i64 y)) (by kernel_rfl) FB.out (fun hS => ?_)
            generalize wA.drew = we at *
            refine take_at 0 (some 105) (v := ?_) rfl rfl (by kernel_rfl) (by kernel_rfl) (by kernel_rfl) (fun _ _ _ h => h) ⟨by rfl, ?_⟩ hS ?_
            rotate_left
            · intro wq hSw; obtain ⟨v0, v1, v2⟩ := hSw; go_simp; try rfl
            simp only [Act.put, List.setIfInBounds_toArray, List.set_cons_zero, List.set_cons_succ]
            refine take_at 1 (some 106) (v := ?_) rfl rfl (by kernel_rfl) (by kernel_rfl) (by kernel_rfl) (fun _ _ _ h => h) ⟨by rfl, ?_⟩ hS ?_
            rotate_left
            · intro wq hSw; obtain ⟨v0, v1, v2⟩ := hSw; go_simp; try rfl
            simp only [Act.put, List.setIfInBounds_toArray, List.set_cons_zero, List.set_cons_succ]
            refine take_at 2 (some 107) (v := ?_) rfl rfl (by kernel_rfl) (by kernel_rfl) (by kernel_rfl) (fun _ _ _ h => h) ⟨by rfl, ?_⟩ hS ?_
            rotate_left
            · intro wq hSw; obtain ⟨v0, v1, v2⟩ := hSw; go_simp; try rfl
            simp only [Act.put, List.setIfInBounds_toArray, List.set_cons_zero, List.set_cons_succ]
            refine take_at 3 (some 108) (v := ?_) rfl rfl (by kernel_rfl) (by kernel_rfl) (by kernel_rfl) (fun _ _ _ h => h) ⟨by rfl, ?_⟩ hS ?_
            rotate_left
            · intro wq hSw; obtain ⟨v0, v1, v2⟩ := hSw; go_simp; try rfl
            simp only [Act.put, List.setIfInBounds_toArray, List.set_cons_zero, List.set_cons_succ]
            refine take_at 4 (some 109) (v := ?_) rfl rfl (by kernel_rfl) (by kernel_rfl) (by kernel_rfl) (fun _ _ _ h => h) ⟨by rfl, ?_⟩ hS ?_
            rotate_left
            · intro wq hSw; obtain ⟨v0, v1, v2⟩ := hSw; go_simp; try rfl
            simp only [Act.put, List.setIfInBounds_toArray, List.set_cons_zero, List.set_cons_succ]
            refine take_at 5 (some 110) (v := ?_) rfl rfl (by kernel_rfl) (by kernel_rfl) (by kernel_rfl) (fun _ _ _ h => h) ⟨by rfl, ?_⟩ hS ?_
            rotate_left
            · intro wq hSw; obtain ⟨v0, v1, v2⟩ := hSw; go_simp; try rfl
            simp only [Act.put, List.setIfInBounds_toArray, List.set_cons_zero, List.set_cons_succ]
            refine take_at 6 (some 111) (v := ?_) rfl rfl (by kernel_rfl) (by kernel_rfl) (by kernel_rfl) (fun _ _ _ h => h) ⟨by rfl, ?_⟩ hS ?_
            rotate_left
            · intro wq hSw; obtain ⟨v0, v1, v2⟩ := hSw; go_simp; try rfl
            simp only [Act.put, List.setIfInBounds_toArray, List.set_cons_zero, List.set_cons_succ]
            refine take_at 7 (some 112) (v := ?_) rfl rfl (by kernel_rfl) (by kernel_rfl) (by kernel_rfl) (fun _ _ _ h => h) ⟨by rfl, ?_⟩ hS ?_
            rotate_left
            · intro wq hSw; obtain ⟨v0, v1, v2⟩ := hSw; go_simp; try rfl
            simp only [Act.put, List.setIfInBounds_toArray, List.set_cons_zero, List.set_cons_succ]
            refine take_at 8 (some 113) (v := ?_) rfl rfl (by kernel_rfl) (by kernel_rfl) (by kernel_rfl) (fun _ _ _ h => h) ⟨by rfl, ?_⟩ hS ?_
            rotate_left
            · intro wq hSw; obtain ⟨v0, v1, v2⟩ := hSw; go_simp; try rfl
            simp only [Act.put, List.setIfInBounds_toArray, List.set_cons_zero, List.set_cons_succ]
            refine take_at 9 (some 114) (v := ?_) rfl rfl (by kernel_rfl) (by kernel_rfl) (by kernel_rfl) (fun _ _ _ h => h) ⟨by rfl, ?_⟩ hS ?_
            rotate_left
            · intro wq hSw; obtain ⟨v0, v1, v2⟩ := hSw; go_simp; try rfl
            simp only [Act.put, List.setIfInBounds_toArray, List.set_cons_zero, List.set_cons_succ]
            refine take_at 10 (some 115) (v := ?_) rfl rfl (by kernel_rfl) (by kernel_rfl) (by kernel_rfl) (fun _ _ _ h => h) ⟨by rfl, ?_⟩ hS ?_
            rotate_left
            · intro wq hSw; obtain ⟨v0, v1, v2⟩ := hSw; go_simp; try rfl
            simp only [Act.put, List.setIfInBounds_toArray, List.set_cons_zero, List.set_cons_succ]
            refine take_at 11 (some 116) (v := ?_) rfl rfl (by kernel_rfl) (by kernel_rfl) (by kernel_rfl) (fun _ _ _ h => h) ⟨by rfl, ?_⟩ hS ?_
            rotate_left
            · intro wq hSw; obtain ⟨v0, v1, v2⟩ := hSw; go_simp; try rfl
            simp only [Act.put, List.setIfInBounds_toArray, List.set_cons_zero, List.set_cons_succ]
            refine take_at 12 (some 117) (v := ?_) rfl rfl (by kernel_rfl) (by kernel_rfl) (by kernel_rfl) (fun _ _ _ h => h) ⟨by rfl, ?_⟩ hS ?_
            rotate_left
            · intro wq hSw; obtain ⟨v0, v1, v2⟩ := hSw; go_simp; try rfl
            simp only [Act.put, List.setIfInBounds_toArray, List.set_cons_zero, List.set_cons_succ]
            refine wpAnyH_ready (rs := [13]) (by kernel_rfl) (by simp) ?_
            refine AllReadyH.cons rfl (fun K hK => ?_) AllReadyH.nil
            go_simp
            go_wp2_with fail
            refine hK.out _ _ FC.out (fun hS => ?_)
            clear hK K
            (try simp only [Act.put, List.setIfInBounds_toArray, List.set_cons_zero, List.set_cons_succ])
            refine wpAnyH_done (by kernel_rfl) ?_ _
            clear hS c5 f5 FB FC
            go_wp2_with fail
            go_roundw
            case rel => exact ⟨kL + 1, _, by go_num, by rw [List.length_set]; exact HLSL.out, by rw [List.length_set]; exact hltL, HS.out⟩
            case measure => have := HLSL.out; simp [intOf]; omega
        · have d3 : decide ((kL : Int) < (lsL.length : Int)) = false := decide_eq_false (by omega)
          have cz := (HS.out.es.x3.cells.get 14 _ rfl).1
          simp only at cz
          go_wp2_with fail
          clear cz
          go_loopw [16] (fun i wr => ∃ (kD : Nat) (lsD : List DirtyM), i = .int .i64 (kD : Int) ∧ lsD.length = rt.dirty.length ∧ kD ≤ lsD.length ∧ LS w B lab kb w13.heap.size w.heap.size b5 wr lab2 (n + 2 * tt + 1 + 1) m { rt with live := lsL, dirty := lsD } la6 lc6 da6 dc6 la5 lc5 da5 dc5) (fun i _ => rt.dirty.length - (intOf i).toNat)
          case atStart => exact ⟨0, rt.dirty, rfl, rfl, Nat.zero_le _, HS.out⟩
          case round =>
            clear HS
            obtain ⟨kD, lsD, rfl, hlsD, hkD, hL⟩ := hrel
            have HS := hide hL
            clear hL
            have HLSD := hide hlsD
            clear hlsD
            by_cases hltD : kD < lsD.length
            · have d3 : decide ((kD : Int) < (lsD.length : Int)) = true := decide_eq_true (by omega)
              have d4 : (kD : Int) < (lsD.length : Int) := by omega
              have d5 : lsD.length ≤ 100 := HS.out.es.nd
              have ewx : IntKind.i64.wrap ((kD : Int) + 1) = (kD : Int) + 1 := by rw [IntKind.wrap_i64]; omega
              obtain ⟨g3, e3⟩ := GRow.addr HS.out.rD (show 0 < lsD.length by omega)
              obtain ⟨g5, e5⟩ := GRow.addr HS.out.es.d5 (by omega)
              subst e3 e5
              have cz := (HS.out.es.x3.cells.get 15 _ rfl).1
              simp only at cz
              obtain ⟨⟨c1, y0, c2⟩, f1, hall⟩ := HS.out.twoD kD hltD wr.drew (Below.refl _ _).drew
              simp only at c1 hall
              have HALL := hide hall
              clear hall HS
              go_upto_region 23 with fail
              clear cz
              go_cut [138] (fun _ w' => ∃ y : Int, w' = wr.drew.setCell ⟨g3, kD * 2 + 1, none⟩ (.int .i64 y))
              case first =>
                refine wp_region_held_drew (S := fun wq => wq.cell? ⟨w.heap.size, 15, none⟩ = some (.slice (some ⟨g3, 0, none⟩) lsD.length dc6)) (by kernel_rfl) c1 (fun hS => ?_)
                generalize wr.drew = we at *
                refine take_at 0 (some 126) (v := ?_) rfl rfl (by kernel_rfl) (by kernel_rfl) (by kernel_rfl) (fun _ _ _ h => h) ⟨by rfl, ?_⟩ hS ?_
                rotate_left
                · intro wq hSw; go_simp; try rfl
                simp only [Act.put, List.setIfInBounds_toArray, List.set_cons_zero, List.set_cons_succ]
                refine take_at 1 (some 127) (v := ?_) rfl rfl (by kernel_rfl) (by kernel_rfl) (by kernel_rfl) (fun _ _ _ h => h) ⟨by rfl, ?_⟩ hS ?_
                rotate_left
                · intro wq hSw; go_simp; try rfl
                simp only [Act.put, List.setIfInBounds_toArray, List.set_cons_zero, List.set_cons_succ]
                refine take_at 2 (some 128) (v := ?_) rfl rfl (by kernel_rfl) (by kernel_rfl) (by kernel_rfl) (fun _ _ _ h => h) ⟨by rfl, ?_⟩ hS ?_
                rotate_left
                · intro wq hSw; go_simp; try rfl
                simp only [Act.put, List.setIfInBounds_toArray, List.set_cons_zero, List.set_cons_succ]
                refine take_at 3 (some 129) (v := ?_) rfl rfl (by kernel_rfl) (by kernel_rfl) (by kernel_rfl) (fun _ _ _ h => h) ⟨by rfl, ?_⟩ hS ?_
                rotate_left
                · intro wq hSw; go_simp; try rfl
                simp only [Act.put, List.setIfInBounds_toArray, List.set_cons_zero, List.set_cons_succ]
                refine take_at 4 (some 130) (v := ?_) rfl rfl (by kernel_rfl) (by kernel_rfl) (by kernel_rfl) (fun _ _ _ h => h) ⟨by rfl, ?_⟩ hS ?_
                rotate_left
                · intro wq hSw; go_simp; try rfl
                simp only [Act.put, List.setIfInBounds_toArray, List.set_cons_zero, List.set_cons_succ]
                refine take_at 5 (some 131) (v := ?_) rfl rfl (by kernel_rfl) (by kernel_rfl) (by kernel_rfl) (fun _ _ _ h => h) ⟨by rfl, ?_⟩ hS ?_
                rotate_left
                · intro wq hSw; go_simp; try rfl
                simp only [Act.put, List.setIfInBounds_toArray, List.set_cons_zero, List.set_cons_succ]
                refine take_at 6 (some 132) (v := ?_) rfl rfl (by kernel_rfl) (by kernel_rfl) (by kernel_rfl) (fun _ _ _ h => h) ⟨by rfl, ?_⟩ hS ?_
                rotate_left
                · intro wq hSw; go_simp; try rfl
                simp only [Act.put, List.setIfInBounds_toArray, List.set_cons_zero, List.set_cons_succ]
                refine take_at 7 (some 133) (v := ?_) rfl rfl (by kernel_rfl) (by kernel_rfl) (by kernel_rfl) (fun _ _ _ h => h) ⟨by rfl, ?_⟩ hS ?_
                rotate_left
                · intro wq hSw; go_simp; try rfl
                simp only [Act.put, List.setIfInBounds_toArray, List.set_cons_zero, List.set_cons_succ]
                refine take_at 8 (some 134) (v := ?_) rfl rfl (by kernel_rfl) (by kernel_rfl) (by kernel_rfl) (fun _ _ _ h => h) ⟨by rfl, ?_⟩ hS ?_
                rotate_left
                · intro wq hSw; go_simp; try rfl
                simp only [Act.put, List.setIfInBounds_toArray, List.set_cons_zero, List.set_cons_succ]
                refine take_at 9 (some 135) (v := ?_) rfl rfl (by kernel_rfl) (by kernel_rfl) (by kernel_rfl) (fun _ _ _ h => h) ⟨by rfl, ?_⟩ hS ?_
                rotate_left
                · intro wq hSw; go_simp; try rfl
                simp only [Act.put, List.setIfInBounds_toArray, List.set_cons_zero, List.set_cons_succ]
                refine wpAnyH_ready (rs := [10]) (by kernel_rfl) (by simp) ?_
                refine AllReadyH.cons rfl (fun K hK => ?_) AllReadyH.nil
                have cl := c2
                go_simp
                go_wp2_with fail
                refine hK.out _ _ c1 (fun hS => ?_)
                clear hK K
                (try simp only [Act.put, List.setIfInBounds_toArray, List.set_cons_zero, List.set_cons_succ])
                clear cl
                refine take_at 11 (some 137) (v := ?_) rfl rfl (by kernel_rfl) (by kernel_rfl) (by kernel_rfl) (fun _ _ _ h => h) ⟨by rfl, ?_⟩ hS ?_
                rotate_left
                · intro wq hSw; go_simp; try rfl
                simp only [Act.put, List.setIfInBounds_toArray, List.set_cons_zero, List.set_cons_succ]
                refine take_at 12 (some 138) (v := ?_) rfl rfl (by kernel_rfl) (by kernel_rfl) (by kernel_rfl) (fun _ _ _ h => h) ⟨by rfl, ?_⟩ hS ?_
                rotate_left
                · intro wq hSw; go_simp; try rfl
                simp only [Act.put, List.setIfInBounds_toArray, List.set_cons_zero, List.set_cons_succ]
                refine take_at 13 (some 139) (v := ?_) rfl rfl (by kernel_rfl) (by kernel_rfl) (by kernel_rfl) (fun _ _ _ h => h) ⟨by rfl, ?_⟩ hS ?_
                rotate_left
                · intro wq hSw; go_simp; try rfl
                simp only [Act.put, List.setIfInBounds_toArray, List.set_cons_zero, List.set_cons_succ]
                refine take_at 14 (some 140) (v := ?_) rfl rfl (by kernel_rfl) (by kernel_rfl) (by kernel_rfl) (fun _ _ _ h => h) ⟨by rfl, ?_⟩ hS ?_
                rotate_left
                · intro wq hSw; go_simp; try rfl
                simp only [Act.put, List.setIfInBounds_toArray, List.set_cons_zero, List.set_cons_succ]
                refine wpAnyH_ready (rs := [15]) (by kernel_rfl) (by simp) ?_
                refine AllReadyH.cons rfl (fun K hK => ?_) AllReadyH.nil
                go_simp
                go_wp2_with fail
                refine hK.out _ _ (HALL.out _).1 (fun hS => ?_)
                clear hK K
                (try simp only [Act.put, List.setIfInBounds_toArray, List.set_cons_zero, List.set_cons_succ])
                refine wpAnyH_done (by kernel_rfl) ?_ _
                go_wp2_with fail
                go_meet
                exact ⟨_, by first | rfl | trivial⟩
              case rest =>
                obtain ⟨y, hcut⟩ := hcut
                obtain ⟨_, hq⟩ := HALL.out y
                obtain ⟨FB, ⟨⟨y1, c5⟩, f5⟩, FC, hLS⟩ := hq _ (Below.refl _ _).drew
                obtain ⟨wA, hwA⟩ : ∃ wA, wA = wr.drew.setCell ⟨g3, kD * 2 + 1, none⟩ (.int .i64 y) := ⟨_, rfl⟩
                have FB := hide FB
                have FC := hide FC
                have HS := hide hLS
                rw [← hwA] at hcut FB FC HS c5 f5
                clear hwA HALL hq hLS c1 c2 f1
                have hcut' := hcut.symm
                clear hcut
                subst hcut'
                go_upto_region 24 with fail
                refine wp_region_held_drew (S := fun wq => wq.cell? ⟨w.heap.size, 15, none⟩ = some (.slice (some ⟨g3, 0, none⟩) lsD.length dc6) ∧ wq.cell? ⟨b5, 15, none⟩ = some (.slice (some ⟨g5, 0, none⟩) lsD.length dc5) ∧ wq.cell? ⟨g3, kD * 2 + 1, none⟩ = some (.int .i64 y)) (by kernel_rfl) FB.out (fun hS => ?_)
                generalize wA.drew = we at *
                refine take_at 0 (some 141) (v := ?_) rfl rfl (by kernel_rfl) (by kernel_rfl) (by kernel_rfl) (fun _ _ _ h => h) ⟨by rfl, ?_⟩ hS ?_
                rotate_left
                · intro wq hSw; obtain ⟨v0, v1, v2⟩ := hSw; go_simp; try rfl
                simp only [Act.put, List.setIfInBounds_toArray, List.set_cons_zero, List.set_cons_succ]
                refine take_at 1 (some 142) (v := ?_) rfl rfl (by kernel_rfl) (by kernel_rfl) (by kernel_rfl) (fun _ _ _ h => h) ⟨by rfl, ?_⟩ hS ?_
                rotate_left
                · intro wq hSw; obtain ⟨v0, v1, v2⟩ := hSw; go_simp; try rfl
                simp only [Act.put, List.setIfInBounds_toArray, List.set_cons_zero, List.set_cons_succ]
                refine take_at 2 (some 143) (v := ?_) rfl rfl (by kernel_rfl) (by kernel_rfl) (by kernel_rfl) (fun _ _ _ h => h) ⟨by rfl, ?_⟩ hS ?_
                rotate_left
                · intro wq hSw; obtain ⟨v0, v1, v2⟩ := hSw; go_simp; try rfl
                simp only [Act.put, List.setIfInBounds_toArray, List.set_cons_zero, List.set_cons_succ]
                refine take_at 3 (some 144) (v := ?_) rfl rfl (by kernel_rfl) (by kernel_rfl) (by kernel_rfl) (fun _ _ _ h => h) ⟨by rfl, ?_⟩ hS ?_
                rotate_left
                · intro wq hSw; obtain ⟨v0, v1, v2⟩ := hSw; go_simp; try rfl
                simp only [Act.put, List.setIfInBounds_toArray, List.set_cons_zero, List.set_cons_succ]
                refine take_at 4 (some 145) (v := ?_) rfl rfl (by kernel_rfl) (by kernel_rfl) (by kernel_rfl) (fun _ _ _ h => h) ⟨by rfl, ?_⟩ hS ?_
                rotate_left
                · intro wq hSw; obtain ⟨v0, v1, v2⟩ := hSw; go_simp; try rfl
                simp only [Act.put, List.setIfInBounds_toArray, List.set_cons_zero, List.set_cons_succ]
                refine take_at 5 (some 146) (v := ?_) rfl rfl (by kernel_rfl) (by kernel_rfl) (by kernel_rfl) (fun _ _ _ h => h) ⟨by rfl, ?_⟩ hS ?_
                rotate_left
                · intro wq hSw; obtain ⟨v0, v1, v2⟩ := hSw; go_simp; try rfl
                simp only [Act.put, List.setIfInBounds_toArray, List.set_cons_zero, List.set_cons_succ]
                refine take_at 6 (some 147) (v := ?_) rfl rfl (by kernel_rfl) (by kernel_rfl) (by kernel_rfl) (fun _ _ _ h => h) ⟨by rfl, ?_⟩ hS ?_
                rotate_left
                · intro wq hSw; obtain ⟨v0, v1, v2⟩ := hSw; go_simp; try rfl
                simp only [Act.put, List.setIfInBounds_toArray, List.set_cons_zero, List.set_cons_succ]
                refine take_at 7 (some 148) (v := ?_) rfl rfl (by kernel_rfl) (by kernel_rfl) (by kernel_rfl) (fun _ _ _ h => h) ⟨by rfl, ?_⟩ hS ?_
                rotate_left
                · intro wq hSw; obtain ⟨v0, v1, v2⟩ := hSw; go_simp; try rfl
                simp only [Act.put, List.setIfInBounds_toArray, List.set_cons_zero, List.set_cons_succ]
                refine take_at 8 (some 149) (v := ?_) rfl rfl (by kernel_rfl) (by kernel_rfl) (by kernel_rfl) (fun _ _ _ h => h) ⟨by rfl, ?_⟩ hS ?_
                rotate_left
                · intro wq hSw; obtain ⟨v0, v1, v2⟩ := hSw; go_simp; try rfl
                simp only [Act.put, List.setIfInBounds_toArray, List.set_cons_zero, List.set_cons_succ]
                refine take_at 9 (some 150) (v := ?_) rfl rfl (by kernel_rfl) (by kernel_rfl) (by kernel_rfl) (fun _ _ _ h => h) ⟨by rfl, ?_⟩ hS ?_
                rotate_left
                · intro wq hSw; obtain ⟨v0, v1, v2⟩ := hSw; go_simp; try rfl
                simp only [Act.put, List.setIfInBounds_toArray, List.set_cons_zero, List.set_cons_succ]
                refine take_at 10 (some 151) (v := ?_) rfl rfl (by kernel_rfl) (by kernel_rfl) (by kernel_rfl) (fun _ _ _ h => h) ⟨by rfl, ?_⟩ hS ?_
                rotate_left
                · intro wq hSw; obtain ⟨v0, v1, v2⟩ := hSw; go_simp; try rfl
                simp only [Act.put, List.setIfInBounds_toArray, List.set_cons_zero, List.set_cons_succ]
                refine take_at 11 (some 152) (v := ?_) rfl rfl (by kernel_rfl) (by kernel_rfl) (by kernel_rfl) (fun _ _ _ h => h) ⟨by rfl, ?_⟩ hS ?_
                rotate_left
                · intro wq hSw; obtain ⟨v0, v1, v2⟩ := hSw; go_simp; try rfl
                simp only [Act.put, List.setIfInBounds_toArray, List.set_cons_zero, List.set_cons_succ]
                refine take_at 12 (some 153) (v := ?_) rfl rfl (by kernel_rfl) (by kernel_rfl) (by kernel_rfl) (fun _ _ _ h => h) ⟨by rfl, ?_⟩ hS ?_
                rotate_left
                · intro wq hSw; obtain ⟨v0, v1, v2⟩ := hSw; go_simp; try rfl
                simp only [Act.put, List.setIfInBounds_toArray, List.set_cons_zero, List.set_cons_succ]
                refine wpAnyH_ready (rs := [13]) (by kernel_rfl) (by simp) ?_
                refine AllReadyH.cons rfl (fun K hK => ?_) AllReadyH.nil
                go_simp
                go_wp2_with fail
                refine hK.out _ _ FC.out (fun hS => ?_)
                clear hK K
                (try simp only [Act.put, List.setIfInBounds_toArray, List.set_cons_zero, List.set_cons_succ])
                refine wpAnyH_done (by kernel_rfl) ?_ _
                clear hS c5 f5 FB FC
                go_wp2_with fail
                go_roundw
                case rel => exact ⟨kD + 1, _, by go_num, by rw [List.length_set]; exact HLSD.out, by rw [List.length_set]; exact hltD, HS.out⟩
                case measure => have := HLSD.out; simp [intOf]; omega
            · have d3 : decide ((kD : Int) < (lsD.length : Int)) = false := decide_eq_false (by omega)
              have cz := (HS.out.es.x3.cells.get 15 _ rfl).1
              simp only at cz
              go_wp2_with fail
              clear cz
              have hnn2 : n + 2 * tt + 1 + 1 = n + 2 * (tt + 1) := by omega
              have HES := HS.out.es
              rw [hnn2] at HES
              have HE := hide (HES.reN (N' := wr.heap.size) HES.NN (Nat.le_refl _))
              clear HES hnn2 HS
              go_roundw
              case rel => exact ⟨tt + 1, lab2, _, la6, lc6, da6, dc6, la5, lc5, da5, dc5, by go_num, by omega, HE.out⟩
              case measure => simp [intOf]; omega
    · have d1 : decide ((tt : Int) < 2) = false := decide_eq_false (by omega)
      have ht : n + 2 * tt = n + 4 := by omega
      have HB := H.out.bk
      rw [ht] at HB
      have HE := hide (And.intro H.out.old (And.intro HB H.out.kp))
      clear HB ht H
      go_wp2_with fail
      go_ret
      exact ⟨by first | rfl | simp, labt, HE.out.1, HE.out.2.1, HE.out.2.2⟩
end Go.Proofs.Ytlibldioliicfaa
namespace Go.Proofs.Ytlibldioliicfaa
open Go.RowKit Go.QK
set_option maxRecDepth 100000
theorem decM_len (l : List Nat) : (decM l).1.live.length ≤ 32 ∧ (decM l).1.dirty.length ≤ 16 := by
  unfold decM
  split
  · exact ⟨by simp [zeroR], by simp [zeroR]⟩
  · unfold restM
    simp only
    split
    · exact ⟨by simp [zeroR], by simp [zeroR]⟩
    · split
      · exact ⟨by simp [zeroR], by simp [zeroR]⟩
      · rename_i h
        have k := okB_in (chkE_ok (Classical.not_not.1 h)).2
        exact ⟨k.ll, k.dl⟩
/-- How 'decodes' stands: the bytes with the mark, the bytes now, the book. -/
structure DS (w0 : World) (B : Nat) (lab : Nat → Nat) (kb : Nat) (wr : World) (labt : Nat → Nat) (n m : Nat) (x : List Nat) (k : Nat) (ao : Option Addr) (co : Nat) (an : Option Addr) (cn : Nat) : Prop where
  oo : OwnB wr B (.slice ao (k + 1) co) (x ++ [90])
  on : OwnB wr B (.slice an k cn) x
  len : x.length = k
  ab : AllB x
  lo : ∀ g, (Value.slice ao 0 0).ownBlock = some g → labt g = 9 ∧ w0.heap.size ≤ g ∧ (Value.slice an 0 0).ownBlock ≠ some g
  ln : ∀ g, (Value.slice an 0 0).ownBlock = some g → labt g = 9 ∧ w0.heap.size ≤ g
  bk : BkE wr B labt kb n m
  old : ∀ b, b < w0.heap.size → labt b = lab b
  kp : Keep (fun b => lab b ≠ 9) w0 wr
  gB : B ≤ w0.heap.size
section
variable {w0 : World} {B : Nat} {lab : Nat → Nat} {kb : Nat} {wr w' : World} {labt lab' : Nat → Nat} {n m m' : Nat} {x x' : List Nat} {k : Nat} {ao : Option Addr} {co : Nat} {an : Option Addr} {cn : Nat}
theorem DS.below (h : DS w0 B lab kb wr labt n m x k ao co an cn) (hk : Below wr.heap.size wr w') : DS w0 B lab kb w' labt n m x k ao co an cn :=
  { h with oo := Owns.below h.oo hk, on := Owns.below h.on hk, bk := h.bk.below hk, kp := h.kp.then_below hk }
theorem DS.box {b : Nat} (h : DS w0 B lab kb wr labt n m x k ao co an cn) (hk : Keep (fun j => j = b) wr w') (h9 : labt b = 9) (hb : w0.heap.size ≤ b) (ho : ∀ g, (Value.slice ao 0 0).ownBlock = some g → g ≠ b) (hn : ∀ g, (Value.slice an 0 0).ownBlock = some g → g ≠ b) : DS w0 B lab kb w' labt n m x k ao co an cn :=
  { h with
    oo := Owns.keep h.oo hk (fun g q => ho g ((own_zero _ _ _).symm.trans q))
    on := Owns.keep h.on hk (fun g q => hn g ((own_zero _ _ _).symm.trans q))
    bk := h.bk.keep hk (fun j _ s => by have e : j = b := s; rw [e]; exact h9)
    kp := h.kp.trans hk (fun j hj s => by have e : j = b := s; omega) }
theorem DS.kept {own : Nat → Prop} (h : DS w0 B lab kb wr labt n m x k ao co an cn) (K : Kept wr B labt kb n m' own w' lab') (hf : ∀ b, own b → w0.heap.size ≤ b ∧ (Value.slice ao 0 0).ownBlock ≠ some b ∧ (Value.slice an 0 0).ownBlock ≠ some b) : DS w0 B lab kb w' lab' n m' x k ao co an cn := by
  have lto : ∀ g, (Value.slice ao 0 0).ownBlock = some g → g < wr.heap.size := fun g q => (World.ownsRow.lt h.oo g ((own_zero _ _ _).trans q)).2
  have ltn : ∀ g, (Value.slice an 0 0).ownBlock = some g → g < wr.heap.size := fun g q => (World.ownsRow.lt h.on g ((own_zero _ _ _).trans q)).2
  have sz := h.kp.size
  exact { h with
    oo := Owns.keep h.oo K.keep (fun g q s => by
      have q' := (own_zero _ _ _).symm.trans q
      rcases s with s | s
      · exact s (h.lo g q').1
      · exact (hf g s).2.1 q')
    on := Owns.keep h.on K.keep (fun g q s => by
      have q' := (own_zero _ _ _).symm.trans q
      rcases s with s | s
      · exact s (h.ln g q').1
      · exact (hf g s).2.2 q')
    lo := fun g q => ⟨(K.old g (lto g q) (fun s => (hf g s).2.1 q)).trans (h.lo g q).1, (h.lo g q).2⟩
    ln := fun g q => ⟨(K.old g (ltn g q) (fun s => (hf g s).2.2 q)).trans (h.ln g q).1, (h.ln g q).2⟩
    bk := K.bk
    old := fun b hb => (K.old b (by omega) (fun s => by have := (hf b s).1; omega)).trans (h.old b hb)
    kp := h.kp.trans K.keep (fun b hb s => by
      rcases s with s | s
      · rw [← h.old b hb]; exact s
      · have := (hf b s).1; omega) }
theorem DS.bytesO (h : DS w0 B lab kb wr labt n m x k ao co an cn) : Bytes wr ao x ∧ k + 1 ≤ co ∧ (ao = none → co = 0) := by
  obtain ⟨a, c, e, s, h1, h2, _⟩ := ownB_form h.oo
  rw [List.length_append, h.len] at e
  cases e
  have := Bytes.take s x.length
  rw [List.take_left] at this
  refine ⟨this, ?_, h1⟩
  rw [List.length_append, h.len] at h2
  exact h2
theorem DS.bytesN (h : DS w0 B lab kb wr labt n m x k ao co an cn) : Bytes wr an x ∧ k ≤ cn ∧ (an = none → cn = 0) := by
  obtain ⟨a, c, e, s, h1, h2, _⟩ := ownB_form h.on
  rw [h.len] at e h2
  cases e
  exact ⟨s, h2, h1⟩
/-- The mark behind the bytes. -/
theorem DS.mark (h : DS w0 B lab kb wr labt n m x k ao co an cn) : ∃ g, ao = some ⟨g, 0, none⟩ ∧ wr.cell? ⟨g, k, none⟩ = some (.int .u8 90) := by
  obtain ⟨g, e⟩ := GRow.addr (xs := (ints (x ++ [90])).map (Value.int .u8)) (n := k + 1) (by
    have q := h.oo
    unfold OwnB Owns at q
    rw [ints_length, List.length_append, h.len] at q
    exact q) (by omega)
  subst e
  refine ⟨g, rfl, ?_⟩
  have s := Owns.seen_at h.oo
  obtain ⟨b1, off1, e2, _, hcell⟩ := Bytes.at s (i := k) (by simp [h.len])
  cases e2
  rw [Nat.zero_add] at hcell
  rw [hcell]
  have : (x ++ [90]).getD k 0 = 90 := by
    rw [← h.len]
    simp
  rw [this]
  rfl
/-- The last byte is another one. -/
theorem DS.last (h : DS w0 B lab kb wr labt n m x k ao co an cn) (hk : 0 < k) : ∃ (go gn v : Nat), ao = some ⟨go, 0, none⟩ ∧ an = some ⟨gn, 0, none⟩ ∧ v < 256 ∧ wr.cell? ⟨gn, k - 1, none⟩ = some (.int .u8 (v : Int)) ∧ wr.frozen? ⟨gn, k - 1, none⟩ = false ∧
    ∀ y : Nat, y < 256 → (wr.setCell ⟨gn, k - 1, none⟩ (.int .u8 (y : Int))).cell? ⟨gn, k - 1, none⟩ = some (.int .u8 (y : Int)) ∧ (∃ v' : Int, (wr.setCell ⟨gn, k - 1, none⟩ (.int .u8 (y : Int))).cell? ⟨go, k - 1, none⟩ = some (.int .u8 v')) ∧ (wr.setCell ⟨gn, k - 1, none⟩ (.int .u8 (y : Int))).frozen? ⟨go, k - 1, none⟩ = false ∧
      DS w0 B lab kb ((wr.setCell ⟨gn, k - 1, none⟩ (.int .u8 (y : Int))).setCell ⟨go, k - 1, none⟩ (.int .u8 (y : Int))) labt n m (x.set (k - 1) y) k ao co an cn := by
  obtain ⟨go, e1, _⟩ := h.mark
  obtain ⟨gn, c1, e2, _⟩ := Owns.form h.on (by rw [ints_length, h.len]; omega)
  have e2' : an = some ⟨gn, 0, none⟩ := by
    rw [ints_length, h.len] at e2
    cases e2
    rfl
  subst e1 e2'
  have ne : go ≠ gn := fun q => (h.lo go rfl).2.2 (by rw [q]; rfl)
  have hlen := h.len
  have s := Owns.seen_at h.on
  obtain ⟨b1, off1, q2, _, hcell⟩ := Bytes.at s (i := k - 1) (by omega)
  cases q2
  rw [Nat.zero_add] at hcell
  refine ⟨go, gn, x.getD (k - 1) 0, rfl, rfl, ?_, hcell, Owns.frozen h.on (k - 1), ?_⟩
  · have : x.getD (k - 1) 0 = x[k - 1]'(by omega) := by simp [List.getD, List.getElem?_eq_getElem (show k - 1 < x.length by omega)]
    rw [this]
    exact h.ab _ (List.getElem_mem _)
  · intro y hy
    have kA : Keep (fun j => j = gn) wr (wr.setCell ⟨gn, k - 1, none⟩ (.int .u8 (y : Int))) := (Keep.refl (fun j => j = gn) wr).setCell (fun _ => rfl) _
    have onA := Owns.stored h.on (k - 1) (y : Int)
    rw [← ints_set] at onA
    have ooA := Owns.keep h.oo kA (fun g q e => ne (by cases q; exact e))
    have kB : Keep (fun j => j = go) (wr.setCell ⟨gn, k - 1, none⟩ (.int .u8 (y : Int))) ((wr.setCell ⟨gn, k - 1, none⟩ (.int .u8 (y : Int))).setCell ⟨go, k - 1, none⟩ (.int .u8 (y : Int))) := (Keep.refl (fun j => j = go) _).setCell (fun _ => rfl) _
    have onB := Owns.keep onA kB (fun g q e => ne (by cases q; exact e.symm))
    have ooB := Owns.stored ooA (k - 1) (y : Int)
    rw [← ints_set, List.set_append_left _ _ (by omega)] at ooB
    obtain ⟨b2, o2, q3, _, hc2⟩ := Bytes.at (Owns.seen_at onA) (i := k - 1) (by simp; omega)
    cases q3
    rw [Nat.zero_add] at hc2
    have hy1 : (x.set (k - 1) y).getD (k - 1) 0 = y := by simp [List.getD, List.getElem?_set_self (show k - 1 < x.length by omega)]
    rw [hy1] at hc2
    obtain ⟨b3, o3, q4, _, hc3⟩ := Bytes.at (Owns.seen_at ooA) (i := k - 1) (by simp; omega)
    cases q4
    rw [Nat.zero_add] at hc3
    refine ⟨hc2, ⟨_, hc3⟩, Owns.frozen ooA (k - 1), ⟨ooB, onB, by simpa using hlen, ?_, h.lo, h.ln, ?_, h.old, ?_, h.gB⟩⟩
    · intro z hz
      rcases List.mem_or_eq_of_mem_set hz with hz | hz
      · exact h.ab z hz
      · omega
    · exact (h.bk.keep kA (fun j _ s => by have e : j = gn := s; rw [e]; exact (h.ln gn rfl).1)).keep kB (fun j _ s => by have e : j = go := s; rw [e]; exact (h.lo go rfl).1)
    · exact (h.kp.trans kA (fun j hj s => by have e : j = gn := s; have := (h.ln gn rfl).2; omega)).trans kB (fun j hj s => by have e : j = go := s; have := (h.lo go rfl).2.1; omega)
end
end Go.Proofs.Ytlibldioliicfaa
namespace Go.Proofs.Ytlibldioliicfaa
open Go.RowKit Go.QK
set_option maxRecDepth 100000
theorem LRow.lies {w : World} {B : Nat} {a : Option Addr} {c : Nat} {ls : List LiveM} (h : LRow w B (.slice a ls.length c) ls) : Lies w a (liveCs ls) := by
  obtain ⟨a', c', e, li, _⟩ := GRow.lies h
  cases e
  exact li
theorem DRow.lies {w : World} {B : Nat} {a : Option Addr} {c : Nat} {ls : List DirtyM} (h : DRow w B (.slice a ls.length c) ls) : Lies w a (dirtyCs ls) := by
  obtain ⟨a', c', e, li, _⟩ := GRow.lies h
  cases e
  exact li
set_option maxHeartbeats 0 in
theorem decodes_any (w : World) (B : Nat) (lab : Nat → Nat) (kb n m : Nat) (hbk : BkE w B lab kb n m) (hmm : m + 4 ≤ 100000) (a : Option Addr) (c : Nat) (l : List Nat) (hs : Bytes w a l) (ha : a = none → c = 0) (hl : l.length ≤ 2000) (hb : AllB l) (hB : B ≤ w.heap.size) :
    Calls Try.prog 19 #[.pointer (some ⟨kb, 0, none⟩), .slice a l.length c] w fun e w' => e = .returned (.bool true) ∧ ∃ lab', (∀ b, b < w.heap.size → lab' b = lab b) ∧ BkE w' B lab' kb n (m + 4) ∧ Keep (fun b => lab b ≠ 9) w w' := by
  have hi9 : ∀ b, w.heap.size ≤ b → lab b = 9 := by
    obtain ⟨_, _, _, _, _, _, _, _, _, _, _, _, h⟩ := hbk
    exact h.hi
  have HS := hide hs
  have HBK := hide hbk
  have HAB := hide hb
  clear hs hbk hb
  go_enter Try.func19, Try.ntmps19
  go_wp2_with (at_builtin; refine appB rfl (.const (.slice none 0 0)) (.tmp 15) rfl w.heap.size _ [] rfl (Owns.nil _ _ _ _) a l.length c l rfl rfl HS.out ha (by simp; omega) (Nat.le_refl _) ?_)
  intro v1 w1 o1 g1 m1
  have b1 : Below w.heap.size w w1 := (Below.refl _ _).grown g1 (Nat.le_refl _) (by nofun)
  have sz1 := b1.size
  have HS1 := Seen.below HS.out b1
  have O1 := hide o1
  clear o1 g1 m1
  go_wp2_with (at_builtin; refine pushB rfl (.tmp 16) (.tmp 17) rfl w.heap.size v1 l rfl ⟨w1.heap.size, 0, none⟩ 90 rfl (O1.out.alloc _) (by simp [go_sem]) (by omega) (by simp; omega) ?_)
  intro v2 w2 o2 g2 m2
  have k2 : Keep (fun b => v1.ownBlock = some b) w1 w2 := ((Keep.refl _ w1).alloc _).grown g2 (fun b q _ => q)
  have b2 : Below w.heap.size w w2 := b1.trans (k2.below sz1 (fun k hk q => by have := (World.ownsRow.lt O1.out k q).1; omega))
  have HS2 := hide (Seen.below HS.out b2)
  obtain ⟨ao, co, eo, so, _, hco, _⟩ := ownB_form o2
  rw [List.length_append] at eo hco
  simp only [List.length_cons, List.length_nil, Nat.zero_add] at eo hco
  subst eo
  have s1 := fun w => slice_to ao (l.length + 1) co l.length (l.length : Int) w rfl (by omega)
  have O2 := hide o2
  have olt := hide (fun g q => (World.ownsRow.lt o2 g q))
  have sz2 := b2.size
  clear o2 g2 m2 k2 HS1 O1 so
  go_wp2_with (at_builtin; refine appB rfl (.const (.slice none 0 0)) (.tmp 22) rfl w2.heap.size _ [] rfl (Owns.nil _ _ _ _) a l.length c l rfl rfl HS2.out ha (by simp; omega) (Nat.le_refl _) ?_)
  intro v3 w3 o3 g3 m3
  have b3 : Below w2.heap.size w2 w3 := (Below.refl _ _).grown g3 (Nat.le_refl _) (by nofun)
  obtain ⟨an, cn, en, sn, _, hcn, _⟩ := ownB_form o3
  subst en
  have bw3 := bnext b2 b3 (Nat.le_refl _)
  have DS0 : DS w B lab kb w3 lab n m l l.length ao co an cn := by
    refine ⟨Owns.mono (Owns.below O2.out b3) hB, Owns.mono o3 (by omega), rfl, HAB.out, ?_, ?_, HBK.out.below bw3, fun _ _ => rfl, Keep.of_below bw3, hB⟩
    · intro g q
      have q' := olt.out g ((own_zero _ _ _).trans q)
      exact ⟨hi9 g q'.1, q'.1, fun s => by have := (World.ownsRow.lt o3 g ((own_zero _ _ _).trans s)).1; omega⟩
    · intro g q
      have q' := (World.ownsRow.lt o3 g ((own_zero _ _ _).trans q)).1
      exact ⟨hi9 g (by omega), by omega⟩
  have DS0 := hide DS0
  clear o3 g3 m3 b3 bw3 sn b2 O2 olt HS HS2 HBK HAB b1
  go_upto_region 4 with fail
  go_loopw [7] (fun i wr => ∃ (tt : Nat) (labt : Nat → Nat) (x : List Nat), i = .int .i64 (tt : Int) ∧ tt ≤ 2 ∧ DS w B lab kb wr labt n (m + 2 * tt) x l.length ao co an cn) (fun i _ => 2 - (intOf i).toNat)
  case atStart => exact ⟨0, lab, l, rfl, by omega, DS0.out⟩
  case round =>
    clear DS0
    obtain ⟨tt, labt, x, rfl, htt, hds⟩ := hrel
    have H := hide hds
    clear hds
    by_cases hlt : tt < 2
    · have d1 : decide ((tt : Int) < 2) = true := decide_eq_true (by omega)
      have d2 : (tt : Int) < 2 := by omega
      have HI9 : Hid (∀ b, wr.heap.size ≤ b → labt b = 9) := by
        obtain ⟨_, _, _, _, _, _, _, _, _, _, _, _, h⟩ := H.out.bk
        exact h.hi
      have SW := hide (And.intro H.out.kp.size H.out.gB)
      have HOO := hide (And.intro H.out.oo H.out.on)
      have hx := H.out.len
      have f1 := fun w' (h : DS w B lab kb w' labt n (m + 2 * tt) x l.length ao co an cn) => decode_any ao x co w' h.bytesO.1 (by have := h.bytesO.2.1; have := h.len; omega) h.bytesO.2.2 (by have := h.len; omega) h.ab
      have f2 := fun w' (h : DS w B lab kb w' labt n (m + 2 * tt) x l.length ao co an cn) => rDecode_any an x cn w' h.bytesN.1 h.bytesN.2.2 (by have := h.len; omega) h.ab
      have f3 := fun w' (h : DS w B lab kb w' labt n (m + 2 * tt) x l.length ao co an cn) => same_any ao an x x co cn w' h.bytesO.1 h.bytesN.1 h.ab h.ab
      have hR := decM_len x
      rw [hx] at f1 f2 f3
      generalize decM x = dm at *
      obtain ⟨R, de⟩ := dm
      simp only at f1 f2 hR
      have F1 := hide f1
      have F2 := hide f2
      have F3 := hide f3
      have HR := hide hR
      clear f1 f2 f3 hR hx
      obtain ⟨wo, hwo⟩ : ∃ wo : World, wo = wr := ⟨_, rfl⟩
      subst hwo
      go_wp2_with fail
      refine (F1.out _ H.out).mono ?_
      rintro e u1 ⟨v1, rfl, o1, b1⟩
      obtain ⟨la1, da1, lc1, dc1, rfl, l1, d1, ld1⟩ := o1
      have su1 := b1.size
      replace H := hide (H.out.below b1)
      have aH := H.out.below (alloc_below u1 (.cells #[.int .i64 0, .int .i64 0, .int .i64 0, .int .i64 0, .int .i64 0, .int .i64 0, .int .i64 0, .int .i64 0, .int .i64 0, .int .i64 0, .int .i64 0, .int .i64 0, .int .i64 0, .int .i64 0, .slice none 0 0, .slice none 0 0, .int .i64 0] 36))
      have aL := GRow.below l1 (alloc_below u1 (.cells #[.int .i64 0, .int .i64 0, .int .i64 0, .int .i64 0, .int .i64 0, .int .i64 0, .int .i64 0, .int .i64 0, .int .i64 0, .int .i64 0, .int .i64 0, .int .i64 0, .int .i64 0, .int .i64 0, .slice none 0 0, .slice none 0 0, .int .i64 0] 36))
      have aD := GRow.below d1 (alloc_below u1 (.cells #[.int .i64 0, .int .i64 0, .int .i64 0, .int .i64 0, .int .i64 0, .int .i64 0, .int .i64 0, .int .i64 0, .int .i64 0, .int .i64 0, .int .i64 0, .int .i64 0, .int .i64 0, .int .i64 0, .slice none 0 0, .slice none 0 0, .int .i64 0] 36))
      go_upto_region 7 with (refine wpList_store36 (RBox.new _ _ _) rfl rfl rfl rfl rfl ?_; intro x1 X1 hk1)
      have ll1 := fun g q => World.ownsRow.lt l1 g q
      have dl1 := fun g q => World.ownsRow.lt d1 g q
      have sx1 : u1.heap.size < x1.heap.size := X1.lt
      have L1 := GRow.keep aL hk1 (fun g q s => by have := (ll1 g q).2; have e : g = u1.heap.size := s; omega)
      have D1 := GRow.keep aD hk1 (fun g q s => by have := (dl1 g q).2; have e : g = u1.heap.size := s; omega)
      have OLT := H.out
      replace H := hide (aH.box hk1 (HI9.out _ (by omega)) (by have := SW.out; omega) (fun g q e => by have := (World.ownsRow.lt OLT.oo g ((own_zero _ _ _).trans q)).2; omega) (fun g q e => by have := (World.ownsRow.lt OLT.on g ((own_zero _ _ _).trans q)).2; omega))
      clear aH aL aD OLT hk1 l1 d1 b1
      (try simp only [Act.put])
      go_wp2_with fail
      refine (F1.out _ H.out).mono ?_
      rintro e u2 ⟨v2, rfl, o2, b2⟩
      obtain ⟨la2, da2, lc2, dc2, rfl, l2, d2, ld2⟩ := o2
      have su2 := b2.size
      replace H := hide (H.out.below b2)
      replace L1 := GRow.below L1 b2
      replace D1 := GRow.below D1 b2
      replace X1 := X1.below b2
      have aH := H.out.below (alloc_below u2 (.cells #[.int .i64 0, .int .i64 0, .int .i64 0, .int .i64 0, .int .i64 0, .int .i64 0, .int .i64 0, .int .i64 0, .int .i64 0, .int .i64 0, .int .i64 0, .int .i64 0, .int .i64 0, .int .i64 0, .slice none 0 0, .slice none 0 0, .int .i64 0] 36))
      have aL := GRow.below l2 (alloc_below u2 (.cells #[.int .i64 0, .int .i64 0, .int .i64 0, .int .i64 0, .int .i64 0, .int .i64 0, .int .i64 0, .int .i64 0, .int .i64 0, .int .i64 0, .int .i64 0, .int .i64 0, .int .i64 0, .int .i64 0, .slice none 0 0, .slice none 0 0, .int .i64 0] 36))
      have aD := GRow.below d2 (alloc_below u2 (.cells #[.int .i64 0, .int .i64 0, .int .i64 0, .int .i64 0, .int .i64 0, .int .i64 0, .int .i64 0, .int .i64 0, .int .i64 0, .int .i64 0, .int .i64 0, .int .i64 0, .int .i64 0, .int .i64 0, .slice none 0 0, .slice none 0 0, .int .i64 0] 36))
      replace L1 := GRow.below L1 (alloc_below u2 (.cells #[.int .i64 0, .int .i64 0, .int .i64 0, .int .i64 0, .int .i64 0, .int .i64 0, .int .i64 0, .int .i64 0, .int .i64 0, .int .i64 0, .int .i64 0, .int .i64 0, .int .i64 0, .int .i64 0, .slice none 0 0, .slice none 0 0, .int .i64 0] 36))
      replace D1 := GRow.below D1 (alloc_below u2 (.cells #[.int .i64 0, .int .i64 0, .int .i64 0, .int .i64 0, .int .i64 0, .int .i64 0, .int .i64 0, .int .i64 0, .int .i64 0, .int .i64 0, .int .i64 0, .int .i64 0, .int .i64 0, .int .i64 0, .slice none 0 0, .slice none 0 0, .int .i64 0] 36))
      replace X1 := X1.below (alloc_below u2 (.cells #[.int .i64 0, .int .i64 0, .int .i64 0, .int .i64 0, .int .i64 0, .int .i64 0, .int .i64 0, .int .i64 0, .int .i64 0, .int .i64 0, .int .i64 0, .int .i64 0, .int .i64 0, .int .i64 0, .slice none 0 0, .slice none 0 0, .int .i64 0] 36))
      go_upto_region 8 with (refine wpList_store36 (RBox.new _ _ _) rfl rfl rfl rfl rfl ?_; intro x2 X2 hk2)
      have ll2 := fun g q => World.ownsRow.lt l2 g q
      have dl2 := fun g q => World.ownsRow.lt d2 g q
      have sx2 : u2.heap.size < x2.heap.size := X2.lt
      have L2 := GRow.keep aL hk2 (fun g q s => by have := (ll2 g q).2; have e : g = u2.heap.size := s; omega)
      have D2 := GRow.keep aD hk2 (fun g q s => by have := (dl2 g q).2; have e : g = u2.heap.size := s; omega)
      have OLT := H.out
      replace H := hide (aH.box hk2 (HI9.out _ (by omega)) (by have := SW.out; omega) (fun g q e => by have := (World.ownsRow.lt OLT.oo g ((own_zero _ _ _).trans q)).2; omega) (fun g q e => by have := (World.ownsRow.lt OLT.on g ((own_zero _ _ _).trans q)).2; omega))
      replace L1 := GRow.keep L1 hk2 (fun g q s => by have := (ll1 g q).2; have e : g = u2.heap.size := s; omega)
      replace D1 := GRow.keep D1 hk2 (fun g q s => by have := (dl1 g q).2; have e : g = u2.heap.size := s; omega)
      replace X1 := X1.keep hk2 (by omega)
      clear aH aL aD OLT hk2 l2 d2 b2
      (try simp only [Act.put])
      go_wp2_with fail
      refine (F2.out _ H.out).mono ?_
      rintro e u3 ⟨v3, rfl, o3, b3⟩
      obtain ⟨la3, da3, lc3, dc3, rfl, l3, d3, ld3⟩ := o3
      have su3 := b3.size
      replace H := hide (H.out.below b3)
      replace L1 := GRow.below L1 b3
      replace D1 := GRow.below D1 b3
      replace X1 := X1.below b3
      replace L2 := GRow.below L2 b3
      replace D2 := GRow.below D2 b3
      replace X2 := X2.below b3
      have aH := H.out.below (alloc_below u3 (.cells #[.int .i64 0, .int .i64 0, .int .i64 0, .int .i64 0, .int .i64 0, .int .i64 0, .int .i64 0, .int .i64 0, .int .i64 0, .int .i64 0, .int .i64 0, .int .i64 0, .int .i64 0, .int .i64 0, .slice none 0 0, .slice none 0 0, .int .i64 0] 36))
      have aL := GRow.below l3 (alloc_below u3 (.cells #[.int .i64 0, .int .i64 0, .int .i64 0, .int .i64 0, .int .i64 0, .int .i64 0, .int .i64 0, .int .i64 0, .int .i64 0, .int .i64 0, .int .i64 0, .int .i64 0, .int .i64 0, .int .i64 0, .slice none 0 0, .slice none 0 0, .int .i64 0] 36))
      have aD := GRow.below d3 (alloc_below u3 (.cells #[.int .i64 0, .int .i64 0, .int .i64 0, .int .i64 0, .int .i64 0, .int .i64 0, .int .i64 0, .int .i64 0, .int .i64 0, .int .i64 0, .int .i64 0, .int .i64 0, .int .i64 0, .int .i64 0, .slice none 0 0, .slice none 0 0, .int .i64 0] 36))
      replace L1 := GRow.below L1 (alloc_below u3 (.cells #[.int .i64 0, .int .i64 0, .int .i64 0, .int .i64 0, .int .i64 0, .int .i64 0, .int .i64 0, .int .i64 0, .int .i64 0, .int .i64 0, .int .i64 0, .int .i64 0, .int .i64 0, .int .i64 0, .slice none 0 0, .slice none 0 0, .int .i64 0] 36))
      replace D1 := GRow.below D1 (alloc_below u3 (.cells #[.int .i64 0, .int .i64 0, .int .i64 0, .int .i64 0, .int .i64 0, .int .i64 0, .int .i64 0, .int .i64 0, .int .i64 0, .int .i64 0, .int .i64 0, .int .i64 0, .int .i64 0, .int .i64 0, .slice none 0 0, .slice none 0 0, .int .i64 0] 36))
      replace X1 := X1.below (alloc_below u3 (.cells #[.int .i64 0, .int .i64 0, .int .i64 0, .int .i64 0, .int .i64 0, .int .i64 0, .int .i64 0, .int .i64 0, .int .i64 0, .int .i64 0, .int .i64 0, .int .i64 0, .int .i64 0, .int .i64 0, .slice none 0 0, .slice none 0 0, .int .i64 0] 36))
      replace L2 := GRow.below L2 (alloc_below u3 (.cells #[.int .i64 0, .int .i64 0, .int .i64 0, .int .i64 0, .int .i64 0, .int .i64 0, .int .i64 0, .int .i64 0, .int .i64 0, .int .i64 0, .int .i64 0, .int .i64 0, .int .i64 0, .int .i64 0, .slice none 0 0, .slice none 0 0, .int .i64 0] 36))
      replace D2 := GRow.below D2 (alloc_below u3 (.cells #[.int .i64 0, .int .i64 0, .int .i64 0, .int .i64 0, .int .i64 0, .int .i64 0, .int .i64 0, .int .i64 0, .int .i64 0, .int .i64 0, .int .i64 0, .int .i64 0, .int .i64 0, .int .i64 0, .slice none 0 0, .slice none 0 0, .int .i64 0] 36))
      replace X2 := X2.below (alloc_below u3 (.cells #[.int .i64 0, .int .i64 0, .int .i64 0, .int .i64 0, .int .i64 0, .int .i64 0, .int .i64 0, .int .i64 0, .int .i64 0, .int .i64 0, .int .i64 0, .int .i64 0, .int .i64 0, .int .i64 0, .slice none 0 0, .slice none 0 0, .int .i64 0] 36))
      go_upto_region 9 with (refine wpList_store36 (RBox.new _ _ _) rfl rfl rfl rfl rfl ?_; intro x3 X3 hk3)
      have ll3 := fun g q => World.ownsRow.lt l3 g q
      have dl3 := fun g q => World.ownsRow.lt d3 g q
      have sx3 : u3.heap.size < x3.heap.size := X3.lt
      have L3 := GRow.keep aL hk3 (fun g q s => by have := (ll3 g q).2; have e : g = u3.heap.size := s; omega)
      have D3 := GRow.keep aD hk3 (fun g q s => by have := (dl3 g q).2; have e : g = u3.heap.size := s; omega)
      have OLT := H.out
      replace H := hide (aH.box hk3 (HI9.out _ (by omega)) (by have := SW.out; omega) (fun g q e => by have := (World.ownsRow.lt OLT.oo g ((own_zero _ _ _).trans q)).2; omega) (fun g q e => by have := (World.ownsRow.lt OLT.on g ((own_zero _ _ _).trans q)).2; omega))
      replace L1 := GRow.keep L1 hk3 (fun g q s => by have := (ll1 g q).2; have e : g = u3.heap.size := s; omega)
      replace D1 := GRow.keep D1 hk3 (fun g q s => by have := (dl1 g q).2; have e : g = u3.heap.size := s; omega)
      replace X1 := X1.keep hk3 (by omega)
      replace L2 := GRow.keep L2 hk3 (fun g q s => by have := (ll2 g q).2; have e : g = u3.heap.size := s; omega)
      replace D2 := GRow.keep D2 hk3 (fun g q s => by have := (dl2 g q).2; have e : g = u3.heap.size := s; omega)
      replace X2 := X2.keep hk3 (by omega)
      clear aH aL aD OLT hk3 l3 d3 b3
      (try simp only [Act.put])
      go_wp2_with fail
      refine (num_any (de : Int) _).mono ?_
      rintro e wq ⟨rfl, hq⟩
      obtain rfl : x3 = wq := hq.symm
      go_wp2_with fail
      refine (num_any (de : Int) _).mono ?_
      rintro e wq ⟨rfl, hq⟩
      obtain rfl : x3 = wq := hq.symm
      go_wp2_with (first | refine wpList_load36g X1 rfl rfl rfl ?_ | refine wpList_load36g X3 rfl rfl rfl ?_)
      refine (Same_true R la1 da1 la3 da3 lc1 dc1 lc3 dc3 _ (LRow.lies L1) (DRow.lies D1) (LRow.lies L3) (DRow.lies D3) (by have := HR.out; omega) (by have := HR.out; omega)).mono ?_
      rintro e x4 ⟨rfl, b4⟩
      have s4 := b4.size
      replace H := hide (H.out.below b4)
      replace L1 := GRow.below L1 b4
      replace D1 := GRow.below D1 b4
      replace X1 := X1.below b4
      replace L2 := GRow.below L2 b4
      replace D2 := GRow.below D2 b4
      replace X2 := X2.below b4
      replace L3 := GRow.below L3 b4
      replace D3 := GRow.below D3 b4
      replace X3 := X3.below b4
      clear b4
      go_wp2_with (first | refine wpList_load36g X2 rfl rfl rfl ?_ | refine wpList_load36g X3 rfl rfl rfl ?_)
      refine (Same_true R la2 da2 la3 da3 lc2 dc2 lc3 dc3 _ (LRow.lies L2) (DRow.lies D2) (LRow.lies L3) (DRow.lies D3) (by have := HR.out; omega) (by have := HR.out; omega)).mono ?_
      rintro e x5 ⟨rfl, b5⟩
      have s5 := b5.size
      replace H := hide (H.out.below b5)
      replace L1 := GRow.below L1 b5
      replace D1 := GRow.below D1 b5
      replace X1 := X1.below b5
      replace L2 := GRow.below L2 b5
      replace D2 := GRow.below D2 b5
      replace X2 := X2.below b5
      clear b5 L3 D3 X3
      go_wp2_with fail
      refine (F3.out _ H.out).mono ?_
      rintro e wq ⟨rfl, hq⟩
      obtain rfl : x5 = wq := hq.symm
      rw [show decide True = true from rfl]
      obtain ⟨gm, em, cm⟩ := H.out.mark
      have hco' := H.out.bytesO.2.1
      have sl := fun w => slice_to ao l.length co (l.length + 1) ((l.length : Int) + 1) w (by omega) hco'
      have eL : IntKind.i64.wrap ((l.length : Int) + 1) = (l.length : Int) + 1 := by rw [IntKind.wrap_i64]; omega
      have dL : decide ((l.length : Int) < (l.length : Int) + 1) = true := decide_eq_true (by omega)
      have dL2 : (l.length : Int) < (l.length : Int) + 1 := by omega
      have LX1 := hide (And.intro L1 (And.intro D1 X1))
      have LX2 := hide (And.intro L2 (And.intro D2 X2))
      have ALL := hide (And.intro ll1 (And.intro dl1 (And.intro ll2 dl2)))
      have SZS := hide (And.intro su1 (And.intro sx1 (And.intro su2 (And.intro sx2 (And.intro su3 (And.intro sx3 (And.intro s4 s5)))))))
      have LD := hide (And.intro ld1 ld2)
      clear L1 D1 X1 L2 D2 X2 ll1 dl1 ll2 dl2 su1 sx1 su2 sx2 su3 sx3 s4 s5 ld1 ld2 ll3 dl3 ld3
      subst em
      go_upto_region 10 with fail
      clear sl eL dL dL2 cm
      go_wp2_with (refine wpList_load36g LX1.out.2.2 rfl rfl rfl ?_)
      have sws := SW.out
      refine (lists_any x5 B labt kb n (m + 2 * tt) H.out.bk (by omega) R la1 da1 lc1 dc1 (GRow.mono LX1.out.1 (by omega)) (GRow.mono LX1.out.2.1 (by omega)) (by have := HR.out; omega) (by have := HR.out; omega) (fun g q => HI9.out g (ALL.out.1 g q).1) (fun g q => HI9.out g (ALL.out.2.1 g q).1) LD.out.1).mono ?_
      rintro e z1 ⟨rfl, lab1, k1⟩
      have ltO := fun g (q : (Value.slice (some ⟨gm, 0, none⟩ : Option Addr) 0 0).ownBlock = some g) => (World.ownsRow.lt HOO.out.1 g ((own_zero _ _ _).trans q)).2
      have ltN := fun g (q : (Value.slice an 0 0).ownBlock = some g) => (World.ownsRow.lt HOO.out.2 g ((own_zero _ _ _).trans q)).2
      have fr1 : ∀ b, ((Value.slice la1 R.live.length lc1).ownBlock = some b ∨ (Value.slice da1 R.dirty.length dc1).ownBlock = some b) → wo.heap.size ≤ b ∧ b < u1.heap.size := fun b q => q.elim (fun q => ALL.out.1 b q) (fun q => ALL.out.2.1 b q)
      have fr2 : ∀ b, ((Value.slice la2 R.live.length lc2).ownBlock = some b ∨ (Value.slice da2 R.dirty.length dc2).ownBlock = some b) → x1.heap.size ≤ b ∧ b < u2.heap.size := fun b q => q.elim (fun q => ALL.out.2.2.1 b q) (fun q => ALL.out.2.2.2 b q)
      have szs := SZS.out
      have nz : ∀ b, x1.heap.size ≤ b → ¬ (labt b ≠ 9 ∨ ((Value.slice la1 R.live.length lc1).ownBlock = some b ∨ (Value.slice da1 R.dirty.length dc1).ownBlock = some b)) := by
        intro b hb s
        rcases s with s | s
        · exact s (HI9.out b (by omega))
        · have := (fr1 b s).2
          omega
      have L2' := GRow.keep LX2.out.1 k1.keep (fun g q => nz g (fr2 g (.inl q)).1)
      have D2' := GRow.keep LX2.out.2.1 k1.keep (fun g q => nz g (fr2 g (.inr q)).1)
      have X2' := LX2.out.2.2.keep k1.keep (nz _ (by omega))
      have lbl2 : ∀ b, ((Value.slice la2 R.live.length lc2).ownBlock = some b ∨ (Value.slice da2 R.dirty.length dc2).ownBlock = some b) → lab1 b = 9 := by
        intro b q
        have f := fr2 b q
        rw [k1.old b (by omega) (fun s => by have := (fr1 b s).2; omega)]
        exact HI9.out b (by omega)
      replace H := hide (H.out.kept k1 (fun b q => by
        have f := fr1 b q
        exact ⟨by omega, fun s => by have := ltO b s; omega, fun s => by have := ltN b s; omega⟩))
      have LX2 := hide (And.intro L2' (And.intro D2' X2'))
      clear k1 L2' D2' X2' LX1 nz
      have LB2 := hide lbl2
      have FR2 := hide fr2
      have LTS := hide (And.intro ltO ltN)
      have SZ2 := hide szs
      clear lbl2 fr2 fr1 ltO ltN szs
      go_wp2_with (refine wpList_load36g LX2.out.2.2 rfl rfl rfl ?_)
      refine (lists_any z1 B lab1 kb n (m + 2 * tt + 1) H.out.bk (by omega) R la2 da2 lc2 dc2 (GRow.mono LX2.out.1 (by have := SZ2.out; omega)) (GRow.mono LX2.out.2.1 (by have := SZ2.out; omega)) (by have := HR.out; omega) (by have := HR.out; omega) (fun g q => LB2.out g (.inl q)) (fun g q => LB2.out g (.inr q)) LD.out.2).mono ?_
      rintro e z2 ⟨rfl, lab2, k2⟩
      replace H := hide (H.out.kept k2 (fun b q => by
        have f := FR2.out b q
        have z := SZ2.out
        exact ⟨by omega, fun s => by have := LTS.out.1 b s; omega, fun s => by have := LTS.out.2 b s; omega⟩))
      clear k2 LX2 LB2 FR2 LTS SZ2 SZS ALL LD HR HI9 F1 F2 F3 sws SW HOO
      have hm2 : m + 2 * tt + 1 + 1 = m + 2 * (tt + 1) := by omega
      rw [hm2] at H
      clear hm2
      by_cases hl0 : 0 < l.length
      · have g0 : decide ((0 : Int) < (l.length : Int)) = true := decide_eq_true (by omega)
        obtain ⟨go, gn, v, eo, en, hv, c1, f1, hall⟩ := H.out.last hl0
        cases eo
        subst en
        have hy : v ^^^ 1 < 256 := Nat.xor_lt_two_pow (n := 8) hv (by omega)
        obtain ⟨c2, ⟨v', c3⟩, f3, hDS⟩ := hall (v ^^^ 1) hy
        have ex : bits .xor .u8 (v : Int) 1 = ((v ^^^ 1 : Nat) : Int) := xor_u8 v 1 hv (by omega)
        obtain ⟨y, hyy⟩ : ∃ y, y = v ^^^ 1 := ⟨_, rfl⟩
        rw [← hyy] at c2 c3 f3 hDS ex
        obtain ⟨kk, hkk⟩ : ∃ kk, kk = l.length - 1 := ⟨_, rfl⟩
        rw [← hkk] at c1 f1 c2 c3 f3 hDS
        have ek : IntKind.i64.wrap ((l.length : Int) - 1) = (kk : Int) := by rw [IntKind.wrap_i64]; omega
        have dk : (kk : Int) < (l.length : Int) := by omega
        have dk2 : decide ((kk : Int) < (l.length : Int)) = true := decide_eq_true dk
        have HD := hide hDS
        clear hall hDS hyy hkk H hy hv
        go_upto_region 16 with fail
        clear c1 f1
        generalize z2.setCell ⟨gn, kk, none⟩ (.int .u8 (y : Int)) = z3 at *
        go_wp2_with fail
        go_roundw
        case rel => exact ⟨tt + 1, lab2, _, by go_num, by omega, HD.out⟩
        case measure => simp [intOf]; omega
      · have g0 : decide ((0 : Int) < (l.length : Int)) = false := decide_eq_false (by omega)
        go_wp2_with fail
        go_roundw
        case rel => exact ⟨tt + 1, lab2, _, by go_num, by omega, H.out⟩
        case measure => simp [intOf]; omega
    · have d1 : decide ((tt : Int) < 2) = false := decide_eq_false (by omega)
      have ht : m + 2 * tt = m + 4 := by omega
      have HB := H.out.bk
      rw [ht] at HB
      have HE := hide (And.intro H.out.old (And.intro HB H.out.kp))
      clear HB ht H
      go_wp2_with fail
      go_ret
      exact ⟨by first | rfl | simp, labt, HE.out.1, HE.out.2.1, HE.out.2.2⟩
end Go.Proofs.Ytlibldioliicfaa
namespace Go.Proofs.Ytlibldioliicfaa
open Go.RowKit Go.QK
set_option maxRecDepth 100000
/-- One step of a script. -/
structure OpM where
  k : Int
  r : RecM
  la : Option Addr
  lc : Nat
  da : Option Addr
  dc : Nat
  ba : Option Addr
  bl : List Nat
  bc : Nat
def opC (o : OpM) : Array Value := #[.int .i64 o.k, .int .i64 o.r.lsn, .int .i64 o.r.kind, .int .i64 o.r.tx, .int .i64 o.r.prev, .int .i64 o.r.wp, .int .i64 o.r.wi, .int .i64 o.r.sp, .int .i64 o.r.si, .int .i64 o.r.delta, .int .i64 o.r.id, .int .i64 o.r.grp, .int .i64 o.r.lo, .int .i64 o.r.hi, .int .i64 o.r.val, .slice o.la o.r.live.length o.lc, .slice o.da o.r.dirty.length o.dc, .int .i64 o.r.next, .slice o.ba o.bl.length o.bc]
def OpAt (w : World) (b off : Nat) (o : OpM) : Prop := ∀ j v, (opC o).toList[j]? = some v → w.cell? ⟨b, off + j, none⟩ = some v
/-- What a step leads to. -/
structure OpIn (w : World) (o : OpM) : Prop where
  l : Lies w o.la (liveCs o.r.live)
  d : Lies w o.da (dirtyCs o.r.dirty)
  ll : o.r.live.length ≤ o.lc
  dl : o.r.dirty.length ≤ o.dc
  nl : o.la = none → o.lc = 0
  nd : o.da = none → o.dc = 0
  f : Fits o.r
  b : Bytes w o.ba o.bl
  ab : AllB o.bl
  nb : o.ba = none → o.bc = 0
  bl : o.bl.length ≤ o.bc
theorem run_loadAt (w : World) (b off : Nat) (ty : TypeId) (cs : Array Value) (d : TypeDesc) (hc : ∀ j v, cs.toList[j]? = some v → w.cell? ⟨b, off + j, none⟩ = some v) (hu : Try.prog.underlying ty = some d) (hd : (match d with | .struct _ | .array _ _ => true | _ => false) = true) (hi : (Try.prog.info? ty).map (·.size) = some cs.size) :
    (loadVar ty ⟨b, off, none⟩).run Try.prog w = .ok (.agg cs) w := by
  have hl : (loadCells ⟨b, off, none⟩ cs.toList.length).run Try.prog w = .ok cs.toList.toArray w :=
    run_loadCells_list (P := Try.prog) w ⟨b, off, none⟩ cs.toList (fun j v hv => by
      rw [addr_add]
      exact hc j v hv)
  cases hq : Try.prog.info? ty with
  | none => simp [hq] at hi
  | some i =>
    have hs : i.size = cs.size := by simpa [hq] using hi
    have hagg : (isAgg ty).run Try.prog w = .ok true w := by
      unfold isAgg
      rw [Sem.run_bind, run_underlying hu w]
      cases d <;> simp_all
    simp only [Array.length_toList, Array.toArray_toList] at hl
    simp [loadVar, Sem.run_bind, hagg, sizeOf, typeInfo, hq, hs, hl]
section
variable {ops : Array Oper} {rest : List Oper} {a : Act} {w : World} {Q : Exit → Act → World → Prop} {d : Option Tmp} {ty : TypeId} {ps : String} {af : Array Edge} {x y : Operand} {b off : Nat} {cs cs' : Array Value}
theorem size59 : (Try.prog.info? 59).map (·.size) = some 19 := by kernel_rfl
theorem wpList_load59 (hc : ∀ j v, cs.toList[j]? = some v → w.cell? ⟨b, off + j, none⟩ = some v) (hs : cs.size = 19) (hx : a.eval x = .pointer (some ⟨b, off, none⟩)) (h : wpList Try.prog ops Q rest (a.put d (.agg cs)) w) :
    wpList Try.prog ops Q ({ dst := d, op := .load 59 x, type := ty, pos := ps, after := af, guard := none } :: rest) a w := by
  have hrun := run_loadAt w b off 59 cs _ hc Try.underlying59 rfl (by rw [hs]; exact size59)
  refine wpList_plain rfl fun K hK => ?_
  unfold Oper.wp execOp
  simp only [hx, Instr.loadAt, Instr.sureAddr, Sem.run_bind, Sem.run_pure, Result.andThen_ok, hrun]
  exact hK _ _ h
theorem wpList_load36at (hc : ∀ j v, cs.toList[j]? = some v → w.cell? ⟨b, off + j, none⟩ = some v) (hs : cs.size = 17) (hx : a.eval x = .pointer (some ⟨b, off, none⟩)) (h : wpList Try.prog ops Q rest (a.put d (.agg cs)) w) :
    wpList Try.prog ops Q ({ dst := d, op := .load 36 x, type := ty, pos := ps, after := af, guard := none } :: rest) a w := by
  have hrun := run_loadAt w b off 36 cs _ hc Try.underlying36 rfl (size36' hs)
  refine wpList_plain rfl fun K hK => ?_
  unfold Oper.wp execOp
  simp only [hx, Instr.loadAt, Instr.sureAddr, Sem.run_bind, Sem.run_pure, Result.andThen_ok, hrun]
  exact hK _ _ h
theorem wpList_store59 (hb : RBox w b 59 cs) (hs : cs.size = 19) (hs' : cs'.size = 19) (h1 : cs'.toList.all (·.oneCell') = true) (hx : a.eval x = .pointer (some ⟨b, 0, none⟩)) (hy : a.eval y = .agg cs')
    (h : ∀ w', RBox w' b 59 cs' → Keep (fun k => k = b) w w' → wpList Try.prog ops Q rest (a.put d undef) w') :
    wpList Try.prog ops Q ({ dst := d, op := .store 59 x y, type := ty, pos := ps, after := af, guard := none } :: rest) a w := by
  have hrun := run_storeVar_row (P := Try.prog) w b 59 59 cs cs' hb (by rw [hs']; exact size59) (by rw [hs, hs']) (by rw [← Array.all_toList]; exact h1)
  refine wpList_plain rfl fun K hK => ?_
  unfold Oper.wp execOp
  simp only [hx, hy, Instr.storeAt, Instr.sureAddr, Sem.run_bind, Sem.run_pure, Result.andThen_ok, hrun]
  exact hK _ _ (h _ (RBox.setRow hb cs') (keep_setRow _ _ _))
end
theorem opC_rec (o : OpM) (j : Nat) (v : Value) (h : (recC o.r o.la o.lc o.da o.dc).toList[j]? = some v) : (opC o).toList[1 + j]? = some v := by
  have e : (opC o).toList = [.int .i64 o.k] ++ ((recC o.r o.la o.lc o.da o.dc).toList ++ [.slice o.ba o.bl.length o.bc]) := rfl
  rw [e, List.getElem?_append_right (by simp), List.length_singleton, Nat.add_sub_cancel_left]
  obtain ⟨hj, _⟩ := List.getElem?_eq_some_iff.1 h
  rw [List.getElem?_append_left hj]
  exact h
/-- An empty book. -/
theorem bk_new (w : World) (B : Nat) (hB : B ≤ w.heap.size) : BkE (w.alloc (.cells #[.slice none 0 0, .slice none 0 0, .slice none 0 0, .slice none 0 0, .slice none 0 0, .slice none 0 0] 57)) B (fun b => if b = w.heap.size then 0 else 9) w.heap.size 0 0 := by
  refine ⟨.slice none 0 0, .slice none 0 0, .slice none 0 0, .slice none 0 0, .slice none 0 0, .slice none 0 0, [], [], [], [], [], [], Cells.new _ _ _, if_pos rfl, ?_, ?_, ?_, rfl, rfl, rfl, by simp; omega, fun b hb => if_neg (by simp at hb; omega)⟩
  all_goals exact ⟨World.ownsRow_nil _ _ _ _, World.ownsRow_nil _ _ _ _, nofun, nofun, rfl, fun i h _ => by simp at h⟩
set_option maxHeartbeats 0 in
theorem exact_walk (sa : Option Addr) (len cap : Nat) (w : World) (hops : ∀ i, i < len → ∃ b off o, sa = some ⟨b, off, none⟩ ∧ b < w.heap.size ∧ OpAt w b (off + i * 19) o ∧ OpIn w o) :
    Calls Try.prog 6 #[.slice sa len cap] w fun e w' => e = .returned (.bool true) ∧ Below w.heap.size w w' := by
  have HO := hide hops
  clear hops
  go_enter Try.func6, Try.ntmps6
  go_wp2_with fail
  refine (awake_any _).mono ?_
  rintro e w1 ⟨rfl, b1⟩
  have sz1 := b1.size
  have BK := bk_new w1 w.heap.size sz1
  have BL := bnext b1 (alloc_below w1 (.cells #[.slice none 0 0, .slice none 0 0, .slice none 0 0, .slice none 0 0, .slice none 0 0, .slice none 0 0] 57)) (Nat.le_refl _)
  go_upto_region 4 with fail
  generalize w1.alloc (.cells #[.slice none 0 0, .slice none 0 0, .slice none 0 0, .slice none 0 0, .slice none 0 0, .slice none 0 0] 57) = w2 at *
  have L0 : ∀ b, b < w.heap.size → (fun b => if b = w1.heap.size then 0 else 9) b = 9 := fun b hb => if_neg (by omega)
  generalize (fun b => if b = w1.heap.size then 0 else 9) = lab0 at *
  generalize w1.heap.size = kb at *
  have BK := hide BK
  have BL := hide BL
  have L0 := hide L0
  clear b1 sz1
  go_wp2_with fail
  go_loopw [4] (fun i wr => ∃ (k n m : Nat) (lab : Nat → Nat), i = .int .i64 (k : Int) ∧ k ≤ len ∧ k ≤ 100 ∧ n ≤ 4 * k ∧ m ≤ 4 * k ∧ (∀ b, b < w.heap.size → lab b = 9) ∧ BkE wr w.heap.size lab kb n m ∧ Below w.heap.size w wr) (fun i _ => 100 - (intOf i).toNat)
  case atStart => exact ⟨0, 0, 0, lab0, rfl, Nat.zero_le _, by omega, by omega, by omega, L0.out, BK.out, BL.out⟩
  case round =>
    clear L0 BK BL
    obtain ⟨k, n, m, lab, rfl, hk1, hk2, hn, hm, hlab, hbk, hbl⟩ := hrel
    have LB := hide hlab
    have BK := hide hbk
    have BL := hide hbl
    clear hlab hbk hbl
    by_cases h1 : k < len
    · have d1 : decide ((k : Int) < (len : Int)) = true := decide_eq_true (by omega)
      have d2 : (k : Int) < (len : Int) := by omega
      by_cases h2 : k < 100
      · have d3 : decide ((k : Int) < 100) = true := decide_eq_true (by omega)
        have ewk : IntKind.i64.wrap ((k : Int) + 1) = (k : Int) + 1 := by rw [IntKind.wrap_i64]; omega
        obtain ⟨b, off, o, rfl, hb, hat, hin⟩ := HO.out k h1
        have HAT := hide (show ∀ j v, (opC o).toList[j]? = some v → wr.cell? ⟨b, off + k * 19 + j, none⟩ = some v from fun j v h => (BL.out.cell (p := ⟨b, off + k * 19 + j, none⟩) hb).trans (hat j v h))
        have HIN := hide hin
        have hi9 : Hid (lab wr.heap.size = 9) := by
          obtain ⟨_, _, _, _, _, _, _, _, _, _, _, _, h⟩ := BK.out
          exact h.hi _ (Nat.le_refl _)
        have aB := bnext BL.out (alloc_below wr (.cells #[.int .i64 0, .int .i64 0, .int .i64 0, .int .i64 0, .int .i64 0, .int .i64 0, .int .i64 0, .int .i64 0, .int .i64 0, .int .i64 0, .int .i64 0, .int .i64 0, .int .i64 0, .int .i64 0, .int .i64 0, .slice none 0 0, .slice none 0 0, .int .i64 0, .slice none 0 0] 59)) (Nat.le_refl _)
        have aK := BK.out.below (alloc_below wr (.cells #[.int .i64 0, .int .i64 0, .int .i64 0, .int .i64 0, .int .i64 0, .int .i64 0, .int .i64 0, .int .i64 0, .int .i64 0, .int .i64 0, .int .i64 0, .int .i64 0, .int .i64 0, .int .i64 0, .int .i64 0, .slice none 0 0, .slice none 0 0, .int .i64 0, .slice none 0 0] 59))
        have szr := BL.out.size
        clear hat hin
        go_upto_region 8 with (first | refine wpList_load59 HAT.out rfl rfl ?_ | (refine wpList_store59 (RBox.new _ _ _) rfl rfl rfl rfl rfl ?_; intro w3 X3 hk3))
        have BK3 := hide (aK.keep hk3 (fun j _ s => by have e : j = wr.heap.size := s; rw [e]; exact hi9.out))
        have BL3 := hide (aB.trans (hk3.below aB.size (fun j hj q => by have e : j = wr.heap.size := q; omega)))
        have XX := hide X3
        have SR := hide szr
        generalize wr.heap.size = b5 at *
        have LB9 : Hid (lab b5 = 9) := hi9
        clear aK aB hk3 X3 BK BL HAT hi9 szr
        (try simp only [Act.put])
        have c0 := (XX.out.cells.get 0 _ rfl).1
        have c18 := (XX.out.cells.get 18 _ rfl).1
        have HC : Hid (∀ j v, (recC o.r o.la o.lc o.da o.dc).toList[j]? = some v → w3.cell? ⟨b5, 1 + j, none⟩ = some v) := hide (fun j v h => (XX.out.cells.get (1 + j) v (opC_rec o j v h)).1)
        by_cases hka : o.k = 1
        · have ka : (o.k == 1) = true := by simpa using hka
          have KA := hide hka
          clear hka
          go_wp2_with (refine wpList_load36at (cs := recC o.r o.la o.lc o.da o.dc) (b := b5) (off := 1) HC.out rfl rfl ?_)
          clear c0 c18 HC XX
          refine (cut_any o.r o.la o.da o.lc o.dc _ HIN.out.ll HIN.out.dl).mono ?_
          rintro e w4 ⟨rfl, b4⟩
          have BK4 := hide (BK3.out.below b4)
          have BL4 := hide (bnext BL3.out b4 (Nat.le_refl _))
          have sz4 := BL4.out.size
          clear b4 BK3 BL3
          have zl : o.la = none → o.lc = 0 ∧ (cutR o.r).live.length = 0 := fun q => ⟨HIN.out.nl q, by have := HIN.out.nl q; have := HIN.out.ll; simp only [cutR, List.length_take]; omega⟩
          have zd : o.da = none → o.dc = 0 ∧ (cutR o.r).dirty.length = 0 := fun q => ⟨HIN.out.nd q, by have := HIN.out.nd q; have := HIN.out.dl; simp only [cutR, List.length_take]; omega⟩
          have cL := (HIN.out.l.takeL 100)
          have cD := (HIN.out.d.takeD 100)
          have gl : liveCs (cutR o.r).live ≠ [] → ∀ ad, o.la = some ad → lab ad.block = 9 := by
            intro hc ad q
            rcases cL with h | ⟨b', off', e', hlt, _⟩
            · exact absurd h hc
            · rw [e'] at q; cases q; exact LB.out _ hlt
          have gd : dirtyCs (cutR o.r).dirty ≠ [] → ∀ ad, o.da = some ad → lab ad.block = 9 := by
            intro hc ad q
            rcases cD with h | ⟨b', off', e', hlt, _⟩
            · exact absurd h hc
            · rw [e'] at q; cases q; exact LB.out _ hlt
          have EN := hide (encodes_any w4 w.heap.size lab kb n m BK4.out (by omega) (cutR o.r) o.la o.da o.lc o.dc (cL.below BL4.out) (cD.below BL4.out) zl zd HIN.out.f (by simp only [cutR, List.length_take]; omega) (by simp only [cutR, List.length_take]; omega) gl gd sz4)
          clear zl zd cL cD gl gd
          go_wp2_with fail
          refine EN.out.mono ?_
          rintro e w5 ⟨rfl, lab', old', bk', kp'⟩
          have LB5 := hide (show ∀ b, b < w.heap.size → lab' b = 9 from fun b hb => (old' b (by omega)).trans (LB.out b hb))
          have BK5 := hide bk'
          have BL5 := hide (BL4.out.trans (kp'.below sz4 (fun j hj q => q (LB.out j hj))))
          clear EN old' bk' kp' BK4 BL4 LB
          go_wp2_with fail
          refine (holds_any w5 w.heap.size lab' kb (n + 4) (m) BK5.out (by omega) (by omega)).mono ?_
          rintro e wq ⟨rfl, hq⟩
          obtain rfl : w5 = wq := hq.symm
          go_wp2_with fail
          go_roundw
          case rel => exact ⟨k + 1, n + 4, m, lab', by go_num, h1, h2, by omega, by omega, LB5.out, BK5.out, BL5.out⟩
          case measure => simp [intOf]; omega
        · have ka : (o.k == 1) = false := by simpa using hka
          by_cases hkb : o.k = 2
          · have kb2 : (o.k == 2) = true := by simpa using hkb
            have KB := hide hkb
            clear hka hkb
            go_wp2_with (refine wpList_load36at (cs := recC o.r o.la o.lc o.da o.dc) (b := b5) (off := 1) HC.out rfl rfl ?_)
            clear c0 c18 HC XX
            refine (cut_any o.r o.la o.da o.lc o.dc _ HIN.out.ll HIN.out.dl).mono ?_
            rintro e w4 ⟨rfl, b4⟩
            have BK4 := hide (BK3.out.below b4)
            have BL4 := hide (bnext BL3.out b4 (Nat.le_refl _))
            have sz4 := BL4.out.size
            clear b4 BK3 BL3
            have zl : o.la = none → o.lc = 0 ∧ (cutR o.r).live.length = 0 := fun q => ⟨HIN.out.nl q, by have := HIN.out.nl q; have := HIN.out.ll; simp only [cutR, List.length_take]; omega⟩
            have zd : o.da = none → o.dc = 0 ∧ (cutR o.r).dirty.length = 0 := fun q => ⟨HIN.out.nd q, by have := HIN.out.nd q; have := HIN.out.dl; simp only [cutR, List.length_take]; omega⟩
            have cL := (HIN.out.l.takeL 100)
            have cD := (HIN.out.d.takeD 100)
            have gl : liveCs (cutR o.r).live ≠ [] → ∀ ad, o.la = some ad → lab ad.block = 9 := by
              intro hc ad q
              rcases cL with h | ⟨b', off', e', hlt, _⟩
              · exact absurd h hc
              · rw [e'] at q; cases q; exact LB.out _ hlt
            have gd : dirtyCs (cutR o.r).dirty ≠ [] → ∀ ad, o.da = some ad → lab ad.block = 9 := by
              intro hc ad q
              rcases cD with h | ⟨b', off', e', hlt, _⟩
              · exact absurd h hc
              · rw [e'] at q; cases q; exact LB.out _ hlt
            have EN := hide (encodes_any w4 w.heap.size lab kb n m BK4.out (by omega) (cutR o.r) o.la o.da o.lc o.dc (cL.below BL4.out) (cD.below BL4.out) zl zd HIN.out.f (by simp only [cutR, List.length_take]; omega) (by simp only [cutR, List.length_take]; omega) gl gd sz4)
            clear zl zd cL cD gl gd
            go_wp2_with fail
            refine EN.out.mono ?_
            rintro e w5 ⟨rfl, lab', old', bk', kp'⟩
            have LB5 := hide (show ∀ b, b < w.heap.size → lab' b = 9 from fun b hb => (old' b (by omega)).trans (LB.out b hb))
            have BK5 := hide bk'
            have BL5 := hide (BL4.out.trans (kp'.below sz4 (fun j hj q => q (LB.out j hj))))
            clear EN old' bk' kp' BK4 BL4 LB
            go_wp2_with fail
            refine (holds_any w5 w.heap.size lab' kb (n + 4) (m) BK5.out (by omega) (by omega)).mono ?_
            rintro e wq ⟨rfl, hq⟩
            obtain rfl : w5 = wq := hq.symm
            go_wp2_with fail
            go_roundw
            case rel => exact ⟨k + 1, n + 4, m, lab', by go_num, h1, h2, by omega, by omega, LB5.out, BK5.out, BL5.out⟩
            case measure => simp [intOf]; omega
          · have kb2 : (o.k == 2) = false := by simpa using hkb
            by_cases hkc : o.k = 3
            · have kc : (o.k == 3) = true := by simpa using hkc
              have KC := hide hkc
              clear hka hkb hkc HC
              by_cases hbig : o.bl.length ≤ 2000
              · have gb : decide ((2000 : Int) < (o.bl.length : Int)) = false := decide_eq_false (by omega)
                have sz4 := BL3.out.size
                have DE := decodes_any w3 w.heap.size lab kb n m BK3.out (by omega) o.ba o.bc o.bl (Seen.below HIN.out.b BL3.out) HIN.out.nb (hbig) (HIN.out.ab) sz4
                skip
                have DE := hide DE
                go_wp2_with fail
                refine DE.out.mono ?_
                rintro e w5 ⟨rfl, lab', old', bk', kp'⟩
                have LB5 := hide (show ∀ b, b < w.heap.size → lab' b = 9 from fun b hb => (old' b (by omega)).trans (LB.out b hb))
                have BK5 := hide bk'
                have BL5 := hide (BL3.out.trans (kp'.below sz4 (fun j hj q => q (LB.out j hj))))
                clear DE old' bk' kp' BK3 BL3 LB
                go_wp2_with fail
                refine (holds_any w5 w.heap.size lab' kb (n) (m + 4) BK5.out (by omega) (by omega)).mono ?_
                rintro e wq ⟨rfl, hq⟩
                obtain rfl : w5 = wq := hq.symm
                go_wp2_with fail
                go_roundw
                case rel => exact ⟨k + 1, n, m + 4, lab', by go_num, h1, h2, by omega, by omega, LB5.out, BK5.out, BL5.out⟩
                case measure => simp [intOf]; omega
              · have gb : decide ((2000 : Int) < (o.bl.length : Int)) = true := decide_eq_true (by omega)
                have f18 := (XX.out.cells.get 18 _ rfl).2
                have sl := fun w => slice_to o.ba o.bl.length o.bc 2000 2000 w rfl (by have := HIN.out.bl; omega)
                have k9 : Keep (fun j => j = b5) w3 (w3.setCell ⟨b5, 18, none⟩ (.slice o.ba 2000 o.bc)) := (Keep.refl (fun j => j = b5) w3).setCell (fun _ => rfl) _
                have l9 : Hid (lab b5 = 9) := LB9
                have BK9 := hide (BK3.out.keep k9 (fun j _ s => by have e : j = b5 := s; rw [e]; exact l9.out))
                have BL9 := hide (BL3.out.trans (k9.below BL3.out.size (fun j hj q => by have e : j = b5 := q; have := SR.out; omega)))
                have c9 := ((XX.out.cells.stored (j := 18) (by rw [show (opC o).toList.length = 19 from rfl]; omega) (.slice o.ba 2000 o.bc)).get 18 _ rfl).1
                clear k9 XX BK3 BL3
                go_upto_region 16 with fail
                generalize w3.setCell ⟨b5, 18, none⟩ (.slice o.ba 2000 o.bc) = w9 at *
                clear c0 c18 f18 sl
                have sz4 := BL9.out.size
                have DE := decodes_any w9 w.heap.size lab kb n m BK9.out (by omega) o.ba o.bc (o.bl.take 2000) (Bytes.take (Seen.below HIN.out.b BL9.out) 2000) HIN.out.nb (by rw [List.length_take]; omega) (fun y hy => HIN.out.ab y (List.mem_of_mem_take hy)) sz4
                have e2 : (o.bl.take 2000).length = 2000 := by rw [List.length_take]; omega
                rw [e2] at DE
                clear e2
                have DE := hide DE
                go_wp2_with fail
                refine DE.out.mono ?_
                rintro e w5 ⟨rfl, lab', old', bk', kp'⟩
                have LB5 := hide (show ∀ b, b < w.heap.size → lab' b = 9 from fun b hb => (old' b (by omega)).trans (LB.out b hb))
                have BK5 := hide bk'
                have BL5 := hide (BL9.out.trans (kp'.below sz4 (fun j hj q => q (LB.out j hj))))
                clear DE old' bk' kp' BK9 BL9 LB
                go_wp2_with fail
                refine (holds_any w5 w.heap.size lab' kb (n) (m + 4) BK5.out (by omega) (by omega)).mono ?_
                rintro e wq ⟨rfl, hq⟩
                obtain rfl : w5 = wq := hq.symm
                go_wp2_with fail
                go_roundw
                case rel => exact ⟨k + 1, n, m + 4, lab', by go_num, h1, h2, by omega, by omega, LB5.out, BK5.out, BL5.out⟩
                case measure => simp [intOf]; omega
            · have kc : (o.k == 3) = false := by simpa using hkc
              clear hka hkb hkc HC XX
              go_wp2_with fail
              refine (holds_any w3 w.heap.size lab kb (n) (m) BK3.out (by omega) (by omega)).mono ?_
              rintro e wq ⟨rfl, hq⟩
              obtain rfl : w3 = wq := hq.symm
              go_wp2_with fail
              go_roundw
              case rel => exact ⟨k + 1, n, m, lab, by go_num, h1, h2, by omega, by omega, LB.out, BK3.out, BL3.out⟩
              case measure => simp [intOf]; omega
      · have d3 : decide ((k : Int) < 100) = false := decide_eq_false (by omega)
        go_wp2_with fail
        go_ret
        exact ⟨by first | rfl | simp, BL.out⟩
    · have d1 : decide ((k : Int) < (len : Int)) = false := decide_eq_false (by omega)
      go_wp2_with fail
      go_ret
      exact ⟨by first | rfl | simp, BL.out⟩
end Go.Proofs.Ytlibldioliicfaa
