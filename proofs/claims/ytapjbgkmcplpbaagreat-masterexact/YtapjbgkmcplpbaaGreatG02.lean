import Derived.Test.YtapjbgkmcplpbaaGreatKit
import Derived.Laws.Bits64b
import Derived.Laws.BitsLemmas
import Derived.Laws.BytesString
import Derived.Laws.CopyOwn
namespace Go.QK
open Go.RowKit

/-! What a call may have touched: the blocks of S, and new ones. -/

structure Keep (S : Nat → Prop) (w w' : World) : Prop where
  os : w'.os = w.os
  tape : w'.tape = w.tape
  output : w'.output = w.output
  size : w.heap.size ≤ w'.heap.size
  block : ∀ k, k < w.heap.size → ¬ S k → w'.heap[k]? = w.heap[k]?

section
variable {S T : Nat → Prop} {w w0 w1 w' : World}

theorem Keep.refl (S : Nat → Prop) (w : World) : Keep S w w := ⟨rfl, rfl, rfl, Nat.le_refl _, fun _ _ _ => rfl⟩
theorem Keep.mono (h : Keep S w w') (q : ∀ k, k < w.heap.size → S k → T k) : Keep T w w' := ⟨h.os, h.tape, h.output, h.size, fun k hk hn => h.block k hk (fun s => hn (q k hk s))⟩
theorem Keep.of_below (h : Below w.heap.size w w') : Keep S w w' := ⟨h.os, h.tape, h.output, h.size, fun k hk _ => h.block k hk⟩
theorem Keep.below {B : Nat} (h : Keep S w w') (hB : B ≤ w.heap.size) (q : ∀ k, k < B → ¬ S k) : Below B w w' := ⟨h.os, h.tape, h.output, h.size, fun k hk => h.block k (Nat.lt_of_lt_of_le hk hB) (q k hk)⟩
theorem Keep.trans (h : Keep S w0 w) (k : Keep T w w') (q : ∀ j, j < w0.heap.size → T j → S j) : Keep S w0 w' :=
  ⟨k.os.trans h.os, k.tape.trans h.tape, k.output.trans h.output, Nat.le_trans h.size k.size, fun j hj hn => (k.block j (Nat.lt_of_lt_of_le hj h.size) (fun s => hn (q j hj s))).trans (h.block j hj hn)⟩
theorem Keep.then_below (h : Keep S w0 w) (k : Below w.heap.size w w') : Keep S w0 w' := h.trans (Keep.of_below (S := fun _ => False) k) (fun _ _ f => f.elim)
theorem Keep.drew (h : Keep S w0 w) : Keep S w0 w.drew := ⟨h.os, h.tape, h.output, h.size, h.block⟩
theorem Keep.undrew (h : Keep S w0.drew w) : Keep S w0 w := ⟨h.os, h.tape, h.output, h.size, h.block⟩
theorem Keep.alloc (h : Keep S w0 w) (o : Obj) : Keep S w0 (w.alloc o) := h.then_below ((Below.refl _ _).alloc (Nat.le_refl _) _)
theorem Keep.setCell (h : Keep S w0 w) {g j : Nat} (hs : g < w0.heap.size → S g) (u : Value) : Keep S w0 (w.setCell ⟨g, j, none⟩ u) :=
  ⟨h.os, h.tape, h.output, by simpa using h.size, fun k hk hn => (Below.heap_setCell w ⟨g, j, none⟩ u k (by intro e; subst e; exact hn (hs hk))).trans (h.block k hk hn)⟩
theorem Keep.grown {row : Option Nat} (h : Keep S w0 w) (hg : w.grownBy w' row) (hs : ∀ g, row = some g → g < w0.heap.size → S g) : Keep S w0 w' := by
  have e : Below 0 w w' := (Below.refl 0 w).grown hg (Nat.zero_le _) (fun _ _ => Nat.zero_le _)
  refine ⟨e.os.trans h.os, e.tape.trans h.tape, e.output.trans h.output, Nat.le_trans h.size e.size, fun k hk hn => ?_⟩
  refine Eq.trans ?_ (h.block k hk hn)
  have q : World.grownBy w w' row := hg
  exact q.block k (Nat.lt_of_lt_of_le hk h.size) (fun r => hn (hs k r.symm hk))
theorem Keep.cell (h : Keep S w w') {p : Addr} (hp : p.block < w.heap.size) (hn : ¬ S p.block) : w'.cell? p = w.cell? p := World.cell?_of_block (w := w) (h.block p.block hp hn)
theorem Keep.frozen (h : Keep S w w') {p : Addr} (hp : p.block < w.heap.size) (hn : ¬ S p.block) : w'.frozen? p = w.frozen? p := World.frozen?_of_block (w := w) (h.block p.block hp hn)

theorem Seen.keep {k : IntKind} {a : Option Addr} {xs : List Int} (h : Seen k w a xs) (hb : Keep S w w') (hn : ∀ ad, a = some ad → ¬ S ad.block) : Seen k w' a xs := by
  rcases h with h | ⟨b, off, ha, hlt, hc⟩
  · exact .inl h
  · exact .inr ⟨b, off, ha, Nat.lt_of_lt_of_le hlt hb.size, fun i hi => (hb.cell (p := ⟨b, off + i, none⟩) hlt (by have := hn _ ha; exact this)).trans (hc i hi)⟩
theorem Owns.keep {k : IntKind} {e : TypeId} {B : Nat} {v : Value} {xs : List Int} (h : Owns k e w B v xs) (hb : Keep S w w') (hn : ∀ g, v.ownBlock = some g → ¬ S g) : Owns k e w' B v xs := by
  refine ⟨h.1, ?_⟩
  rcases h.2 with q | ⟨g, cap, cur, q, hbg, hg, rest⟩
  · exact .inl q
  · have hlt := (World.ownsRow.lt h g (by rw [q]; rfl)).2
    exact .inr ⟨g, cap, cur, q, hbg, (hb.block g hlt (hn g (by rw [q]; rfl))).trans hg, rest⟩
theorem Cells.keep {b : Nat} {cs : List Value} (h : Cells w b cs) (hb : Keep S w w') (hn : ¬ S b) : Cells w' b cs :=
  ⟨Nat.lt_of_lt_of_le h.1 hb.size, fun j hj => ⟨(hb.cell (p := ⟨b, j, none⟩) h.1 hn).trans (h.2 j hj).1, (hb.frozen (p := ⟨b, j, none⟩) h.1 hn).trans (h.2 j hj).2⟩⟩
end

/-! Bytes. -/

def ints (l : List Nat) : List Int := l.map (fun n : Nat => (n : Int))
@[simp] theorem ints_length (l : List Nat) : (ints l).length = l.length := by simp [ints]
@[simp] theorem ints_nil : ints [] = [] := rfl
theorem ints_append (l m : List Nat) : ints (l ++ m) = ints l ++ ints m := by simp [ints]
theorem ints_take (l : List Nat) (n : Nat) : ints (l.take n) = (ints l).take n := by simp [ints]
theorem ints_drop (l : List Nat) (n : Nat) : ints (l.drop n) = (ints l).drop n := by simp [ints]
theorem ints_getD (l : List Nat) (i : Nat) (h : i < (ints l).length) : (ints l)[i] = ((l.getD i 0 : Nat) : Int) := by
  have h' : i < l.length := by simpa using h
  simp [ints, h']
theorem ints_ne {l : List Nat} (h : ints l ≠ []) : l ≠ [] := fun q => h (by rw [q]; rfl)
theorem Seen.keep' {S : Nat → Prop} {w w' : World} {k : IntKind} {a : Option Addr} {xs : List Int} (h : Seen k w a xs) (hb : Keep S w w') (hn : xs ≠ [] → ∀ ad, a = some ad → ¬ S ad.block) : Seen k w' a xs := by
  by_cases hx : xs = []
  · exact .inl hx
  · exact h.keep hb (hn hx)
/-- All of them are bytes. -/
def AllB (l : List Nat) : Prop := ∀ x ∈ l, x < 256
theorem AllB.nil : AllB [] := nofun
theorem AllB.append {l m : List Nat} (h : AllB l) (k : AllB m) : AllB (l ++ m) := fun x hx => (List.mem_append.1 hx).elim (h x) (k x)
theorem AllB.take {l : List Nat} (h : AllB l) (n : Nat) : AllB (l.take n) := fun x hx => h x (List.mem_of_mem_take hx)
theorem AllB.drop {l : List Nat} (h : AllB l) (n : Nat) : AllB (l.drop n) := fun x hx => h x (List.mem_of_mem_drop hx)
theorem AllB.get {l : List Nat} (h : AllB l) (i : Nat) : l.getD i 0 < 256 := by
  by_cases q : i < l.length
  · have := h l[i] (List.getElem_mem q)
    simpa [q] using this
  · simp [List.getElem?_eq_none (Nat.le_of_not_lt q)]

/-- The bytes that a slice leads to. -/
abbrev Bytes (w : World) (a : Option Addr) (l : List Nat) : Prop := Seen .u8 w a (ints l)
/-- Bytes of the program's own. -/
abbrev OwnB (w : World) (B : Nat) (v : Value) (l : List Nat) : Prop := Owns .u8 5 w B v (ints l)
theorem Bytes.at {w : World} {a : Option Addr} {l : List Nat} (h : Bytes w a l) {i : Nat} (hi : i < l.length) : ∃ b off, a = some ⟨b, off, none⟩ ∧ b < w.heap.size ∧ w.cell? ⟨b, off + i, none⟩ = some (.int .u8 ((l.getD i 0 : Nat) : Int)) := by
  obtain ⟨b, off, h1, h2, h3⟩ := Seen.at h (i := i) (by simpa using hi)
  rw [ints_getD] at h3
  exact ⟨b, off, h1, h2, h3⟩
theorem Bytes.take {w : World} {a : Option Addr} {l : List Nat} (h : Bytes w a l) (n : Nat) : Bytes w a (l.take n) := by
  have := Seen.take h n
  rwa [← ints_take] at this
theorem Bytes.drop {w : World} {a : Option Addr} {l : List Nat} {cap : Nat} (h : Bytes w a l) (n : Nat) (hc : l.length ≤ cap) : Bytes w (dropA a cap n) (l.drop n) := by
  have := Seen.drop h n (by simpa using hc)
  rwa [← ints_drop] at this

/-! Bits. -/

theorem bits_and_nat (k : IntKind) (j : Nat) (hj : j ≤ k.bits) (hk : ∀ n : Int, 0 ≤ n → n < 2 ^ j → k.wrap n = n) (a b : Nat) (ha : a < 2 ^ j) (hb : b < 2 ^ j) :
    bits .and k a b = ((a &&& b : Nat) : Int) := (bits_nat k j hj hk a b ha hb).1
theorem wraps_u64 (n : Int) (h₀ : 0 ≤ n) (h₁ : n < 2 ^ 64) : IntKind.u64.wrap n = n := by rw [IntKind.wrap_u64]; omega
theorem and1_u64 (a : Nat) (ha : a < 18446744073709551616) : bits .and .u64 a 1 = ((a % 2 : Nat) : Int) := by
  have := bits_and_nat .u64 64 (by decide) wraps_u64 a 1 ha (by decide)
  rw [show a &&& 1 = a % 2 from Nat.and_two_pow_sub_one_eq_mod a 1] at this
  exact this
end Go.QK

namespace Go.QK
open Go.RowKit

/-! The disk of chapter 3, in plain numbers. -/

structure Loss where
  keep : List Nat
  torn : Int
  off : Int

structure Dev where
  img : List Nat
  pend : List (Nat × List Nat)
  calls : Nat
  down : Bool
  left : Nat
  loss : Option Loss

def keptN (keep : List Nat) (k : Nat) : Bool := decide (k / 64 < keep.length) && decide (keep.getD (k / 64) 0 / 2 ^ (k % 64) % 2 = 1)
def leavesN (l : Loss) (k : Nat) : Nat := if keptN l.keep k = true then 512 else if (k : Int) = l.torn then (min (max l.off 0) 512).toNat else 0
def lay (img : List Nat) (s : Nat) (b : List Nat) (n : Nat) : List Nat := splice img (512 * s) (b.take n)
def fallFrom (l : Loss) : Nat → List (Nat × List Nat) → List Nat → List Nat
  | _, [], img => img
  | k, p :: ps, img => fallFrom l (k + 1) ps (lay img p.1 p.2 (leavesN l k))
def syncAll : List (Nat × List Nat) → List Nat → List Nat
  | [], img => img
  | p :: ps, img => syncAll ps (lay img p.1 p.2 512)
def sector (img : List Nat) (i : Nat) : List Nat := (img.drop (512 * i)).take 512
/-- What a sector holds: the last pending write of it, or the image's bytes. -/
def contentOf (img : List Nat) (i : Nat) (ps : List (Nat × List Nat)) : List Nat := ps.foldl (fun x p => if p.1 = i then p.2 else x) (sector img i)

theorem leavesN_le (l : Loss) (k : Nat) : leavesN l k ≤ 512 := by
  unfold leavesN
  split
  · omega
  · split <;> omega
theorem fallFrom_snoc (l : Loss) (p : Nat × List Nat) : (ps : List (Nat × List Nat)) → (k : Nat) → (img : List Nat) → fallFrom l k (ps ++ [p]) img = lay (fallFrom l k ps img) p.1 p.2 (leavesN l (k + ps.length))
  | [], k, img => rfl
  | q :: ps, k, img => by
    show fallFrom l (k + 1) (ps ++ [p]) _ = _
    rw [fallFrom_snoc l p ps (k + 1)]
    show lay (fallFrom l (k + 1) ps _) _ _ _ = lay (fallFrom l (k + 1) ps _) _ _ _
    congr 2
    simp; omega
theorem syncAll_snoc (p : Nat × List Nat) : (ps : List (Nat × List Nat)) → (img : List Nat) → syncAll (ps ++ [p]) img = lay (syncAll ps img) p.1 p.2 512
  | [], img => rfl
  | q :: ps, img => by
    show syncAll (ps ++ [p]) _ = _
    rw [syncAll_snoc p ps]
    rfl
theorem take_snoc {α : Type} (l : List α) (k : Nat) (h : k < l.length) : l.take (k + 1) = l.take k ++ [l[k]] := by
  rw [List.take_add_one]; simp [h]
theorem fallFrom_take (l : Loss) (ps : List (Nat × List Nat)) (img : List Nat) (k : Nat) (h : k < ps.length) : fallFrom l 0 (ps.take (k + 1)) img = lay (fallFrom l 0 (ps.take k) img) ps[k].1 ps[k].2 (leavesN l k) := by
  rw [take_snoc ps k h, fallFrom_snoc, List.length_take, Nat.min_eq_left (by omega), Nat.zero_add]
theorem syncAll_take (ps : List (Nat × List Nat)) (img : List Nat) (k : Nat) (h : k < ps.length) : syncAll (ps.take (k + 1)) img = lay (syncAll (ps.take k) img) ps[k].1 ps[k].2 512 := by
  rw [take_snoc ps k h, syncAll_snoc]
theorem contentOf_take (img : List Nat) (i : Nat) (ps : List (Nat × List Nat)) (k : Nat) (h : k < ps.length) : contentOf img i (ps.take (k + 1)) = if ps[k].1 = i then ps[k].2 else contentOf img i (ps.take k) := by
  rw [take_snoc ps k h]
  unfold contentOf
  rw [List.foldl_append]
  rfl

/-- A write that fits an image. -/
def Fits (m : Nat) (p : Nat × List Nat) : Prop := 512 * p.1 + 512 ≤ m ∧ p.2.length = 512 ∧ AllB p.2
theorem lay_length {img : List Nat} {p : Nat × List Nat} {m : Nat} (h : Fits m p) (hm : img.length = m) (n : Nat) : (lay img p.1 p.2 n).length = m := by
  obtain ⟨h1, h2, _⟩ := h
  unfold lay
  rw [length_splice _ _ _ (by simp; omega), hm]
theorem AllB.splice {l c : List Nat} (h : AllB l) (k : AllB c) (o : Nat) : AllB (splice l o c) := by
  unfold Go.splice
  exact (h.take _).append (k.append (h.drop _))
theorem AllB.lay {img : List Nat} {p : Nat × List Nat} {m : Nat} (hi : AllB img) (h : Fits m p) (n : Nat) : AllB (lay img p.1 p.2 n) := hi.splice (h.2.2.take n) _
theorem fallFrom_ok (l : Loss) {m : Nat} : (ps : List (Nat × List Nat)) → (k : Nat) → (img : List Nat) → (∀ p ∈ ps, Fits m p) → img.length = m → AllB img → (fallFrom l k ps img).length = m ∧ AllB (fallFrom l k ps img)
  | [], _, _, _, hm, hb => ⟨hm, hb⟩
  | p :: ps, k, img, h, hm, hb => fallFrom_ok l ps (k + 1) _ (fun q hq => h q (by simp [hq])) (lay_length (h p (by simp)) hm _) (hb.lay (h p (by simp)) _)
theorem syncAll_ok {m : Nat} : (ps : List (Nat × List Nat)) → (img : List Nat) → (∀ p ∈ ps, Fits m p) → img.length = m → AllB img → (syncAll ps img).length = m ∧ AllB (syncAll ps img)
  | [], _, _, hm, hb => ⟨hm, hb⟩
  | p :: ps, img, h, hm, hb => syncAll_ok ps _ (fun q hq => h q (by simp [hq])) (lay_length (h p (by simp)) hm _) (hb.lay (h p (by simp)) _)

structure Loss.Ok (l : Loss) : Prop where
  keep : ∀ x ∈ l.keep, x < 18446744073709551616
  torn : -9223372036854775808 ≤ l.torn ∧ l.torn ≤ 9223372036854775807
  off : -9223372036854775808 ≤ l.off ∧ l.off ≤ 9223372036854775807

structure Dev.Ok (g : Dev) : Prop where
  size : ∃ n, 1 ≤ n ∧ n ≤ 8192 ∧ g.img.length = 512 * n
  bytes : AllB g.img
  pend : ∀ p ∈ g.pend, Fits g.img.length p
  left : g.left ≤ 9223372036854775807
  arm : g.left ≠ 0 → ∃ l, g.loss = some l
  loss : ∀ l, g.loss = some l → l.Ok

def Dev.n (g : Dev) : Nat := g.img.length / 512
def Dev.strike (g : Dev) : Dev := { g with calls := g.calls + 1, left := g.left - 1 }
def Dev.fall (g : Dev) (l : Loss) : Dev := { g with img := fallFrom l 0 g.pend g.img, pend := [], down := true, left := 0, loss := none }
def Dev.crashes (g : Dev) : Dev := match g.loss with | some l => g.fall l | none => g
def Dev.reach (g : Dev) (i : Int) : Nat := if g.down = true then 40 else if i < 0 ∨ (g.n : Int) ≤ i then 41 else 0
def Dev.push (g : Dev) (s : Nat) (b : List Nat) : Dev := { g with pend := g.pend ++ [(s, b)] }
def Dev.writeE (g : Dev) (i : Int) (m : Nat) : Nat := if g.reach i ≠ 0 then g.reach i else if m ≠ 512 then 42 else if g.left = 1 then 40 else 0
def Dev.write (g : Dev) (i : Int) (b : List Nat) : Dev := if g.reach i ≠ 0 ∨ b.length ≠ 512 then g else if g.left = 1 then ((g.push i.toNat b).strike).crashes else (g.push i.toNat b).strike
def Dev.syncE (g : Dev) : Nat := if g.down = true ∨ g.left = 1 then 40 else 0
def Dev.settle (g : Dev) : Dev := { g with img := syncAll g.pend g.img, pend := [] }
def Dev.sync (g : Dev) : Dev := if g.down = true then g else if g.left = 1 then g.strike.crashes else g.strike.settle
def Dev.armE (g : Dev) (step : Int) : Nat := if g.down = true then 40 else if step < 0 then 4 else 0
def Dev.arm (g : Dev) (step : Int) (l : Loss) : Dev := if g.down = true ∨ step < 0 then g else { g with left := step.toNat, loss := if 0 < step then some l else none }
def Dev.crashE (g : Dev) : Nat := if g.down = true then 40 else 0
def Dev.crash (g : Dev) (l : Loss) : Dev := if g.down = true then g else g.fall l
def Dev.up (g : Dev) : Dev := { g with down := false, left := 0, loss := none }
def Dev.content (g : Dev) (i : Nat) : List Nat := contentOf g.img i g.pend
def Dev.new (n : Nat) : Dev := ⟨List.replicate (512 * n) 0, [], 0, false, 0, none⟩
def Dev.load (l : List Nat) : Dev := ⟨l, [], 0, false, 0, none⟩

theorem Dev.Ok.fall {g : Dev} (h : g.Ok) (l : Loss) : (g.fall l).Ok := by
  obtain ⟨h1, h2⟩ := fallFrom_ok l g.pend 0 g.img h.pend rfl h.bytes
  obtain ⟨n, a, b, c⟩ := h.size
  exact ⟨⟨n, a, b, h1.trans c⟩, h2, nofun, Nat.zero_le _, fun q => (q rfl).elim, nofun⟩
theorem Dev.Ok.strike {g : Dev} (h : g.Ok) : g.strike.Ok := ⟨h.size, h.bytes, h.pend, by show g.left - 1 ≤ _; have := h.left; omega, fun q => h.arm (by intro r; apply q; show g.left - 1 = 0; omega), h.loss⟩
theorem Dev.Ok.crashes {g : Dev} (h : g.Ok) : g.crashes.Ok := by
  unfold Dev.crashes
  split
  · exact h.fall _
  · exact h
theorem Dev.Ok.settle {g : Dev} (h : g.Ok) : g.settle.Ok := by
  obtain ⟨h1, h2⟩ := syncAll_ok g.pend g.img h.pend rfl h.bytes
  obtain ⟨n, a, b, c⟩ := h.size
  exact ⟨⟨n, a, b, h1.trans c⟩, h2, nofun, h.left, h.arm, h.loss⟩
theorem Dev.Ok.push {g : Dev} (h : g.Ok) {s : Nat} {b : List Nat} (q : Fits g.img.length (s, b)) : (g.push s b).Ok := by
  refine ⟨h.size, h.bytes, fun p hp => ?_, h.left, h.arm, h.loss⟩
  rcases List.mem_append.1 hp with r | r
  · exact h.pend p r
  · simp at r; subst r; exact q
theorem Dev.Ok.up {g : Dev} (h : g.Ok) : g.up.Ok := ⟨h.size, h.bytes, h.pend, Nat.zero_le _, fun q => (q rfl).elim, nofun⟩
theorem Dev.Ok.arm' {g : Dev} (h : g.Ok) (step : Int) (l : Loss) (hl : l.Ok) (hs : step ≤ 9223372036854775807) : (g.arm step l).Ok := by
  unfold Dev.arm
  split
  · exact h
  · rename_i q
    refine ⟨h.size, h.bytes, h.pend, by show step.toNat ≤ _; omega, ?_, ?_⟩
    · intro r
      have : 0 < step := by have r : step.toNat ≠ 0 := r; omega
      exact ⟨l, by simp [this]⟩
    · intro m hm
      by_cases r : 0 < step
      · simp [r] at hm; subst hm; exact hl
      · simp [r] at hm
theorem Dev.reach_ok {g : Dev} {i : Int} (h : g.Ok) (q : g.reach i = 0) : g.down = false ∧ 0 ≤ i ∧ 512 * i.toNat + 512 ≤ g.img.length ∧ i < 8192 := by
  obtain ⟨n, a, b, c⟩ := h.size
  unfold Dev.reach Dev.n at q
  split at q
  · omega
  · rename_i r
    split at q
    · omega
    · refine ⟨by simpa using r, ?_, ?_, ?_⟩ <;> omega
theorem Dev.Ok.write {g : Dev} (h : g.Ok) (i : Int) (b : List Nat) (hb : AllB b) : (g.write i b).Ok := by
  unfold Dev.write
  split
  · exact h
  · rename_i q
    have q1 : g.reach i = 0 := by omega
    have q2 : b.length = 512 := by omega
    have k := h.push (s := i.toNat) (b := b) ⟨(Dev.reach_ok h q1).2.2.1, q2, hb⟩
    split
    · exact k.strike.crashes
    · exact k.strike
theorem Dev.Ok.sync {g : Dev} (h : g.Ok) : g.sync.Ok := by
  unfold Dev.sync
  split
  · exact h
  · split
    · exact h.strike.crashes
    · exact h.strike.settle
theorem Dev.Ok.crash {g : Dev} (h : g.Ok) (l : Loss) : (g.crash l).Ok := by
  unfold Dev.crash
  split
  · exact h
  · exact h.fall l
theorem Dev.Ok.new {n : Nat} (h1 : 1 ≤ n) (h2 : n ≤ 8192) : (Dev.new n).Ok := by
  refine ⟨⟨n, h1, h2, by simp [Dev.new]⟩, ?_, nofun, Nat.zero_le _, fun q => (q rfl).elim, nofun⟩
  intro x hx
  simp [Dev.new] at hx
  omega
theorem Dev.Ok.load {l : List Nat} (h : ∃ n, 1 ≤ n ∧ n ≤ 8192 ∧ l.length = 512 * n) (hb : AllB l) : (Dev.load l).Ok := ⟨h, hb, nofun, Nat.zero_le _, fun q => (q rfl).elim, nofun⟩
end Go.QK
