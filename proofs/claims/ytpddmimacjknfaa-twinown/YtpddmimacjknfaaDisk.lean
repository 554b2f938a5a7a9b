import Derived.Test.YtpddmimacjknfaaMem
import Derived.Laws.CopyOwn
namespace Go.QK
open Go.RowKit

/-! The disk of chapter 3, in plain numbers. -/

structure Loss where
  keep : List Nat
  torn : Int
  off : Int

structure Dev where
  img : List Nat
  pend : List (Nat × List Nat)
  calls : Nat
  down : Bool
  left : Nat
  loss : Option Loss

def keptN (keep : List Nat) (k : Nat) : Bool := decide (k / 64 < keep.length) && decide (keep.getD (k / 64) 0 / 2 ^ (k % 64) % 2 = 1)
def leavesN (l : Loss) (k : Nat) : Nat := if keptN l.keep k = true then 512 else if (k : Int) = l.torn then (min (max l.off 0) 512).toNat else 0
def lay (img : List Nat) (s : Nat) (b : List Nat) (n : Nat) : List Nat := splice img (512 * s) (b.take n)
def fallFrom (l : Loss) : Nat → List (Nat × List Nat) → List Nat → List Nat
  | _, [], img => img
  | k, p :: ps, img => fallFrom l (k + 1) ps (lay img p.1 p.2 (leavesN l k))
def syncAll : List (Nat × List Nat) → List Nat → List Nat
  | [], img => img
  | p :: ps, img => syncAll ps (lay img p.1 p.2 512)
def sector (img : List Nat) (i : Nat) : List Nat := (img.drop (512 * i)).take 512
/-- What a sector holds: the last pending write of it, or the image's bytes. -/
def contentOf (img : List Nat) (i : Nat) (ps : List (Nat × List Nat)) : List Nat := ps.foldl (fun x p => if p.1 = i then p.2 else x) (sector img i)

theorem leavesN_le (l : Loss) (k : Nat) : leavesN l k ≤ 512 := by
  unfold leavesN
  split
  · omega
  · split <;> omega
theorem fallFrom_snoc (l : Loss) (p : Nat × List Nat) : (ps : List (Nat × List Nat)) → (k : Nat) → (img : List Nat) → fallFrom l k (ps ++ [p]) img = lay (fallFrom l k ps img) p.1 p.2 (leavesN l (k + ps.length))
  | [], k, img => rfl
  | q :: ps, k, img => by
    show fallFrom l (k + 1) (ps ++ [p]) _ = _
    rw [fallFrom_snoc l p ps (k + 1)]
    show lay (fallFrom l (k + 1) ps _) _ _ _ = lay (fallFrom l (k + 1) ps _) _ _ _
    congr 2
    simp; omega
theorem syncAll_snoc (p : Nat × List Nat) : (ps : List (Nat × List Nat)) → (img : List Nat) → syncAll (ps ++ [p]) img = lay (syncAll ps img) p.1 p.2 512
  | [], img => rfl
  | q :: ps, img => by
    show syncAll (ps ++ [p]) _ = _
    rw [syncAll_snoc p ps]
    rfl
theorem take_snoc {α : Type} (l : List α) (k : Nat) (h : k < l.length) : l.take (k + 1) = l.take k ++ [l[k]] := by
  rw [List.take_add_one]; simp [h]
theorem fallFrom_take (l : Loss) (ps : List (Nat × List Nat)) (img : List Nat) (k : Nat) (h : k < ps.length) : fallFrom l 0 (ps.take (k + 1)) img = lay (fallFrom l 0 (ps.take k) img) ps[k].1 ps[k].2 (leavesN l k) := by
  rw [take_snoc ps k h, fallFrom_snoc, List.length_take, Nat.min_eq_left (by omega), Nat.zero_add]
theorem syncAll_take (ps : List (Nat × List Nat)) (img : List Nat) (k : Nat) (h : k < ps.length) : syncAll (ps.take (k + 1)) img = lay (syncAll (ps.take k) img) ps[k].1 ps[k].2 512 := by
  rw [take_snoc ps k h, syncAll_snoc]
theorem contentOf_take (img : List Nat) (i : Nat) (ps : List (Nat × List Nat)) (k : Nat) (h : k < ps.length) : contentOf img i (ps.take (k + 1)) = if ps[k].1 = i then ps[k].2 else contentOf img i (ps.take k) := by
  rw [take_snoc ps k h]
  unfold contentOf
  rw [List.foldl_append]
  rfl

/-- A write that fits an image. -/
def Fits (m : Nat) (p : Nat × List Nat) : Prop := 512 * p.1 + 512 ≤ m ∧ p.2.length = 512 ∧ AllB p.2
theorem lay_length {img : List Nat} {p : Nat × List Nat} {m : Nat} (h : Fits m p) (hm : img.length = m) (n : Nat) : (lay img p.1 p.2 n).length = m := by
  obtain ⟨h1, h2, _⟩ := h
  unfold lay
  rw [length_splice _ _ _ (by simp; omega), hm]
theorem AllB.splice {l c : List Nat} (h : AllB l) (k : AllB c) (o : Nat) : AllB (splice l o c) := by
  unfold Go.splice
  exact (h.take _).append (k.append (h.drop _))
theorem AllB.lay {img : List Nat} {p : Nat × List Nat} {m : Nat} (hi : AllB img) (h : Fits m p) (n : Nat) : AllB (lay img p.1 p.2 n) := hi.splice (h.2.2.take n) _
theorem fallFrom_ok (l : Loss) {m : Nat} : (ps : List (Nat × List Nat)) → (k : Nat) → (img : List Nat) → (∀ p ∈ ps, Fits m p) → img.length = m → AllB img → (fallFrom l k ps img).length = m ∧ AllB (fallFrom l k ps img)
  | [], _, _, _, hm, hb => ⟨hm, hb⟩
  | p :: ps, k, img, h, hm, hb => fallFrom_ok l ps (k + 1) _ (fun q hq => h q (by simp [hq])) (lay_length (h p (by simp)) hm _) (hb.lay (h p (by simp)) _)
theorem syncAll_ok {m : Nat} : (ps : List (Nat × List Nat)) → (img : List Nat) → (∀ p ∈ ps, Fits m p) → img.length = m → AllB img → (syncAll ps img).length = m ∧ AllB (syncAll ps img)
  | [], _, _, hm, hb => ⟨hm, hb⟩
  | p :: ps, img, h, hm, hb => syncAll_ok ps _ (fun q hq => h q (by simp [hq])) (lay_length (h p (by simp)) hm _) (hb.lay (h p (by simp)) _)

structure Loss.Ok (l : Loss) : Prop where
  keep : ∀ x ∈ l.keep, x < 18446744073709551616
  torn : -9223372036854775808 ≤ l.torn ∧ l.torn ≤ 9223372036854775807
  off : -9223372036854775808 ≤ l.off ∧ l.off ≤ 9223372036854775807

structure Dev.Ok (g : Dev) : Prop where
  size : ∃ n, 1 ≤ n ∧ n ≤ 8192 ∧ g.img.length = 512 * n
  bytes : AllB g.img
  pend : ∀ p ∈ g.pend, Fits g.img.length p
  left : g.left ≤ 9223372036854775807
  arm : g.left ≠ 0 → ∃ l, g.loss = some l
  loss : ∀ l, g.loss = some l → l.Ok

def Dev.n (g : Dev) : Nat := g.img.length / 512
def Dev.strike (g : Dev) : Dev := { g with calls := g.calls + 1, left := g.left - 1 }
def Dev.fall (g : Dev) (l : Loss) : Dev := { g with img := fallFrom l 0 g.pend g.img, pend := [], down := true, left := 0, loss := none }
def Dev.crashes (g : Dev) : Dev := match g.loss with | some l => g.fall l | none => g
def Dev.reach (g : Dev) (i : Int) : Nat := if g.down = true then 40 else if i < 0 ∨ (g.n : Int) ≤ i then 41 else 0
def Dev.push (g : Dev) (s : Nat) (b : List Nat) : Dev := { g with pend := g.pend ++ [(s, b)] }
def Dev.writeE (g : Dev) (i : Int) (m : Nat) : Nat := if g.reach i ≠ 0 then g.reach i else if m ≠ 512 then 42 else if g.left = 1 then 40 else 0
def Dev.write (g : Dev) (i : Int) (b : List Nat) : Dev := if g.reach i ≠ 0 ∨ b.length ≠ 512 then g else if g.left = 1 then ((g.push i.toNat b).strike).crashes else (g.push i.toNat b).strike
def Dev.syncE (g : Dev) : Nat := if g.down = true ∨ g.left = 1 then 40 else 0
def Dev.settle (g : Dev) : Dev := { g with img := syncAll g.pend g.img, pend := [] }
def Dev.sync (g : Dev) : Dev := if g.down = true then g else if g.left = 1 then g.strike.crashes else g.strike.settle
def Dev.armE (g : Dev) (step : Int) : Nat := if g.down = true then 40 else if step < 0 then 4 else 0
def Dev.arm (g : Dev) (step : Int) (l : Loss) : Dev := if g.down = true ∨ step < 0 then g else { g with left := step.toNat, loss := if 0 < step then some l else none }
def Dev.crashE (g : Dev) : Nat := if g.down = true then 40 else 0
def Dev.crash (g : Dev) (l : Loss) : Dev := if g.down = true then g else g.fall l
def Dev.up (g : Dev) : Dev := { g with down := false, left := 0, loss := none }
def Dev.content (g : Dev) (i : Nat) : List Nat := contentOf g.img i g.pend
def Dev.new (n : Nat) : Dev := ⟨List.replicate (512 * n) 0, [], 0, false, 0, none⟩
def Dev.load (l : List Nat) : Dev := ⟨l, [], 0, false, 0, none⟩

theorem Dev.Ok.fall {g : Dev} (h : g.Ok) (l : Loss) : (g.fall l).Ok := by
  obtain ⟨h1, h2⟩ := fallFrom_ok l g.pend 0 g.img h.pend rfl h.bytes
  obtain ⟨n, a, b, c⟩ := h.size
  exact ⟨⟨n, a, b, h1.trans c⟩, h2, nofun, Nat.zero_le _, fun q => (q rfl).elim, nofun⟩
theorem Dev.Ok.strike {g : Dev} (h : g.Ok) : g.strike.Ok := ⟨h.size, h.bytes, h.pend, by show g.left - 1 ≤ _; have := h.left; omega, fun q => h.arm (by intro r; apply q; show g.left - 1 = 0; omega), h.loss⟩
theorem Dev.Ok.crashes {g : Dev} (h : g.Ok) : g.crashes.Ok := by
  unfold Dev.crashes
  split
  · exact h.fall _
  · exact h
theorem Dev.Ok.settle {g : Dev} (h : g.Ok) : g.settle.Ok := by
  obtain ⟨h1, h2⟩ := syncAll_ok g.pend g.img h.pend rfl h.bytes
  obtain ⟨n, a, b, c⟩ := h.size
  exact ⟨⟨n, a, b, h1.trans c⟩, h2, nofun, h.left, h.arm, h.loss⟩
theorem Dev.Ok.push {g : Dev} (h : g.Ok) {s : Nat} {b : List Nat} (q : Fits g.img.length (s, b)) : (g.push s b).Ok := by
  refine ⟨h.size, h.bytes, fun p hp => ?_, h.left, h.arm, h.loss⟩
  rcases List.mem_append.1 hp with r | r
  · exact h.pend p r
  · simp at r; subst r; exact q
theorem Dev.Ok.up {g : Dev} (h : g.Ok) : g.up.Ok := ⟨h.size, h.bytes, h.pend, Nat.zero_le _, fun q => (q rfl).elim, nofun⟩
theorem Dev.Ok.arm' {g : Dev} (h : g.Ok) (step : Int) (l : Loss) (hl : l.Ok) (hs : step ≤ 9223372036854775807) : (g.arm step l).Ok := by
  unfold Dev.arm
  split
  · exact h
  · rename_i q
    refine ⟨h.size, h.bytes, h.pend, by show step.toNat ≤ _; omega, ?_, ?_⟩
    · intro r
      have : 0 < step := by have r : step.toNat ≠ 0 := r; omega
      exact ⟨l, by simp [this]⟩
    · intro m hm
      by_cases r : 0 < step
      · simp [r] at hm; subst hm; exact hl
      · simp [r] at hm
theorem Dev.reach_ok {g : Dev} {i : Int} (h : g.Ok) (q : g.reach i = 0) : g.down = false ∧ 0 ≤ i ∧ 512 * i.toNat + 512 ≤ g.img.length ∧ i < 8192 := by
  obtain ⟨n, a, b, c⟩ := h.size
  unfold Dev.reach Dev.n at q
  split at q
  · omega
  · rename_i r
    split at q
    · omega
    · refine ⟨by simpa using r, ?_, ?_, ?_⟩ <;> omega
theorem Dev.Ok.write {g : Dev} (h : g.Ok) (i : Int) (b : List Nat) (hb : AllB b) : (g.write i b).Ok := by
  unfold Dev.write
  split
  · exact h
  · rename_i q
    have q1 : g.reach i = 0 := by omega
    have q2 : b.length = 512 := by omega
    have k := h.push (s := i.toNat) (b := b) ⟨(Dev.reach_ok h q1).2.2.1, q2, hb⟩
    split
    · exact k.strike.crashes
    · exact k.strike
theorem Dev.Ok.sync {g : Dev} (h : g.Ok) : g.sync.Ok := by
  unfold Dev.sync
  split
  · exact h
  · split
    · exact h.strike.crashes
    · exact h.strike.settle
theorem Dev.Ok.crash {g : Dev} (h : g.Ok) (l : Loss) : (g.crash l).Ok := by
  unfold Dev.crash
  split
  · exact h
  · exact h.fall l
theorem Dev.Ok.new {n : Nat} (h1 : 1 ≤ n) (h2 : n ≤ 8192) : (Dev.new n).Ok := by
  refine ⟨⟨n, h1, h2, by simp [Dev.new]⟩, ?_, nofun, Nat.zero_le _, fun q => (q rfl).elim, nofun⟩
  intro x hx
  simp [Dev.new] at hx
  omega
theorem Dev.Ok.load {l : List Nat} (h : ∃ n, 1 ≤ n ∧ n ≤ 8192 ∧ l.length = 512 * n) (hb : AllB l) : (Dev.load l).Ok := ⟨h, hb, nofun, Nat.zero_le _, fun q => (q rfl).elim, nofun⟩
end Go.QK
