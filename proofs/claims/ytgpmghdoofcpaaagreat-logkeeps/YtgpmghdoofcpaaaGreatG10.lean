import Derived.Test.YtgpmghdoofcpaaaGreatG03
import Derived.Laws.CopyOwn
namespace Go.QK
open Go.RowKit

/-! The disk of chapter 3, in plain numbers. -/

structure Loss where
  keep : List Nat
  torn : Int
  off : Int

structure Dev where
  img : List Nat
  pend : List (Nat × List Nat)
  calls : Nat
  down : Bool
  left : Nat
  loss : Option Loss

def keptN (keep : List Nat) (k : Nat) : Bool := decide (k / 64 < keep.length) && decide (keep.getD (k / 64) 0 / 2 ^ (k % 64) % 2 = 1)
def leavesN (l : Loss) (k : Nat) : Nat := if keptN l.keep k = true then 512 else if (k : Int) = l.torn then (min (max l.off 0) 512).toNat else 0
def lay (img : List Nat) (s : Nat) (b : List Nat) (n : Nat) : List Nat := splice img (512 * s) (b.take n)
def fallFrom (l : Loss) : Nat → List (Nat × List Nat) → List Nat → List Nat
  | _, [], img => img
  | k, p :: ps, img => fallFrom l (k + 1) ps (lay img p.1 p.2 (leavesN l k))
def syncAll : List (Nat × List Nat) → List Nat → List Nat
  | [], img => img
  | p :: ps, img => syncAll ps (lay img p.1 p.2 512)
def sector (img : List Nat) (i : Nat) : List Nat := (img.drop (512 * i)).take 512
/-- What a sector holds: the last pending write of it, or the image's bytes. -/
def contentOf (img : List Nat) (i : Nat) (ps : List (Nat × List Nat)) : List Nat := ps.foldl (fun x p => if p.1 = i then p.2 else x) (sector img i)

theorem leavesN_le (l : Loss) (k : Nat) : leavesN l k ≤ 512 := by
  unfold leavesN
  split
  · omega
  · split <;> omega
theorem fallFrom_snoc (l : Loss) (p : Nat × List Nat) : (ps : List (Nat × List Nat)) → (k : Nat) → (img : List Nat) → fallFrom l k (ps ++ [p]) img = lay (fallFrom l k ps img) p.1 p.2 (leavesN l (k + ps.length))
  | [], k, img => rfl
  | q :: ps, k, img => by
    show fallFrom l (k + 1) (ps ++ [p]) _ = _
    rw [fallFrom_snoc l p ps (k + 1)]
    show lay (fallFrom l (k + 1) ps _) _ _ _ = lay (fallFrom l (k + 1) ps _) _ _ _
    congr 2
    simp; omega
theorem syncAll_snoc (p : Nat × List Nat) : (ps : List (Nat × List Nat)) → (img : List Nat) → syncAll (ps ++ [p]) img = lay (syncAll ps img) p.1 p.2 512
  | [], img => rfl
  | q :: ps, img => by
    show syncAll (ps ++ [p]) _ = _
    rw [syncAll_snoc p ps]
    rfl
theorem take_snoc {α : Type} (l : List α) (k : Nat) (h : k < l.length) : l.take (k + 1) = l.take k ++ [l[k]] := by
  rw [List.take_add_one]; simp [h]
theorem fallFrom_take (l : Loss) (ps : List (Nat × List Nat)) (img : List Nat) (k : Nat) (h : k < ps.length) : fallFrom l 0 (ps.take (k + 1)) img = lay (fallFrom l 0 (ps.take k) img) ps[k].1 ps[k].2 (leavesN l k) := by
  rw [take_snoc ps k h, fallFrom_snoc, List.length_take, Nat.min_eq_left (by omega), Nat.zero_add]
theorem syncAll_take (ps : List (Nat × List Nat)) (img : List Nat) (k : Nat) (h : k < ps.length) : syncAll (ps.take (k + 1)) img = lay (syncAll (ps.take k) img) ps[k].1 ps[k].2 512 := by
  rw [take_snoc ps k h, syncAll_snoc]
theorem contentOf_take (img : List Nat) (i : Nat) (ps : List (Nat × List Nat)) (k : Nat) (h : k < ps.length) : contentOf img i (ps.take (k + 1)) = if ps[k].1 = i then ps[k].2 else contentOf img i (ps.take k) := by
  rw [take_snoc ps k h]
  unfold contentOf
  rw [List.foldl_append]
  rfl

/-- A write that fits an image. -/
def Fits (m : Nat) (p : Nat × List Nat) : Prop := 512 * p.1 + 512 ≤ m ∧ p.2.length = 512 ∧ AllB p.2
theorem lay_length {img : List Nat} {p : Nat × List Nat} {m : Nat} (h : Fits m p) (hm : img.length = m) (n : Nat) : (lay img p.1 p.2 n).length = m := by
  obtain ⟨h1, h2, _⟩ := h
  unfold lay
  rw [length_splice _ _ _ (by simp; omega), hm]
theorem AllB.splice {l c : List Nat} (h : AllB l) (k : AllB c) (o : Nat) : AllB (splice l o c) := by
  unfold Go.splice
  exact (h.take _).append (k.append (h.drop _))
theorem AllB.lay {img : List Nat} {p : Nat × List Nat} {m : Nat} (hi : AllB img) (h : Fits m p) (n : Nat) : AllB (lay img p.1 p.2 n) := hi.splice (h.2.2.take n) _
theorem fallFrom_ok (l : Loss) {m : Nat} : (ps : List (Nat × List Nat)) → (k : Nat) → (img : List Nat) → (∀ p ∈ ps, Fits m p) → img.length = m → AllB img → (fallFrom l k ps img).length = m ∧ AllB (fallFrom l k ps img)
  | [], _, _, _, hm, hb => ⟨hm, hb⟩
  | p :: ps, k, img, h, hm, hb => fallFrom_ok l ps (k + 1) _ (fun q hq => h q (by simp [hq])) (lay_length (h p (by simp)) hm _) (hb.lay (h p (by simp)) _)
theorem syncAll_ok {m : Nat} : (ps : List (Nat × List Nat)) → (img : List Nat) → (∀ p ∈ ps, Fits m p) → img.length = m → AllB img → (syncAll ps img).length = m ∧ AllB (syncAll ps img)
  | [], _, _, hm, hb => ⟨hm, hb⟩
  | p :: ps, img, h, hm, hb => syncAll_ok ps _ (fun q hq => h q (by simp [hq])) (lay_length (h p (by simp)) hm _) (hb.lay (h p (by simp)) _)

structure Loss.Ok (l : Loss) : Prop where
  keep : ∀ x ∈ l.keep, x < 18446744073709551616
  torn : -9223372036854775808 ≤ l.torn ∧ l.torn ≤ 9223372036854775807
  off : -9223372036854775808 ≤ l.off ∧ l.off ≤ 9223372036854775807

structure Dev.Ok (g : Dev) : Prop where
  size : ∃ n, 1 ≤ n ∧ n ≤ 8192 ∧ g.img.length = 512 * n
  bytes : AllB g.img
  pend : ∀ p ∈ g.pend, Fits g.img.length p
  left : g.left ≤ 9223372036854775807
  arm : g.left ≠ 0 → ∃ l, g.loss = some l
  loss : ∀ l, g.loss = some l → l.Ok

def Dev.n (g : Dev) : Nat := g.img.length / 512
def Dev.strike (g : Dev) : Dev := { g with calls := g.calls + 1, left := g.left - 1 }
def Dev.fall (g : Dev) (l : Loss) : Dev := { g with img := fallFrom l 0 g.pend g.img, pend := [], down := true, left := 0, loss := none }
def Dev.crashes (g : Dev) : Dev := match g.loss with | some l => g.fall l | none => g
def Dev.reach (g : Dev) (i : Int) : Nat := if g.down = true then 40 else if i < 0 ∨ (g.n : Int) ≤ i then 41 else 0
def Dev.push (g : Dev) (s : Nat) (b : List Nat) : Dev := { g with pend := g.pend ++ [(s, b)] }
def Dev.writeE (g : Dev) (i : Int) (m : Nat) : Nat := if g.reach i ≠ 0 then g.reach i else if m ≠ 512 then 42 else if g.left = 1 then 40 else 0
def Dev.write (g : Dev) (i : Int) (b : List Nat) : Dev := if g.reach i ≠ 0 ∨ b.length ≠ 512 then g else if g.left = 1 then ((g.push i.toNat b).strike).crashes else (g.push i.toNat b).strike
def Dev.syncE (g : Dev) : Nat := if g.down = true ∨ g.left = 1 then 40 else 0
def Dev.settle (g : Dev) : Dev := { g with img := syncAll g.pend g.img, pend := [] }
def Dev.sync (g : Dev) : Dev := if g.down = true then g else if g.left = 1 then g.strike.crashes else g.strike.settle
def Dev.armE (g : Dev) (step : Int) : Nat := if g.down = true then 40 else if step < 0 then 4 else 0
def Dev.arm (g : Dev) (step : Int) (l : Loss) : Dev := if g.down = true ∨ step < 0 then g else { g with left := step.toNat, loss := if 0 < step then some l else none }
def Dev.crashE (g : Dev) : Nat := if g.down = true then 40 else 0
def Dev.crash (g : Dev) (l : Loss) : Dev := if g.down = true then g else g.fall l
def Dev.up (g : Dev) : Dev := { g with down := false, left := 0, loss := none }
def Dev.content (g : Dev) (i : Nat) : List Nat := contentOf g.img i g.pend
def Dev.new (n : Nat) : Dev := ⟨List.replicate (512 * n) 0, [], 0, false, 0, none⟩
def Dev.load (l : List Nat) : Dev := ⟨l, [], 0, false, 0, none⟩

theorem Dev.Ok.fall {g : Dev} (h : g.Ok) (l : Loss) : (g.fall l).Ok := by
  obtain ⟨h1, h2⟩ := fallFrom_ok l g.pend 0 g.img h.pend rfl h.bytes
  obtain ⟨n, a, b, c⟩ := h.size
  exact ⟨⟨n, a, b, h1.trans c⟩, h2, nofun, Nat.zero_le _, fun q => (q rfl).elim, nofun⟩
theorem Dev.Ok.strike {g : Dev} (h : g.Ok) : g.strike.Ok := ⟨h.size, h.bytes, h.pend, by show g.left - 1 ≤ _; have := h.left; omega, fun q => h.arm (by intro r; apply q; show g.left - 1 = 0; omega), h.loss⟩
theorem Dev.Ok.crashes {g : Dev} (h : g.Ok) : g.crashes.Ok := by
  unfold Dev.crashes
  split
  · exact h.fall _
  · exact h
theorem Dev.Ok.settle {g : Dev} (h : g.Ok) : g.settle.Ok := by
  obtain ⟨h1, h2⟩ := syncAll_ok g.pend g.img h.pend rfl h.bytes
  obtain ⟨n, a, b, c⟩ := h.size
  exact ⟨⟨n, a, b, h1.trans c⟩, h2, nofun, h.left, h.arm, h.loss⟩
theorem Dev.Ok.push {g : Dev} (h : g.Ok) {s : Nat} {b : List Nat} (q : Fits g.img.length (s, b)) : (g.push s b).Ok := by
  refine ⟨h.size, h.bytes, fun p hp => ?_, h.left, h.arm, h.loss⟩
  rcases List.mem_append.1 hp with r | r
  · exact h.pend p r
  · simp at r; subst r; exact q
theorem Dev.Ok.up {g : Dev} (h : g.Ok) : g.up.Ok := ⟨h.size, h.bytes, h.pend, Nat.zero_le _, fun q => (q rfl).elim, nofun⟩
theorem Dev.Ok.arm' {g : Dev} (h : g.Ok) (step : Int) (l : Loss) (hl : l.Ok) (hs : step ≤ 9223372036854775807) : (g.arm step l).Ok := by
  unfold Dev.arm
  split
  · exact h
  · rename_i q
    refine ⟨h.size, h.bytes, h.pend, by show step.toNat ≤ _; omega, ?_, ?_⟩
    · intro r
      have : 0 < step := by have r : step.toNat ≠ 0 := r; omega
      exact ⟨l, by simp [this]⟩
    · intro m hm
      by_cases r : 0 < step
      · simp [r] at hm; subst hm; exact hl
      · simp [r] at hm
theorem Dev.reach_ok {g : Dev} {i : Int} (h : g.Ok) (q : g.reach i = 0) : g.down = false ∧ 0 ≤ i ∧ 512 * i.toNat + 512 ≤ g.img.length ∧ i < 8192 := by
  obtain ⟨n, a, b, c⟩ := h.size
  unfold Dev.reach Dev.n at q
  split at q
  · omega
  · rename_i r
    split at q
    · omega
    · refine ⟨by simpa using r, ?_, ?_, ?_⟩ <;> omega
theorem Dev.Ok.write {g : Dev} (h : g.Ok) (i : Int) (b : List Nat) (hb : AllB b) : (g.write i b).Ok := by
  unfold Dev.write
  split
  · exact h
  · rename_i q
    have q1 : g.reach i = 0 := by omega
    have q2 : b.length = 512 := by omega
    have k := h.push (s := i.toNat) (b := b) ⟨(Dev.reach_ok h q1).2.2.1, q2, hb⟩
    split
    · exact k.strike.crashes
    · exact k.strike
theorem Dev.Ok.sync {g : Dev} (h : g.Ok) : g.sync.Ok := by
  unfold Dev.sync
  split
  · exact h
  · split
    · exact h.strike.crashes
    · exact h.strike.settle
theorem Dev.Ok.crash {g : Dev} (h : g.Ok) (l : Loss) : (g.crash l).Ok := by
  unfold Dev.crash
  split
  · exact h
  · exact h.fall l
theorem Dev.Ok.new {n : Nat} (h1 : 1 ≤ n) (h2 : n ≤ 8192) : (Dev.new n).Ok := by
  refine ⟨⟨n, h1, h2, by simp [Dev.new]⟩, ?_, nofun, Nat.zero_le _, fun q => (q rfl).elim, nofun⟩
  intro x hx
  simp [Dev.new] at hx
  omega
theorem Dev.Ok.load {l : List Nat} (h : ∃ n, 1 ≤ n ∧ n ≤ 8192 ∧ l.length = 512 * n) (hb : AllB l) : (Dev.load l).Ok := ⟨h, hb, nofun, Nat.zero_le _, fun q => (q rfl).elim, nofun⟩
end Go.QK

namespace Go.QK
open Go.RowKit

/-! A device in memory. -/

/-- A pending write in memory: its sector, the block of its bytes, their room, the bytes. -/
structure PE where
  s : Nat
  k : Nat
  c : Nat
  b : List Nat
def PE.out (p : PE) : Nat × List Nat := (p.s, p.b)
def PE.v (p : PE) : Value := .slice (some ⟨p.k, 0, none⟩) p.b.length p.c
def rowOf (ps : List PE) : List Value := ps.flatMap fun p => [.int .i64 (p.s : Int), p.v]
theorem rowOf_append (ps qs : List PE) : rowOf (ps ++ qs) = rowOf ps ++ rowOf qs := by simp [rowOf]
theorem rowOf_length (ps : List PE) : (rowOf ps).length = ps.length * 2 := by
  induction ps with
  | nil => rfl
  | cons p ps ih => simp only [rowOf, List.flatMap_cons, List.length_append] at *; simp [ih]; omega
theorem rowOf_get : (ps : List PE) → (k : Nat) → (h : k < ps.length) → (rowOf ps)[k * 2]? = some (.int .i64 (ps[k].s : Int)) ∧ (rowOf ps)[k * 2 + 1]? = some ps[k].v
  | [], k, h => by simp at h
  | p :: ps, 0, h => ⟨rfl, rfl⟩
  | p :: ps, k + 1, h => by
    have := rowOf_get ps k (by simpa using h)
    have e : rowOf (p :: ps) = .int .i64 (p.s : Int) :: p.v :: rowOf ps := rfl
    rw [e]
    refine ⟨?_, ?_⟩
    · rw [show (k + 1) * 2 = k * 2 + 1 + 1 by omega]
      simpa using this.1
    · rw [show (k + 1) * 2 + 1 = (k * 2 + 1) + 1 + 1 by omega]
      simpa using this.2

/-- A row of pending writes (pending writes are of type 65). -/
def PRow (w : World) (B : Nat) (v : Value) (ps : List PE) : Prop := w.ownsRow B 124 2 v ps.length (rowOf ps)

section
variable {w w' : World} {B : Nat} {v : Value} {ps : List PE} {S : Nat → Prop}
theorem PRow.nil (w : World) (B : Nat) : PRow w B (.slice none 0 0) [] := World.ownsRow_nil _ _ _ _
theorem PRow.lt (h : PRow w B v ps) : ∀ b, v.ownBlock = some b → B ≤ b ∧ b < w.heap.size := fun b hb => World.ownsRow.lt h b hb
theorem PRow.keep (h : PRow w B v ps) (hb : Keep S w w') (hn : ∀ g, v.ownBlock = some g → ¬ S g) : PRow w' B v ps := by
  refine ⟨h.1, ?_⟩
  rcases h.2 with q | ⟨g, cap, cur, q, hbg, hg, rest⟩
  · exact .inl q
  · have hlt := (World.ownsRow.lt h g (by rw [q]; rfl)).2
    exact .inr ⟨g, cap, cur, q, hbg, (hb.block g hlt (hn g (by rw [q]; rfl))).trans hg, rest⟩
theorem PRow.form (h : PRow w B v ps) : ∃ a c, v = .slice a ps.length c ∧ (a = none → c = 0) ∧ ps.length ≤ c ∧ c ≤ maxLen ∧ ∀ k (hk : k < ps.length), ∃ b, a = some ⟨b, 0, none⟩ ∧ b < w.heap.size ∧ w.cell? ⟨b, k * 2, none⟩ = some (.int .i64 (ps[k].s : Int)) ∧ w.cell? ⟨b, k * 2 + 1, none⟩ = some ps[k].v := by
  rcases h.2 with ⟨rfl, hn⟩ | ⟨g, cap, cur, rfl, hb, hg, hle, hm, hs, ht⟩
  · have : ps = [] := List.eq_nil_of_length_eq_zero hn
    subst this
    exact ⟨none, 0, rfl, fun _ => rfl, Nat.le_refl _, by unfold maxLen; omega, nofun⟩
  · refine ⟨_, cap, rfl, nofun, hle, hm, fun k hk => ⟨g, rfl, (World.ownsRow.lt h g rfl).2, ?_, ?_⟩⟩
    · have := World.ownsRow.cells h (g := g) rfl (k * 2) _ (rowOf_get ps k hk).1
      rw [addr_add, Nat.zero_add] at this
      exact this
    · have := World.ownsRow.cells h (g := g) rfl (k * 2 + 1) _ (rowOf_get ps k hk).2
      rw [addr_add, Nat.zero_add] at this
      exact this
end

/-- All of a device but its own block. -/
structure Body (w : World) (S : Nat → Prop) (d : Nat) (img : List Nat) (loss : Option Loss) (ib ic : Nat) (pv : Value) (ps : List PE) (kv : Value) (to off : Int) : Prop where
  dS : S d
  img : OwnB w 0 (.slice (some ⟨ib, 0, none⟩) img.length ic) img
  iS : S ib ∧ ib ≠ d
  row : PRow w 0 pv ps
  rS : ∀ b, pv.ownBlock = some b → S b ∧ b ≠ d ∧ b ≠ ib
  en : ∀ p ∈ ps, Bytes w (some ⟨p.k, 0, none⟩) p.b ∧ p.b.length ≤ p.c ∧ p.c ≤ maxLen ∧ S p.k ∧ p.k ≠ d ∧ p.k ≠ ib ∧ pv.ownBlock ≠ some p.k
  loss : ∀ l, loss = some l → to = l.torn ∧ off = l.off ∧ ∃ a c, kv = .slice a l.keep.length c ∧ Seen .u64 w a (ints l.keep) ∧ (a = none → c = 0) ∧ ∀ ad, a = some ad → S ad.block ∧ ad.block ≠ d ∧ ad.block ≠ ib ∧ pv.ownBlock ≠ some ad.block
  lt : ∀ b, S b → b < w.heap.size

section
variable {w w' : World} {S T S' : Nat → Prop} {d : Nat} {img : List Nat} {loss : Option Loss} {ib ic : Nat} {pv : Value} {ps : List PE} {kv : Value} {to off : Int}
theorem Body.keep (h : Body w S d img loss ib ic pv ps kv to off) (hk : Keep T w w') (hT : ∀ b, T b → S b → b = d) : Body w' S d img loss ib ic pv ps kv to off := by
  have nd : ∀ {b}, S b → b ≠ d → ¬ T b := fun hs hn ht => hn (hT _ ht hs)
  refine ⟨h.dS, Owns.keep h.img hk (fun g hg => ?_), h.iS, h.row.keep hk (fun g hg => nd (h.rS g hg).1 (h.rS g hg).2.1), h.rS, fun p hp => ?_, fun l hl => ?_, fun b hb => Nat.lt_of_lt_of_le (h.lt b hb) hk.size⟩
  · have e : ib = g := Option.some.inj hg
    subst e
    exact nd h.iS.1 h.iS.2
  · obtain ⟨h1, h2, h2', h3, h4, h5, h6⟩ := h.en p hp
    exact ⟨Seen.keep h1 hk (fun ad had => by cases had; exact nd h3 h4), h2, h2', h3, h4, h5, h6⟩
  · obtain ⟨h1, h2, a, c, h3, h4, h5, h6⟩ := h.loss l hl
    exact ⟨h1, h2, a, c, h3, Seen.keep h4 hk (fun ad had => nd (h6 ad had).1 (h6 ad had).2.1), h5, h6⟩
theorem Body.set (h : Body w S d img loss ib ic pv ps kv to off) (j : Nat) (y : Value) : Body (w.setCell ⟨d, j, none⟩ y) S d img loss ib ic pv ps kv to off :=
  h.keep (T := fun b => b = d) ((Keep.refl (fun b => b = d) w).setCell (fun _ => rfl) _) (fun _ q _ => q)
theorem Body.below (h : Body w S d img loss ib ic pv ps kv to off) (hk : Below w.heap.size w w') : Body w' S d img loss ib ic pv ps kv to off := h.keep (Keep.of_below (S := fun _ => False) hk) (fun _ q => q.elim)
/-- The image's block was written over. -/
theorem Body.image {img' : List Nat} (h : Body w S d img loss ib ic pv ps kv to off) (hk : Keep (fun b => b = ib) w w') (hi : OwnB w' 0 (.slice (some ⟨ib, 0, none⟩) img'.length ic) img') : Body w' S d img' loss ib ic pv ps kv to off := by
  refine ⟨h.dS, hi, h.iS, h.row.keep hk (fun g hg => (h.rS g hg).2.2), h.rS, fun p hp => ?_, fun l hl => ?_, fun b hb => Nat.lt_of_lt_of_le (h.lt b hb) hk.size⟩
  · obtain ⟨h1, h2, h2', h3, h4, h5, h6⟩ := h.en p hp
    exact ⟨Seen.keep h1 hk (fun ad had => by cases had; exact h5), h2, h2', h3, h4, h5, h6⟩
  · obtain ⟨h1, h2, a, c, h3, h4, h5, h6⟩ := h.loss l hl
    exact ⟨h1, h2, a, c, h3, Seen.keep h4 hk (fun ad had => (h6 ad had).2.2.1), h5, h6⟩
/-- No pending writes any more. -/
theorem Body.drop (h : Body w S d img loss ib ic pv ps kv to off) : Body w S d img loss ib ic (.slice none 0 0) [] kv to off :=
  ⟨h.dS, h.img, h.iS, PRow.nil _ _, nofun, nofun, fun l hl => (by
    obtain ⟨h1, h2, a, c, h3, h4, h5, h6⟩ := h.loss l hl
    exact ⟨h1, h2, a, c, h3, h4, h5, fun ad had => ⟨(h6 ad had).1, (h6 ad had).2.1, (h6 ad had).2.2.1, nofun⟩⟩), h.lt⟩
/-- Whatever the loss was. -/
theorem Body.forget (h : Body w S d img loss ib ic pv ps kv to off) (kv' : Value) (to' off' : Int) : Body w S d img none ib ic pv ps kv' to' off' := ⟨h.dS, h.img, h.iS, h.row, h.rS, h.en, nofun, h.lt⟩
end

def pcs (iv pv : Value) (g : Dev) (kv : Value) (to off : Int) : List Value := [iv, pv, .int .i64 (g.calls : Int), .bool g.down, .int .i64 (g.left : Int), kv, .int .i64 to, .int .i64 off]
def rcs (iv pv : Value) (g : Dev) (kv : Value) (to off : Int) : List Value := [iv, pv, .bool g.down, .int .i64 (g.calls : Int), .int .i64 (g.left : Int), kv, .int .i64 to, .int .i64 off]

/-- The device g lies at block d, in the blocks of S. -/
def DevAt (cs : Value → Value → Dev → Value → Int → Int → List Value) (w : World) (S : Nat → Prop) (d : Nat) (g : Dev) : Prop :=
  ∃ ib ic pv ps kv to off, Cells w d (cs (.slice (some ⟨ib, 0, none⟩) g.img.length ic) pv g kv to off) ∧ Body w S d g.img g.loss ib ic pv ps kv to off ∧ g.pend = ps.map PE.out ∧ g.Ok
abbrev PDev := DevAt pcs
abbrev RDev := DevAt rcs

theorem DevAt.keep {cs : Value → Value → Dev → Value → Int → Int → List Value} {w w' : World} {S T : Nat → Prop} {d : Nat} {g : Dev} (h : DevAt cs w S d g) (hk : Keep T w w') (hT : ∀ b, T b → ¬ S b) : DevAt cs w' S d g := by
  obtain ⟨ib, ic, pv, ps, kv, to, off, h1, h2, h3, h4⟩ := h
  exact ⟨ib, ic, pv, ps, kv, to, off, h1.keep hk (fun q => hT d q h2.dS), h2.keep hk (fun b q r => (hT b q r).elim), h3, h4⟩
theorem DevAt.below {cs : Value → Value → Dev → Value → Int → Int → List Value} {w w' : World} {S : Nat → Prop} {d : Nat} {g : Dev} (h : DevAt cs w S d g) (hk : Below w.heap.size w w') : DevAt cs w' S d g := h.keep (Keep.of_below (S := fun _ => False) hk) (fun _ q => q.elim)
theorem DevAt.lt {cs : Value → Value → Dev → Value → Int → Int → List Value} {w : World} {S : Nat → Prop} {d : Nat} {g : Dev} (h : DevAt cs w S d g) : ∀ b, S b → b < w.heap.size := by
  obtain ⟨ib, ic, pv, ps, kv, to, off, h1, h2, h3, h4⟩ := h
  exact h2.lt
theorem DevAt.ok {cs : Value → Value → Dev → Value → Int → Int → List Value} {w : World} {S : Nat → Prop} {d : Nat} {g : Dev} (h : DevAt cs w S d g) : g.Ok := by
  obtain ⟨ib, ic, pv, ps, kv, to, off, h1, h2, h3, h4⟩ := h
  exact h4

/-- From the world w with the blocks S to w' with S': only blocks of S, and new ones. -/
def Step (w : World) (S : Nat → Prop) (w' : World) (S' : Nat → Prop) : Prop := Keep S w w' ∧ ∀ k, S' k → S k ∨ w.heap.size ≤ k
theorem Step.refl (w : World) (S : Nat → Prop) : Step w S w S := ⟨Keep.refl _ _, fun _ h => .inl h⟩
theorem Step.of_keep {w w' : World} {S : Nat → Prop} (h : Keep S w w') : Step w S w' S := ⟨h, fun _ h => .inl h⟩
theorem Step.of_below {w w' : World} {S : Nat → Prop} (h : Below w.heap.size w w') : Step w S w' S := ⟨Keep.of_below h, fun _ h => .inl h⟩
theorem Step.trans {w w1 w2 : World} {S S1 S2 : Nat → Prop} (h : Step w S w1 S1) (k : Step w1 S1 w2 S2) : Step w S w2 S2 := by
  refine ⟨h.1.trans k.1 (fun j hj hs => ?_), fun b hb => ?_⟩
  · rcases h.2 j hs with q | q
    · exact q
    · omega
  · rcases k.2 b hb with q | q
    · exact h.2 b q
    · exact .inr (Nat.le_trans h.1.size q)
/-- What lies apart from a device stays apart. -/
theorem Step.apart {w w' : World} {S S' T : Nat → Prop} (h : Step w S w' S') (hT : ∀ b, T b → b < w.heap.size) (ha : ∀ b, T b → ¬ S b) : ∀ b, T b → ¬ S' b := by
  intro b hb hs
  rcases h.2 b hs with q | q
  · exact ha b hb q
  · have := hT b hb; omega
end Go.QK
