import Derived.Test.YtohkmigahbellaaAwake
import Derived.Deep.QuietTactic
import Derived.BigQuiet
namespace Go.Proofs.Ytohkmigahbellaa
open Go.RowKit Go.QK

/-- Two devices that know nothing of one another, made behind B. -/
structure Duo (B : Nat) (w0 w : World) (S : Nat → Prop) (d : Nat) (g : Dev) (T : Nat → Prop) (c : Nat) (k : Dev) : Prop where
  one : Live B w0 w S d g
  two : Live B w0 w T c k
  ap : ∀ b, S b → ¬ T b
section
variable {B : Nat} {w0 w w' : World} {S S' T T' : Nat → Prop} {d c : Nat} {g g' k k' : Dev}
theorem Duo.left (h : Duo B w0 w S d g T c k) (hd : PDev w' S' d g') (hs : Step w S w' S') : Duo B w0 w' S' d g' T c k := by
  have L := h.one.step hd hs
  refine ⟨L, ⟨h.two.dev.keep hs.1 h.ap, h.two.far, L.bel, h.two.le⟩, fun b hb ht => ?_⟩
  rcases hs.2 b hb with q | q
  · exact h.ap b q ht
  · have := h.two.dev.lt b ht; omega
theorem Duo.right (h : Duo B w0 w S d g T c k) (hd : PDev w' T' c k') (hs : Step w T w' T') : Duo B w0 w' S d g T' c k' := by
  have L := h.two.step hd hs
  refine ⟨⟨h.one.dev.keep hs.1 (fun b ht hb => h.ap b hb ht), h.one.far, L.bel, h.one.le⟩, L, fun b hb ht => ?_⟩
  rcases hs.2 b ht with q | q
  · exact h.ap b hb q
  · have := h.one.dev.lt b hb; omega
theorem Duo.below (h : Duo B w0 w S d g T c k) (hb : Below w.heap.size w w') : Duo B w0 w' S d g T c k := ⟨h.one.below hb, h.two.below hb, h.ap⟩
theorem Apart.both_left {x : Nat} {l : List Nat} (h : Apart w (fun b => S b ∨ T b) x l) (hs : Step w S w' S') : Apart w' (fun b => S' b ∨ T b) x l :=
  ⟨Seen.keep h.bytes hs.1 (fun ad had q => by cases had; exact h.out (.inl q)), fun q => q.elim (fun r => (hs.2 x r).elim (fun q => h.out (.inl q)) (fun q => by have := h.lt; omega)) (fun r => h.out (.inr r)), Nat.lt_of_lt_of_le h.lt hs.1.size⟩
theorem Apart.both_right {x : Nat} {l : List Nat} (h : Apart w (fun b => S b ∨ T b) x l) (hs : Step w T w' T') : Apart w' (fun b => S b ∨ T' b) x l :=
  ⟨Seen.keep h.bytes hs.1 (fun ad had q => by cases had; exact h.out (.inr q)), fun q => q.elim (fun r => h.out (.inl r)) (fun r => (hs.2 x r).elim (fun q => h.out (.inr q)) (fun q => by have := h.lt; omega)), Nat.lt_of_lt_of_le h.lt hs.1.size⟩
/-- A second device is made. -/
theorem Live.join (h : Live B w0 w S d g) (hd : PDev w' T c k) (hT : ∀ b, T b → w.heap.size ≤ b) (hb : Below w.heap.size w w') : Duo B w0 w' S d g T c k := by
  have hB := Nat.le_trans h.le h.bel.size
  refine ⟨h.below hb, ⟨hd, fun b q => Nat.le_trans hB (hT b q), bnext h.bel hb h.le, h.le⟩, fun b q r => ?_⟩
  have := h.dev.lt b q
  have := hT b r
  omega
end

/-- Writes that were handed in. -/
def PutsAt (w : World) (a : Option Addr) (ps : List (Int × Nat)) : Prop :=
  ∀ j (h : j < ps.length), ∃ b off, a = some ⟨b, off, none⟩ ∧ b < w.heap.size ∧ w.cell? ⟨b, off + j * 2, none⟩ = some (.int .i64 ps[j].1) ∧ w.cell? ⟨b, off + j * 2 + 1, none⟩ = some (.int .u8 (ps[j].2 : Int))
theorem PutsAt.below {w w' : World} {a : Option Addr} {ps : List (Int × Nat)} (h : PutsAt w a ps) (hb : Below w.heap.size w w') : PutsAt w' a ps := fun j hj => by
  obtain ⟨b, off, h1, h2, h3, h4⟩ := h j hj
  exact ⟨b, off, h1, Nat.lt_of_lt_of_le h2 hb.size, (hb.cell (p := ⟨b, off + j * 2, none⟩) h2).trans h3, (hb.cell (p := ⟨b, off + j * 2 + 1, none⟩) h2).trans h4⟩
theorem PutsAt.take {w : World} {a : Option Addr} {ps : List (Int × Nat)} (h : PutsAt w a ps) (n : Nat) : PutsAt w a (ps.take n) := fun j hj => by
  have hj' : j < ps.length := by simp at hj; omega
  obtain ⟨b, off, h1, h2, h3, h4⟩ := h j hj'
  exact ⟨b, off, h1, h2, by simpa using h3, by simpa using h4⟩

set_option maxRecDepth 100000 in
theorem cutPuts_any (a : Option Addr) (n c : Nat) (w : World) (hn : n ≤ c) (ha : a = none → c = 0) (hc : c ≤ maxLen) :
    Calls Try.prog 13 #[.slice a n c] w fun e w' => e = .returned (.slice a (min n 120) c) ∧ w' = w := by
  unfold maxLen at hc
  by_cases q : 120 < n
  · have e : min n 120 = 120 := by omega
    rw [e]
    have q1 : (120 : Int) < (n : Int) := by omega
    have q2 : (120 : Int) ≤ (c : Int) := by omega
    have q3 : 120 ≤ c := by omega
    cases a with
    | none => have := ha rfl; omega
    | some ad =>
      go_enter Try.func13, Try.ntmps13
      go_wp2_with fail
      go_ret
      exact ⟨rfl, rfl⟩
  · have e : min n 120 = n := by omega
    rw [e]
    have q1 : ¬ ((120 : Int) < (n : Int)) := by omega
    go_enter Try.func13, Try.ntmps13
    go_wp2_with fail
    go_ret
    exact ⟨rfl, rfl⟩

theorem below_drewN {B : Nat} {a w : World} (h : Below B a w) (n : Nat) : Below B a (w.drewN n) := ⟨h.os, h.tape, h.output, h.size, h.block⟩
/-- A list of pending writes that can be read. -/
def PSeen (w : World) (a : Option Addr) (ps : List PE) : Prop :=
  ∀ j (h : j < ps.length), (∃ b, a = some ⟨b, 0, none⟩ ∧ b < w.heap.size ∧ w.cell? ⟨b, j * 2, none⟩ = some (.int .i64 (ps[j].s : Int)) ∧ w.cell? ⟨b, j * 2 + 1, none⟩ = some ps[j].v) ∧ Bytes w (some ⟨ps[j].k, 0, none⟩) ps[j].b ∧ AllB ps[j].b
theorem PSeen.below {w w' : World} {a : Option Addr} {ps : List PE} (h : PSeen w a ps) (hb : Below w.heap.size w w') : PSeen w' a ps := fun j hj => by
  obtain ⟨⟨b, h1, h2, h3, h4⟩, h5, h6⟩ := h j hj
  exact ⟨⟨b, h1, Nat.lt_of_lt_of_le h2 hb.size, (hb.cell (p := ⟨b, j * 2, none⟩) h2).trans h3, (hb.cell (p := ⟨b, j * 2 + 1, none⟩) h2).trans h4⟩, Seen.below h5 hb, h6⟩
theorem PSeen.of {w : World} {B : Nat} {a : Option Addr} {n c : Nat} {ps : List PE} (h : PRow w B (.slice a n c) ps) (f : ∀ p ∈ ps, Bytes w (some ⟨p.k, 0, none⟩) p.b ∧ AllB p.b) : PSeen w a ps := fun j hj => ⟨h.form' j hj, f _ (List.getElem_mem hj)⟩

set_option maxHeartbeats 1000000 in
set_option maxRecDepth 100000 in
theorem cached_eq (a b : Option Addr) (ps qs : List PE) (c e : Nat) (w : World) (hp : PSeen w a ps) (hq : PSeen w b qs) (he : ps.map PE.out = qs.map PE.out) (hn : ps.length ≤ 1000000) :
    Calls Try.prog 21 #[.slice a ps.length c, .slice b qs.length e] w fun r w' => r = .returned (.bool true) ∧ Below w.heap.size w w' := by
  have hl : qs.length = ps.length := by have := congrArg List.length he; simpa using this.symm
  rw [hl]
  have HP := hide hp
  have HQ := hide hq
  have HE := hide he
  have HL := hide hl
  clear hp hq he hl
  go_enter Try.func21, Try.ntmps21
  go_wp2_with fail
  go_loopw [5] (fun i wr => ∃ j : Nat, j ≤ ps.length ∧ i = .int .i64 (j : Int) ∧ Below w.heap.size w wr) (fun i _ => ps.length - (intOf i).toNat)
  case atStart => exact ⟨0, Nat.zero_le _, rfl, Below.refl _ _⟩
  case round =>
    obtain ⟨j, hj, rfl, hbel⟩ := hrel
    by_cases hlt : j < ps.length
    · have hlt2 : j < qs.length := by rw [HL.out]; exact hlt
      obtain ⟨⟨b1, rfl, g1, p0, p1⟩, y1, z1⟩ := (HP.out.below hbel) j hlt
      obtain ⟨⟨b2, rfl, g2, q0, q1⟩, y2, z2⟩ := (HQ.out.below hbel) j hlt2
      have hout : ps[j].out = qs[j].out := by
        have := congrArg (fun l => l[j]?) HE.out
        simpa [hlt, hlt2] using this
      have hs : qs[j].s = ps[j].s := (congrArg Prod.fst hout).symm
      have hb : qs[j].b = ps[j].b := (congrArg Prod.snd hout).symm
      unfold PE.v at p1 q1
      rw [hs] at q0
      rw [hb] at q1 y2
      have SA := fun (n : Nat) => same_any (some ⟨ps[j].k, 0, none⟩) (some ⟨qs[j].k, 0, none⟩) ps[j].b ps[j].b ps[j].c qs[j].c (wr.drewN n) y1 y2 z1 z1
      rw [decide_eq_true rfl] at SA
      have hlk : (j : Int) < (ps.length : Int) := by omega
      clear hout hs hb y1 y2 z1 z2
      have HSA := hide SA
      clear SA
      go_upto_region 6 with fail
      go_quiet (first | (go_at_call 19; exact Calls.quiet_of_same (HSA.out _)))
      go_wp2_with fail
      go_roundw
      case rel => exact ⟨j + 1, by omega, by go_num, below_drewN hbel _⟩
      case measure => simp [intOf]; omega
    · obtain rfl : j = ps.length := by omega
      go_wp2_with fail
      go_ret
      exact ⟨rfl, hbel⟩
end Go.Proofs.Ytohkmigahbellaa
