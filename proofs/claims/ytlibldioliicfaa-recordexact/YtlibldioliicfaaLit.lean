import Derived.Test.YtlibldioliicfaaFixed
namespace Go.Proofs.Ytlibldioliicfaa
open Go.RowKit Go.QK

/-- A literal of bytes. -/
theorem lit_own (w : World) (l : List Nat) (hl : l.length ≤ 1000) : OwnB (w.alloc (.cells ((ints l).map (Value.int .u8)).toArray 5)) w.heap.size (.slice (some ⟨w.heap.size, 0, none⟩) l.length l.length) l := by
  have := World.ownsRow_lit (base := w.heap.size) (e := 5) (size := 1) w ((ints l).map (Value.int .u8)).toArray l.length (Nat.le_refl _) (by unfold maxLen; omega) (by simp)
  simpa [Owns] using this
theorem form300 : form 300 = [172, 2] := by rw [form_big (by decide), form_small (by decide)]
theorem form1 : form 1 = [1] := form_small (by decide)
theorem alloc_below (w : World) (o : Obj) : Below w.heap.size w (w.alloc o) := (Below.refl _ _).alloc (Nat.le_refl _) _
theorem bnext {B : Nat} {w w1 w2 : World} (h : Below B w w1) (k : Below w1.heap.size w1 w2) (hB : B ≤ w.heap.size) : Below B w w2 := h.trans (k.mono (Nat.le_trans hB h.size))
theorem bkeep {B : Nat} {S : Nat → Prop} {w w1 w2 : World} (h : Below B w w1) (k : Keep S w1 w2) (hB : B ≤ w.heap.size) (hS : ∀ j, S j → B ≤ j) : Below B w w2 :=
  h.trans (k.below (Nat.le_trans hB h.size) (fun j hj q => by have := hS j q; omega))
theorem Tab.under {B : Nat} {w w' : World} (h : Tab w) (k : Below B w w') (hB : 0 < B) : Tab w' :=
  ⟨Nat.lt_of_lt_of_le h.1 k.size, fun i hi => (k.cell (p := ⟨0, i, none⟩) hB).trans (h.2 i hi)⟩

/-- A reader's blocks lie apart from a writer's. -/
theorem Rd.aside {w w' : World} {B P p : Nat} {v : Value} {a : Option Addr} {c : Nat} {l : List Nat} {pos e : Nat} (h : Rd w p a c l pos e) (hk : Keep (wS P v) w w') (hp : B < p) (ha : ∀ ad, a = some ad → B < ad.block) (hB : P ≤ B)
    (hv : ∀ g, v.ownBlock = some g → g ≠ p ∧ ∀ ad, a = some ad → g ≠ ad.block) : Rd w' p a c l pos e := by
  refine h.keep hk ?_ ?_
  · rintro (q | q)
    · omega
    · exact (hv p q).1 rfl
  · intro ad had
    rintro (q | q)
    · have := ha ad had; omega
    · exact (hv _ q).2 ad had rfl
theorem Rd.lt {w : World} {p : Nat} {a : Option Addr} {c : Nat} {l : List Nat} {pos e : Nat} (h : Rd w p a c l pos e) : p < w.heap.size ∧ (0 < l.length → ∀ ad, a = some ad → ad.block < w.heap.size) := by
  refine ⟨h.1.1, fun hl ad had => ?_⟩
  rcases h.2.1 with q | ⟨b, off, q, hb, _⟩
  · have := congrArg List.length q
    simp at this
    subst this
    simp at hl
  · rw [had] at q
    cases q
    exact hb

/-- An element of a list of lists of bytes. -/
def Part (w : World) (p : Value × List Nat) : Prop := ∃ ai ci, p.1 = .slice ai p.2.length ci ∧ Bytes w ai p.2 ∧ AllB p.2 ∧ p.2.length ≤ maxLen
theorem Part.below {w w' : World} {p : Value × List Nat} (h : Part w p) (k : Below w.heap.size w w') : Part w' p := by
  obtain ⟨ai, ci, h1, h2, h3⟩ := h
  exact ⟨ai, ci, h1, Seen.below h2 k, h3⟩
theorem Parts.lit (w : World) (ps : List (Value × List Nat)) (h : ∀ p ∈ ps, Part w p) : Parts (w.alloc (.cells (ps.map (·.1)).toArray 22)) (some ⟨w.heap.size, 0, none⟩) ps := by
  refine .inr ⟨w.heap.size, 0, rfl, by simp, fun i hi => ⟨?_, ?_⟩⟩
  · rw [Nat.zero_add, World.cell?_alloc_new]
    simp [hi]
  · exact (h _ (List.getElem_mem hi)).below (alloc_below _ _)
/-! A literal of bytes by a conversion of a constant: a row of its own, with the conversion's mark behind it. -/
theorem cell?_freeze (w : World) (a b : Addr) (n : Nat) : (w.freeze a n).cell? b = w.cell? b := by
  unfold World.freeze
  split
  · rfl
  · unfold World.cell?
    simp only [Array.getElem?_modify]
    by_cases q : a.block = b.block
    · rw [if_pos q]
      cases hh : w.heap[b.block]? with
      | none => rfl
      | some o => cases o <;> rfl
    · rw [if_neg q]
theorem freeze_block (w : World) (a : Addr) (n k : Nat) (h : a.block ≠ k) : (w.freeze a n).heap[k]? = w.heap[k]? := by
  unfold World.freeze
  split
  · rfl
  · simp only [Array.getElem?_modify]
    rw [if_neg h]
theorem freeze_size (w : World) (a : Addr) (n : Nat) : (w.freeze a n).heap.size = w.heap.size := by
  unfold World.freeze
  split
  · rfl
  · simp
def marked (w : World) (cs : Array Value) : World := (w.alloc (.cells cs 5)).freeze ⟨w.heap.size, cs.size, none⟩ 1
theorem marked_size (w : World) (cs : Array Value) : (marked w cs).heap.size = w.heap.size + 1 := by
  unfold marked
  rw [freeze_size]
  simp
theorem marked_below (w : World) (cs : Array Value) : Below w.heap.size w (marked w cs) := by
  have h := alloc_below w (.cells cs 5)
  have e : ∀ a, ((w.alloc (.cells cs 5)).freeze a 1).os = w.os ∧ ((w.alloc (.cells cs 5)).freeze a 1).tape = w.tape ∧ ((w.alloc (.cells cs 5)).freeze a 1).output = w.output := fun a => ⟨h.os, h.tape, h.output⟩
  refine ⟨(e _).1, (e _).2.1, (e _).2.2, by rw [marked_size]; omega, fun k hk => ?_⟩
  unfold marked
  rw [freeze_block _ _ _ _ (by show w.heap.size ≠ k; omega)]
  exact h.block k hk
theorem marked_bytes (w : World) (l : List Nat) : Bytes (marked w ((ints l).map (Value.int .u8)).toArray) (some ⟨w.heap.size, 0, none⟩) l := by
  refine .inr ⟨w.heap.size, 0, rfl, by rw [marked_size]; omega, fun i hi => ?_⟩
  unfold marked
  rw [cell?_freeze, Nat.zero_add, World.cell?_alloc_new]
  simp at hi
  simp [hi]
theorem conv_lit (w : World) (cs : Array Value) (n : Nat) : (convert 22 22 (.slice (some ⟨w.heap.size, 0, none⟩) n n)).run Try.prog (w.alloc (.cells cs 5)) = .ok (.slice (some ⟨w.heap.size, 0, none⟩) n n) (marked w cs) := by
  have hsh : (w.alloc (.cells cs 5)).shape? w.heap.size = some (5, cs.size) := by
    simp [World.shape?, World.alloc, -World.alloc_eq]
  simp [convert, run_underlying Try.underlying22, run_underlying Try.underlying5, markStringish, hsh, marked, Result.andThen, -World.alloc_eq]
theorem allB_of {l : List Nat} (h : l.all (fun x => decide (x < 256)) = true) : AllB l := by
  intro x hx
  simpa using List.all_eq_true.1 h x hx
theorem le_maxLen {n : Nat} (h : n.ble 1000000 = true) : n ≤ maxLen := by
  have := Nat.le_of_ble_eq_true h
  unfold maxLen
  omega
end Go.Proofs.Ytlibldioliicfaa
