import Derived.Test.YtaohdmaenplbpaaGreatLdAD
set_option linter.all false
namespace Go.Proofs.YtaohdmaenplbpaaGreat
open Go.RowKit Go.QK Quota Go.Maps Go.QM
set_option maxRecDepth 100000
/-! The store of the laws: a ledger, and beside it an escrow for each counter. -/
structure SE where
  id : Int
  grp : Int
  v0 : Int
  eb : Nat
  mb : Nat
  e : Esc
def SE.ctr (x : SE) : Int × Ctr := (x.id, ⟨x.grp, x.e⟩)
abbrev ctrsOf (es : List SE) : Ctrs := es.map SE.ctr
def seC (x : SE) : List Value := [.int .i64 x.id, .int .i64 x.grp, .int .i64 x.e.lo, .int .i64 x.e.hi, .int .i64 x.v0]
theorem seC_len (x : SE) : (seC x).length = 5 := rfl
def SE.turn (x : SE) (e' : Esc) : SE := { x with e := e' }
structure SOk (es : List SE) (H : Helds) : Prop where
  few : es.length ≤ 8
  ids : ∀ x ∈ es, (1 ≤ x.id ∧ x.id ≤ 8) ∧ 1 ≤ x.grp ∧ x.grp ≤ 3
  nets : ∀ x ∈ es, ∀ p ∈ x.e.nets, 1 ≤ p.1 ∧ p.1 ≤ 6
  held : ∀ p ∈ H, 1 ≤ p.1 ∧ p.1 ≤ 6
structure St (lab : Nat → Nat) (T : Nat → Prop) (w : World) (sb lb : Nat) (vc ve : Value) (es : List SE) (C : Ctrs) (H : Helds) : Prop where
  lt : ∀ z, T z → z < w.heap.size
  box : Cells w sb [ptr lb, vc, ve]
  led : ∃ S, LG S w lb C H ∧ ∀ z, S z → T z ∧ lab z = 2
  rc : GRow w 0 43 5 vc es.length (rowsC seC es)
  re : GRow w 0 44 1 ve es.length (es.map fun x => ptr x.eb)
  esc : ∀ i (h : i < es.length), PE w es[i].eb es[i].mb es[i].e
  le : ∀ i (h : i < es.length), T es[i].eb ∧ T es[i].mb ∧ lab es[i].eb = 10 + i ∧ lab es[i].mb = 10 + i
  l1 : T sb ∧ lab sb = 1
  l3 : ∀ g, vc.ownBlock = some g → T g ∧ lab g = 3
  l4 : ∀ g, ve.ownBlock = some g → T g ∧ lab g = 4
/-- What a call leaves of those that lie beside. -/
structure Gone (T : Nat → Prop) (w : World) (T' : Nat → Prop) (w' : World) : Prop where
  k : Keep T w w'
  n : ∀ z, T' z → T z ∨ w.heap.size ≤ z
theorem Gone.refl (T : Nat → Prop) (w : World) : Gone T w T w := ⟨Keep.refl _ _, fun _ => .inl⟩
theorem Gone.of_below {T : Nat → Prop} {w w' : World} (h : Below w.heap.size w w') : Gone T w T w' := ⟨Keep.of_below h, fun _ => .inl⟩
theorem Gone.trans {T T' T'' : Nat → Prop} {w w' w'' : World} (h : Gone T w T' w') (g : Gone T' w' T'' w'') : Gone T w T'' w'' := by
  refine ⟨h.k.trans g.k (fun j hj q => ?_), fun z hz => ?_⟩
  · rcases h.n j q with q | q
    · exact q
    · omega
  · rcases g.n z hz with q | q
    · exact h.n z q
    · exact .inr (Nat.le_trans h.k.size q)
theorem Gone.below {T T' : Nat → Prop} {w w' : World} {B : Nat} (h : Gone T w T' w') (hB : B ≤ w.heap.size) (q : ∀ z, T z → B ≤ z) : Below B w w' ∧ ∀ z, T' z → B ≤ z := by
  refine ⟨h.k.below hB (fun z hz s => by have := q z s; omega), fun z hz => ?_⟩
  rcases h.n z hz with s | s
  · exact q z s
  · omega
theorem St.keep {lab : Nat → Nat} {T U : Nat → Prop} {w w' : World} {sb lb : Nat} {vc ve : Value} {es : List SE} {C : Ctrs} {H : Helds} (h : St lab T w sb lb vc ve es C H) (k : Keep U w w') (n : ∀ z, T z → ¬ U z) : St lab T w' sb lb vc ve es C H := by
  have hs := k.size
  obtain ⟨S, hl, hS⟩ := h.led
  exact ⟨fun z hz => Nat.lt_of_lt_of_le (h.lt z hz) hs, h.box.keep k (n _ h.l1.1), ⟨S, hl.keep k (fun z hz => n z (hS z hz).1), hS⟩, GRow.keep h.rc k (fun g hg => n g (h.l3 g hg).1), GRow.keep h.re k (fun g hg => n g (h.l4 g hg).1), fun i hi => (h.esc i hi).keep k (n _ (h.le i hi).1) (n _ (h.le i hi).2.1), h.le, h.l1, h.l3, h.l4⟩
theorem St.below {lab : Nat → Nat} {T : Nat → Prop} {w w' : World} {sb lb : Nat} {vc ve : Value} {es : List SE} {C : Ctrs} {H : Helds} (h : St lab T w sb lb vc ve es C H) (k : Below w.heap.size w w') : St lab T w' sb lb vc ve es C H := h.keep (U := fun _ => False) (Keep.of_below k) (fun _ _ => id)
/-- A call of the ledger. -/
theorem St.ledger {lab : Nat → Nat} {T : Nat → Prop} {w : World} {sb lb : Nat} {vc ve : Value} {es : List SE} {C : Ctrs} {H : Helds} (h : St lab T w sb lb vc ve es C H) : ∃ S, LG S w lb C H ∧ ∀ w' C' H', Left S w w' lb C' H' → ∃ lab' T', St lab' T' w' sb lb vc ve es C' H' ∧ Gone T w T' w' := by
  obtain ⟨S, hl, hS⟩ := h.led
  refine ⟨S, hl, fun w' C' H' q => ?_⟩
  obtain ⟨S', hl', k, n⟩ := q
  have hs := k.size
  have e : ∀ z, T z → (fun z => if z < w.heap.size then lab z else 2) z = lab z := fun z hz => if_pos (h.lt z hz)
  have off : ∀ z, T z → lab z ≠ 2 → ¬ S z := fun z hz q s => q (hS z s).2
  refine ⟨fun z => if z < w.heap.size then lab z else 2, fun z => T z ∨ (w.heap.size ≤ z ∧ z < w'.heap.size), ⟨fun z hz => ?_, h.box.keep k (off _ h.l1.1 (by rw [h.l1.2]; decide)), ⟨S', hl', fun z hz => ?_⟩, GRow.keep h.rc k (fun g hg => off g (h.l3 g hg).1 (by rw [(h.l3 g hg).2]; decide)), GRow.keep h.re k (fun g hg => off g (h.l4 g hg).1 (by rw [(h.l4 g hg).2]; decide)), fun i hi => (h.esc i hi).keep k (off _ (h.le i hi).1 (by rw [(h.le i hi).2.2.1]; omega)) (off _ (h.le i hi).2.1 (by rw [(h.le i hi).2.2.2]; omega)), fun i hi => ?_, ⟨.inl h.l1.1, (e _ h.l1.1).trans h.l1.2⟩, fun g hg => ⟨.inl (h.l3 g hg).1, (e _ (h.l3 g hg).1).trans (h.l3 g hg).2⟩, fun g hg => ⟨.inl (h.l4 g hg).1, (e _ (h.l4 g hg).1).trans (h.l4 g hg).2⟩⟩, ⟨k.mono (fun z _ s => (hS z s).1), fun z hz => ?_⟩⟩
  · rcases hz with q | q
    · exact Nat.lt_of_lt_of_le (h.lt z q) hs
    · exact q.2
  · rcases n z hz with s | s
    · exact ⟨.inl (hS z s).1, (e z (hS z s).1).trans (hS z s).2⟩
    · exact ⟨.inr ⟨s, hl'.lt z hz⟩, if_neg (by omega)⟩
  · obtain ⟨a, b, c, d⟩ := h.le i hi
    exact ⟨.inl a, .inl b, (e _ a).trans c, (e _ b).trans d⟩
  · rcases hz with q | q
    · exact .inl q
    · exact .inr q.1
/-- A call of one of the escrows. -/
theorem St.escrow {lab : Nat → Nat} {T : Nat → Prop} {w w' : World} {sb lb : Nat} {vc ve : Value} {es : List SE} {C : Ctrs} {H : Helds} (h : St lab T w sb lb vc ve es C H) {i : Nat} (hi : i < es.length) {e' : Esc} (k : Keep (two es[i].eb es[i].mb) w w') (he : PE w' es[i].eb es[i].mb e') (h1 : e'.lo = es[i].e.lo) (h2 : e'.hi = es[i].e.hi) : St lab T w' sb lb vc ve (es.set i (es[i].turn e')) C H ∧ Gone T w T w' := by
  have hs := k.size
  obtain ⟨a, b, c, d⟩ := h.le i hi
  have off : ∀ z, lab z ≠ 10 + i → ¬ two es[i].eb es[i].mb z := fun z hz q => by
    rcases q with rfl | rfl
    · exact hz c
    · exact hz d
  obtain ⟨S, hl, hS⟩ := h.led
  have len : (es.set i (es[i].turn e')).length = es.length := by simp
  have row : rowsC seC (es.set i (es[i].turn e')) = rowsC seC es := by
    unfold rowsC
    rw [List.flatMap_def, List.flatMap_def, List.map_set]
    congr 1
    refine List.ext_getElem (by simp) (fun j q1 q2 => ?_)
    rw [List.getElem_set]
    split
    · rename_i q
      subst q
      simp [seC, SE.turn, h1, h2]
    · rfl
  have ptrs : (es.set i (es[i].turn e')).map (fun x => ptr x.eb) = es.map (fun x => ptr x.eb) := by
    rw [List.map_set]
    refine List.ext_getElem (by simp) (fun j q1 q2 => ?_)
    rw [List.getElem_set]
    split
    · rename_i q
      subst q
      simp [SE.turn]
    · rfl
  have at' : ∀ j (hj : j < (es.set i (es[i].turn e')).length), ∃ hj' : j < es.length, (es.set i (es[i].turn e'))[j].eb = es[j].eb ∧ (es.set i (es[i].turn e'))[j].mb = es[j].mb ∧ (es.set i (es[i].turn e'))[j].e = if i = j then e' else es[j].e := by
    intro j hj
    have hj' : j < es.length := by simpa using hj
    refine ⟨hj', ?_⟩
    rw [List.getElem_set]
    split
    · rename_i q
      subst q
      simp [SE.turn]
    · exact ⟨rfl, rfl, rfl⟩
  refine ⟨⟨fun z hz => Nat.lt_of_lt_of_le (h.lt z hz) hs, h.box.keep k (off _ (by rw [h.l1.2]; omega)), ⟨S, hl.keep k (fun z hz => off _ (by rw [(hS z hz).2]; omega)), hS⟩, by rw [len, row]; exact GRow.keep h.rc k (fun g hg => off g (by rw [(h.l3 g hg).2]; omega)), by rw [len, ptrs]; exact GRow.keep h.re k (fun g hg => off g (by rw [(h.l4 g hg).2]; omega)), fun j hj => ?_, fun j hj => ?_, h.l1, h.l3, h.l4⟩, ⟨k.mono (fun z _ q => by rcases q with rfl | rfl; exact a; exact b), fun z hz => .inl hz⟩⟩
  · obtain ⟨hj', q1, q2, q3⟩ := at' j hj
    rw [q1, q2, q3]
    split
    · rename_i q
      subst q
      exact he
    · rename_i q
      obtain ⟨a', b', c', d'⟩ := h.le j hj'
      exact (h.esc j hj').keep k (off _ (by rw [c']; omega)) (off _ (by rw [d']; omega))
  · obtain ⟨hj', q1, q2, q3⟩ := at' j hj
    rw [q1, q2]
    exact h.le j hj'
/-- The store at rest: the ledger holds what the escrows hold. -/
def Sto (T : Nat → Prop) (w : World) (sb : Nat) (es : List SE) (H : Helds) : Prop := SOk es H ∧ ∃ lab lb vc ve, St lab T w sb lb vc ve es (ctrsOf es) H
theorem Sto.below {T : Nat → Prop} {w w' : World} {sb : Nat} {es : List SE} {H : Helds} (h : Sto T w sb es H) (k : Below w.heap.size w w') : Sto T w' sb es H := by
  obtain ⟨a, lab, lb, vc, ve, b⟩ := h
  exact ⟨a, lab, lb, vc, ve, b.below k⟩
theorem Sto.keep {T U : Nat → Prop} {w w' : World} {sb : Nat} {es : List SE} {H : Helds} (h : Sto T w sb es H) (k : Keep U w w') (n : ∀ z, T z → ¬ U z) : Sto T w' sb es H := by
  obtain ⟨a, lab, lb, vc, ve, b⟩ := h
  exact ⟨a, lab, lb, vc, ve, b.keep k n⟩
theorem St.lg {lab : Nat → Nat} {T : Nat → Prop} {w : World} {sb lb : Nat} {vc ve : Value} {es : List SE} {C : Ctrs} {H : Helds} (h : St lab T w sb lb vc ve es C H) : ∃ S, LG S w lb C H := by
  obtain ⟨S, a, _⟩ := h.led
  exact ⟨S, a⟩
end Go.Proofs.YtaohdmaenplbpaaGreat
