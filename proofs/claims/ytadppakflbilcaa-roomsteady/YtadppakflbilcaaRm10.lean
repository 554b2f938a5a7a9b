import Derived.Test.YtadppakflbilcaaRm9
namespace Go.Proofs.Ytadppakflbilcaa
open Go.RowKit Go.QK Go.Maps Go.QM Go.QR
set_option maxRecDepth 100000
/-- A list of transactions whose row's cells are R, while it is changed. -/
structure LsR (y : Lay) (w : World) (S : Nat → Prop) (b : Nat) (v : Value) (R : List Value) (P : List TV) : Prop where
  lt : ∀ k, S k → k < w.heap.size
  sb : S b
  box : Cells w b [v]
  row : GRow w 0 y.e y.sz v P.length R
  rs : ∀ g, v.ownBlock = some g → S g ∧ g ≠ b
  own : ∀ p ∈ P, Owns .i64 3 w 0 p.2 p.1.hs
  os : ∀ p ∈ P, ∀ g, p.2.ownBlock = some g → S g ∧ g ≠ b ∧ v.ownBlock ≠ some g
  inj : P.Pairwise (fun p q => ∀ g, p.2.ownBlock = some g → q.2.ownBlock ≠ some g)
section
variable {y : Lay} {S T : Nat → Prop} {w w' : World} {b : Nat} {v : Value} {P : List TV} {R : List Value} {L : List Tx}
theorem Ls.raw (h : Ls y w S b v P) : LsR y w S b v (y.row P) P := ⟨h.lt, h.sb, h.box, h.row, h.rs, h.own, h.os, h.inj⟩
theorem LsR.full (h : LsR y w S b v R P) (e : R = y.row P) : Ls y w S b v P := ⟨h.lt, h.sb, h.box, by rw [← e]; exact h.row, h.rs, h.own, h.os, h.inj⟩
theorem LsR.keep (h : LsR y w S b v R P) (hk : Keep T w w') (h1 : ¬ T b) (h2 : ∀ g, v.ownBlock = some g → ¬ T g) (h3 : ∀ p ∈ P, ∀ g, p.2.ownBlock = some g → ¬ T g) : LsR y w' S b v R P :=
  ⟨fun k q => Nat.lt_of_lt_of_le (h.lt k q) hk.size, h.sb, h.box.keep hk h1, GRow.keep h.row hk h2, h.rs, fun p hp => (h.own p hp).keep hk (h3 p hp), h.os, h.inj⟩
theorem LsR.wider (h : LsR y w S b v R P) (hs : ∀ k, S k → T k) (hl : ∀ k, T k → k < w.heap.size) : LsR y w T b v R P :=
  ⟨hl, hs _ h.sb, h.box, h.row, fun g hg => ⟨hs _ (h.rs g hg).1, (h.rs g hg).2⟩, h.own, fun p hp g hg => ⟨hs _ (h.os p hp g hg).1, (h.os p hp g hg).2⟩, h.inj⟩
/-- Another list in the place of one: its blocks lie in S and touch no other's. -/
theorem LsR.put (h : LsR y w S b v R P) (i : Nat) (p : TV) (ho : Owns .i64 3 w 0 p.2 p.1.hs) (hs : ∀ g, p.2.ownBlock = some g → S g ∧ g ≠ b ∧ v.ownBlock ≠ some g) (hj : ∀ k q, k ≠ i → P[k]? = some q → ∀ g, p.2.ownBlock = some g → q.2.ownBlock ≠ some g) : LsR y w S b v R (P.set i p) := by
  have hm : ∀ q ∈ P.set i p, q = p ∨ q ∈ P := fun q hq => (List.mem_or_eq_of_mem_set hq).elim .inr .inl
  refine ⟨h.lt, h.sb, h.box, by rw [List.length_set]; exact h.row, h.rs, fun q hq => ?_, fun q hq => ?_, ?_⟩
  · rcases hm q hq with rfl | hq
    · exact ho
    · exact h.own q hq
  · rcases hm q hq with rfl | hq
    · exact hs
    · exact h.os q hq
  · rw [List.pairwise_iff_getElem]
    intro j k hj1 hk1 hjk g h1 h2
    have hj2 : j < P.length := by simpa using hj1
    have hk2 : k < P.length := by simpa using hk1
    rw [List.getElem_set] at h1 h2
    split at h1
    · rename_i e
      split at h2
      · omega
      · exact hj k P[k] (by omega) (List.getElem?_eq_getElem hk2) g h1 h2
    · split at h2
      · exact hj j P[j] (by omega) (List.getElem?_eq_getElem hj2) g h2 h1
      · exact (List.pairwise_iff_getElem.1 h.inj) j k hj2 hk2 hjk g h1 h2
theorem LsR.hole (h : LsR y w S b v R P) (i : Nat) : LsR y w S b v R (P.set i (⟨0, 0, []⟩, .slice none 0 0)) :=
  h.put i _ (Owns.nil _ _ _ _) nofun (fun _ _ _ _ _ => nofun)
/-- A cell of the row is written. -/
theorem LsR.store (h : LsR y w S b v R P) {g cap : Nat} (hv : v = .slice (some ⟨g, 0, none⟩) P.length cap) (j : Nat) (u : Value) : LsR y (w.setCell ⟨g, j, none⟩ u) S b v (R.set j u) P ∧ Keep S w (w.setCell ⟨g, j, none⟩ u) := by
  have hg := h.rs g (by rw [hv]; rfl)
  have hk : Keep (fun z => z = g) w (w.setCell ⟨g, j, none⟩ u) := (Keep.refl (fun z => z = g) w).setCell (fun _ => rfl) u
  refine ⟨⟨fun k q => Nat.lt_of_lt_of_le (h.lt k q) hk.size, h.sb, h.box.keep hk (fun e => hg.2 e.symm), ?_, h.rs, fun p hp => (h.own p hp).keep hk (fun x hx e => (h.os p hp x hx).2.2 (by rw [hv, e]; rfl)), h.os, h.inj⟩, hk.mono (fun k _ e => by rw [e]; exact hg.1)⟩
  have hr := h.row
  rw [hv] at hr ⊢
  exact (World.ownsRow.stored hr j u).1
/-- The box is given another row. -/
theorem mkRow {v0 v' : Value} {R' : List Value} {P' : List TV} (hlt : ∀ k, S k → k < w.heap.size) (hsb : S b) (hbox : Cells w b [v0]) (hr : GRow w 0 y.e y.sz v' P'.length R') (hrs : ∀ g, v'.ownBlock = some g → S g ∧ g ≠ b ∧ ∀ p ∈ P', p.2.ownBlock ≠ some g) (hown : ∀ p ∈ P', Owns .i64 3 w 0 p.2 p.1.hs) (hos : ∀ p ∈ P', ∀ g, p.2.ownBlock = some g → S g ∧ g ≠ b)
    (hinj : P'.Pairwise (fun p q => ∀ g, p.2.ownBlock = some g → q.2.ownBlock ≠ some g)) : LsR y (w.setCell ⟨b, 0, none⟩ v') S b v' R' P' ∧ Keep S w (w.setCell ⟨b, 0, none⟩ v') := by
  have hk : Keep (fun z => z = b) w (w.setCell ⟨b, 0, none⟩ v') := (Keep.refl (fun z => z = b) w).setCell (fun _ => rfl) v'
  refine ⟨⟨fun k q => Nat.lt_of_lt_of_le (hlt k q) hk.size, hsb, ?_, GRow.keep hr hk (fun g hg => (hrs g hg).2.1), fun g hg => ⟨(hrs g hg).1, (hrs g hg).2.1⟩, fun p hp => (hown p hp).keep hk (fun g hg => (hos p hp g hg).2), fun p hp g hg => ⟨(hos p hp g hg).1, (hos p hp g hg).2, fun e => (hrs g e).2.2 p hp hg⟩, hinj⟩, hk.mono (fun k _ e => by rw [e]; exact hsb)⟩
  have := hbox.stored (j := 0) (by simp) v'
  simpa using this
end
theorem rowsC_set {α : Type} (f : α → List Value) (n : Nat) (hf : ∀ x, (f x).length = n) (ls : List α) (i : Nat) (hi : i < ls.length) (j : Nat) (u : Value) (x : α) (hx : f x = (f ls[i]).set j u) (hj : j < n) : (rowsC f ls).set (i * n + j) u = rowsC f (ls.set i x) := by
  induction ls generalizing i with
  | nil => simp at hi
  | cons l ls ih =>
    cases i with
    | zero =>
      simp only [rowsC, List.flatMap_cons, Nat.zero_mul, Nat.zero_add, List.set_cons_zero]
      rw [List.set_append_left _ _ (by rw [hf]; exact hj)]
      rw [hx]
      rfl
    | succ i =>
      simp only [rowsC, List.flatMap_cons, List.set_cons_succ]
      have e : (i + 1) * n + j = n + (i * n + j) := by rw [Nat.succ_mul]; omega
      rw [e, List.set_append_right _ _ (by rw [hf]; omega), hf, Nat.add_sub_cancel_left]
      have := ih i (by simpa using hi) (by simpa using hx)
      unfold rowsC at this
      rw [this]
theorem rowsC_take {α : Type} (f : α → List Value) (n : Nat) (hf : ∀ x, (f x).length = n) (ls : List α) (i : Nat) (hi : i ≤ ls.length) : (rowsC f ls).take (i * n) = rowsC f (ls.take i) := by
  induction ls generalizing i with
  | nil => simp [rowsC]
  | cons l ls ih =>
    cases i with
    | zero => simp [rowsC]
    | succ i =>
      simp only [rowsC, List.flatMap_cons, List.take_succ_cons]
      have e : (i + 1) * n = n + i * n := by rw [Nat.succ_mul]; omega
      rw [e, ← hf l, List.take_length_add_append, hf l]
      have := ih i (by simpa using hi)
      unfold rowsC at this
      rw [this]
theorem rowsC_drop {α : Type} (f : α → List Value) (n : Nat) (hf : ∀ x, (f x).length = n) (ls : List α) (i : Nat) (hi : i ≤ ls.length) : (rowsC f ls).drop (i * n) = rowsC f (ls.drop i) := by
  induction ls generalizing i with
  | nil => simp [rowsC]
  | cons l ls ih =>
    cases i with
    | zero => simp [rowsC]
    | succ i =>
      simp only [rowsC, List.flatMap_cons, List.drop_succ_cons]
      have e : (i + 1) * n = n + i * n := by rw [Nat.succ_mul]; omega
      rw [e, ← hf l, List.drop_length_add_append, hf l]
      have := ih i (by simpa using hi)
      unfold rowsC at this
      rw [this]
theorem rowsC_append {α : Type} (f : α → List Value) (a b : List α) : rowsC f (a ++ b) = rowsC f a ++ rowsC f b := by simp [rowsC]
end Go.Proofs.Ytadppakflbilcaa
