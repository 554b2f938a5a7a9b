import Derived.Test.YthaiagalndcndaaPo9
namespace Go.Proofs.Ythaiagalndcndaa
open Go.RowKit Go.QK Go.Maps Go.QM Go.QP
set_option maxRecDepth 100000
/-- 'append(v, y)' of one element: the old list's cells are as they were. -/
theorem run_moreR {t e : TypeId} {z : Value} {size bytes : Nat} (hu : Try.prog.underlying t = some (.slice e)) (hin : (Try.prog.info? e).map (fun i => (i.zero, i.size, i.bytes)) = some (some z, size, bytes)) (hz : z.cells.size = size) (hs : 0 < size) (hby : bytes ≤ 100) (ty : TypeId) (x : World)
    (B : Nat) (v : Value) (n : Nat) (xs : List Value) (hown : GRow x B e size v n xs) (ad : Addr) (news : List Value) (hl : news.length = 1 * size) (hnews : Lies x (some ad) news) (h1 : ∀ u ∈ news, u.oneCell' = true) (h63 : n + 1 ≤ 2000000) (hB : B ≤ x.heap.size) :
    ∃ v' x', (Builtin.append_ #[t, t] ty #[v, .slice (some ad) 1 1]).run Try.prog x = .ok v' x' ∧ GRow x' B e size v' (n + 1) (xs ++ news) ∧ x.grownBy x' v.ownBlock ∧ (v'.ownBlock = v.ownBlock ∨ v'.ownBlock = some x.heap.size) ∧ (∀ a c, v = .slice a n c → Lies x' a xs) := by
  obtain ⟨v', x', hr, q2, q3, q4⟩ := run_pushR hu hin hz hs hby ty x B v n xs hown ad 1 1 news hl hnews h1 h63 hB
  refine ⟨v', x', hr, q2, q3, q4, ?_⟩
  intro a c hv
  obtain ⟨i0, hi, h0, h2, h3⟩ := info_of hin
  have hnews' : ∀ j u, news[j]? = some u → x.cell? (ad.add j) = some u := by
    intro j u hj
    obtain ⟨b, off, e1, _, hc⟩ := hnews.cellAt j u hj
    cases e1
    rw [addr_add]
    exact hc
  rcases hown.2 with ⟨q, hn⟩ | ⟨g, cap, cur, q, hbg, hg, hnc, hcm, hcs, htake⟩
  · have := hown.1
    rw [hn] at this
    exact .inl (List.eq_nil_of_length_eq_zero (by omega))
  · rw [q] at hv
    cases hv
    by_cases hroom : n + 1 ≤ c
    · have hfit : n * i0.size + news.length ≤ cur.size := by
        rw [h2, hl, hcs]
        have : (n + 1) * size ≤ c * size := Nat.mul_le_mul hroom (Nat.le_refl _)
        rw [Nat.add_mul] at this
        omega
      have hq := run_append_room (P := Try.prog) x t ty e i0 hu hi g n c cur hg ad 1 1 news (by rw [h2]; exact hl) hnews' h1 hroom hfit
      rw [← q, hr] at hq
      simp only [Result.ok.injEq] at hq
      rw [hq.1] at q2
      obtain ⟨a', c', e1, hli, _⟩ := GRow.lies q2
      cases e1
      rcases hli with hl0 | ⟨b, off, e2, hlt, hc⟩
      · exact .inl (List.append_eq_nil_iff.1 hl0).1
      · refine .inr ⟨b, off, e2, hlt, fun i hi => ?_⟩
        have := hc i (by rw [List.length_append]; omega)
        rw [this, List.getElem_append_left hi]
    · have hq := run_append_grow (P := Try.prog) x t ty e i0 z hu hi h0 ⟨g, 0, none⟩ n c xs (by rw [h2]; exact hown.1) (World.ownsRow.cells hown (g := g) (by rw [q]; rfl)) ad 1 1 news (by rw [h2]; exact hl) hnews' (by omega) (by omega) (growslice_fits (by omega) (by
        rw [h3]
        have : (n + 1) * bytes ≤ 2000000 * 100 := Nat.mul_le_mul h63 hby
        omega))
      rw [← q, hr] at hq
      simp only [Result.ok.injEq] at hq
      obtain ⟨a', c', e1, hli, _⟩ := GRow.lies hown
      rw [q] at e1
      cases e1
      rw [hq.2]
      exact hli.below ((Below.refl _ x).drew.alloc (Nat.le_refl _) _)
/-! Rows of one's own, each under a label. -/
structure It where
  e : TypeId
  size : Nat
  v : Value
  n : Nat
  xs : List Value
structure Own (w : World) (B : Nat) (lab : Nat → Nat) (I : Nat → Option It) : Prop where
  at_ : ∀ k it, I k = some it → GRow w B it.e it.size it.v it.n it.xs ∧ ∀ g, it.v.ownBlock = some g → lab g = k
def put (I : Nat → Option It) (k : Nat) (it : It) : Nat → Option It := fun j => if j = k then some it else I j
theorem put_same (I : Nat → Option It) (k : Nat) (it : It) : put I k it k = some it := if_pos rfl
theorem put_other (I : Nat → Option It) {k j : Nat} (it : It) (h : j ≠ k) : put I k it j = I j := if_neg h
def relab (lab : Nat → Nat) (n k : Nat) : Nat → Nat := fun z => if z < n then lab z else k
section
variable {w w' : World} {B : Nat} {lab : Nat → Nat} {I : Nat → Option It} {S : Nat → Prop}
theorem Own.below (h : Own w B lab I) (hb : Below w.heap.size w w') : Own w' B lab I := ⟨fun k it hi => ⟨GRow.below (h.at_ k it hi).1 hb, (h.at_ k it hi).2⟩⟩
theorem Own.put (h : Own w B lab I) (hk : Keep S w w') (k : Nat) (hS : ∀ b, b < w.heap.size → S b → lab b = k) (it : It) (hr : GRow w' B it.e it.size it.v it.n it.xs) (hg : ∀ g, it.v.ownBlock = some g → g < w.heap.size → lab g = k) : Own w' B (relab lab w.heap.size k) (Proofs.Ythaiagalndcndaa.put I k it) := by
  refine ⟨fun j jt hj => ?_⟩
  by_cases q : j = k
  · subst q
    rw [put_same] at hj
    cases hj
    refine ⟨hr, fun g hgg => ?_⟩
    unfold relab
    by_cases r : g < w.heap.size
    · rw [if_pos r]; exact hg g hgg r
    · rw [if_neg r]
  · rw [put_other I it q] at hj
    obtain ⟨h1, h2⟩ := h.at_ j jt hj
    refine ⟨GRow.keep h1 hk (fun g hgg s => ?_), fun g hgg => ?_⟩
    · have hlt := (World.ownsRow.lt h1 g hgg).2
      have := hS g hlt s
      rw [h2 g hgg] at this
      exact q this
    · unfold relab
      rw [if_pos (World.ownsRow.lt h1 g hgg).2]
      exact h2 g hgg
theorem Own.none (w : World) (B : Nat) (lab : Nat → Nat) : Own w B lab (fun _ => none) := ⟨fun _ _ h => by cases h⟩
end
/-- Cells that a slice leads to, in a block with the label k. -/
structure Told (w : World) (lab : Nat → Nat) (k : Nat) (a : Option Addr) (cs : List Value) : Prop where
  li : Lies w a cs
  lab_ : cs ≠ [] → ∀ ad, a = some ad → lab ad.block = k
theorem Told.below {w w' : World} {lab : Nat → Nat} {k : Nat} {a : Option Addr} {cs : List Value} (h : Told w lab k a cs) (hb : Below w.heap.size w w') : Told w' lab k a cs := ⟨h.li.below hb, h.lab_⟩
theorem Told.keep {w w' : World} {lab : Nat → Nat} {k j : Nat} {a : Option Addr} {cs : List Value} {S : Nat → Prop} (h : Told w lab k a cs) (hk : Keep S w w') (hS : ∀ b, b < w.heap.size → S b → lab b = j) (hj : k ≠ j) : Told w' (relab lab w.heap.size j) k a cs := by
  by_cases q : cs = []
  · exact ⟨.inl q, fun r => absurd q r⟩
  · rcases h.li with r | ⟨b, off, e, hb, hc⟩
    · exact absurd r q
    · have hl := h.lab_ q _ e
      simp only at hl
      refine ⟨.inr ⟨b, off, e, Nat.lt_of_lt_of_le hb hk.size, fun i hi => (hk.cell (p := ⟨b, off + i, none⟩) hb (fun s => hj (by rw [← hl]; exact hS b hb s))).trans (hc i hi)⟩, fun _ ad had => ?_⟩
      rw [e] at had
      cases had
      unfold relab
      rw [if_pos hb]
      exact hl
theorem lies_one (w : World) (v : Value) (t : TypeId) : Lies (w.alloc (.cells #[v] t)) (some ⟨w.heap.size, 0, none⟩) [v] := by
  have h := Cells.new w #[v] t
  refine .inr ⟨w.heap.size, 0, rfl, h.1, fun i hi => ?_⟩
  have q := (h.2 i (by simpa using hi)).1
  rw [Nat.zero_add]
  exact q
theorem info23 : (Try.prog.info? 23).map (fun i => (i.zero, i.size, i.bytes)) = some (some (.slice none 0 0), 1, 24) := by kernel_rfl
theorem info23z : (Value.slice none 0 0).cells.size = 1 := rfl
/-! Marks. -/
def mrk (k i : Nat) : Dr := (-1 - (k : Int), -(i : Int))
def marks (k n : Nat) : List Dr := (List.range n).map (mrk k)
theorem marks_len (k n : Nat) : (marks k n).length = n := by simp [marks]
theorem marks_get (k n i : Nat) (h : i < n) : (marks k n)[i]? = some (mrk k i) := by simp [marks, h]
theorem marks_succ (k n : Nat) : marks k (n + 1) = marks k n ++ [mrk k n] := by simp [marks, List.range_succ]
theorem marks_of {k n : Nat} {l : List Dr} (hl : l.length = n) (h : ∀ i, i < n → l[i]? = some (mrk k i)) : l = marks k n := by
  refine List.ext_getElem? (fun i => ?_)
  by_cases q : i < n
  · rw [h i q, marks_get k n i q]
  · rw [List.getElem?_eq_none (by omega), List.getElem?_eq_none (by rw [marks_len]; omega)]
theorem drs_set (l : List Dr) (i : Nat) (d : Dr) (h : i < l.length) : ((drs l).set (i * 2) (.int .i64 d.1)).set (i * 2 + 1) (.int .i64 d.2) = drs (l.set i d) := by
  induction l generalizing i with
  | nil => cases h
  | cons x r ih =>
    cases i with
    | zero => rfl
    | succ i =>
      have e : ∀ (d : Dr) (r : List Dr), drs (d :: r) = .int .i64 d.1 :: .int .i64 d.2 :: drs r := fun _ _ => rfl
      rw [show (i + 1) * 2 + 1 = i * 2 + 1 + 1 + 1 by omega, show (i + 1) * 2 = i * 2 + 1 + 1 by omega, e, List.set_cons_succ, List.set_cons_succ, List.set_cons_succ, List.set_cons_succ, ih i (by simpa using h), List.set_cons_succ, e]
/-! How the law's lists stand: got and want, six of each at most. -/
structure Inv (w : World) (B : Nat) (lab : Nat → Nat) (I : Nat → Option It) (uG uW : Value) (vG vW : List Value) (R X : Nat → List Dr) (t : Nat) : Prop where
  own : Own w B lab I
  g : I 1 = some ⟨23, 1, uG, t, vG⟩
  ww : I 2 = some ⟨23, 1, uW, t, vW⟩
  lg : vG.length = t
  lw : vW.length = t
  eg : ∀ k (h : k < vG.length), I (10 + 3 * k) = some ⟨28, 2, vG[k], (R k).length, drs (X k)⟩
  ew : ∀ k (h : k < vW.length), I (11 + 3 * k) = some ⟨28, 2, vW[k], (R k).length, drs (R k)⟩
  lx : ∀ k, k < t → (X k).length = (R k).length
section
variable {w w' : World} {B : Nat} {lab : Nat → Nat} {I : Nat → Option It} {uG uW : Value} {vG vW : List Value} {R X : Nat → List Dr} {t : Nat}
theorem Inv.below (h : Inv w B lab I uG uW vG vW R X t) (hb : Below w.heap.size w w') : Inv w' B lab I uG uW vG vW R X t := { h with own := h.own.below hb }
theorem Inv.rowG (h : Inv w B lab I uG uW vG vW R X t) : GRow w B 23 1 uG t vG := (h.own.at_ 1 _ h.g).1
theorem Inv.rowW (h : Inv w B lab I uG uW vG vW R X t) : GRow w B 23 1 uW t vW := (h.own.at_ 2 _ h.ww).1
theorem Inv.itG (h : Inv w B lab I uG uW vG vW R X t) {k : Nat} (hk : k < vG.length) : GRow w B 28 2 vG[k] (R k).length (drs (X k)) := (h.own.at_ _ _ (h.eg k hk)).1
theorem Inv.itW (h : Inv w B lab I uG uW vG vW R X t) {k : Nat} (hk : k < vW.length) : GRow w B 28 2 vW[k] (R k).length (drs (R k)) := (h.own.at_ _ _ (h.ew k hk)).1
/-- One more of each. -/
theorem Inv.more (h : Inv w B lab I uG uW vG vW R R t) {w2 w3 w4 w5 : World} {v c uG' uW' : Value} (hx : GRow w2 B 28 2 v (R t).length (drs (R t))) (hv : ∀ g, v.ownBlock = some g → w.heap.size ≤ g) (b2 : Below w.heap.size w w2)
    (g3 : GRow w3 B 23 1 uG' (t + 1) (vG ++ [v])) (k3 : Keep (fun z => uG.ownBlock = some z) w2 w3) (o3 : uG'.ownBlock = uG.ownBlock ∨ ∃ z, uG'.ownBlock = some z ∧ w2.heap.size ≤ z)
    (c4 : GRow w4 B 28 2 c (R t).length (drs (R t))) (b4 : Below w3.heap.size w3 w4) (hc : ∀ g, c.ownBlock = some g → w3.heap.size ≤ g)
    (g5 : GRow w5 B 23 1 uW' (t + 1) (vW ++ [c])) (k5 : Keep (fun z => uW.ownBlock = some z) w4 w5) (o5 : uW'.ownBlock = uW.ownBlock ∨ ∃ z, uW'.ownBlock = some z ∧ w4.heap.size ≤ z) :
    ∃ lab' I', Inv w5 B lab' I' uG' uW' (vG ++ [v]) (vW ++ [c]) R R (t + 1) := by
  have o2 := h.own.put (S := fun _ => False) (Keep.of_below b2) (10 + 3 * t) (fun _ _ f => f.elim) ⟨28, 2, v, (R t).length, drs (R t)⟩ hx (fun g hg hlt => by have := hv g hg; omega)
  have l2 : ∀ z, uG.ownBlock = some z → relab lab w.heap.size (10 + 3 * t) z = 1 := fun z hz => by
    have := (h.own.at_ 1 _ h.g)
    unfold relab
    rw [if_pos (World.ownsRow.lt this.1 z hz).2]
    exact this.2 z hz
  have p3 := o2.put k3 1 (fun b _ s => l2 b s) ⟨23, 1, uG', t + 1, vG ++ [v]⟩ g3 (fun g hg hlt => by
    rcases o3 with q | ⟨z, q, hz⟩
    · rw [q] at hg; exact l2 g hg
    · rw [q] at hg; cases hg; omega)
  have p4 := p3.put (S := fun _ => False) (Keep.of_below b4) (11 + 3 * t) (fun _ _ f => f.elim) ⟨28, 2, c, (R t).length, drs (R t)⟩ c4 (fun g hg hlt => by have := hc g hg; omega)
  have e2 : Proofs.Ythaiagalndcndaa.put (Proofs.Ythaiagalndcndaa.put (Proofs.Ythaiagalndcndaa.put I (10 + 3 * t) ⟨28, 2, v, (R t).length, drs (R t)⟩) 1 ⟨23, 1, uG', t + 1, vG ++ [v]⟩) (11 + 3 * t) ⟨28, 2, c, (R t).length, drs (R t)⟩ 2 = some ⟨23, 1, uW, t, vW⟩ := by
    rw [put_other _ _ (by omega), put_other _ _ (by omega), put_other _ _ (by omega)]
    exact h.ww
  have l4 := (p4.at_ 2 _ e2)
  have p5 := p4.put k5 2 (fun b _ s => l4.2 b s) ⟨23, 1, uW', t + 1, vW ++ [c]⟩ g5 (fun g hg hlt => by
    rcases o5 with q | ⟨z, q, hz⟩
    · rw [q] at hg; exact l4.2 g hg
    · rw [q] at hg; cases hg; omega)
  refine ⟨_, _, p5, ?_, put_same _ _ _, by simp [h.lg], by simp [h.lw], fun k hk => ?_, fun k hk => ?_, fun _ _ => rfl⟩
  · rw [put_other _ _ (by omega), put_other _ _ (by omega), put_same]
  · rw [put_other _ _ (by omega), put_other _ _ (by omega), put_other _ _ (by omega)]
    by_cases q : k < vG.length
    · rw [put_other _ _ (by have := h.lg; omega), h.eg k q]
      simp [List.getElem_append_left q]
    · have : k = t := by have := h.lg; simp at hk; omega
      subst this
      rw [put_same]
      congr 2
      rw [List.getElem_append_right (by have := h.lg; omega)]
      simp
  · rw [put_other _ _ (by omega)]
    by_cases q : k < vW.length
    · rw [put_other _ _ (by have := h.lw; omega), put_other _ _ (by omega), put_other _ _ (by omega), h.ew k q]
      simp [List.getElem_append_left q]
    · have : k = t := by have := h.lw; simp at hk; omega
      subst this
      rw [put_same]
      congr 2
      rw [List.getElem_append_right (by have := h.lw; omega)]
      simp
/-- An element of a got list is written over. -/
theorem Inv.store (h : Inv w B lab I uG uW vG vW R X t) {k i : Nat} (hk : k < vG.length) (hi : i < (R k).length) (d : Dr) {g c : Nat} (hv : vG[k] = .slice (some ⟨g, 0, none⟩) (R k).length c) :
    ∃ lab' I', Inv ((w.setCell ⟨g, i * 2, none⟩ (.int .i64 d.1)).setCell ⟨g, i * 2 + 1, none⟩ (.int .i64 d.2)) B lab' I' uG uW vG vW R (fun j => if j = k then (X k).set i d else X j) t := by
  have hx := h.lx k (by have := h.lg; omega)
  have hit := h.itG hk
  rw [hv] at hit
  have r1 := (World.ownsRow.stored hit (i * 2) (.int .i64 d.1)).1
  have r2 := (World.ownsRow.stored r1 (i * 2 + 1) (.int .i64 d.2)).1
  rw [drs_set _ _ _ (by omega)] at r2
  have kk : Keep (fun z => z = g) w ((w.setCell ⟨g, i * 2, none⟩ (.int .i64 d.1)).setCell ⟨g, i * 2 + 1, none⟩ (.int .i64 d.2)) := Keep.setCell (Keep.setCell (S := fun z => z = g) (Keep.refl _ _) (fun _ => rfl) _) (fun _ => rfl) _
  have hl := (h.own.at_ _ _ (h.eg k hk)).2 g (by rw [hv]; rfl)
  have p := h.own.put kk (10 + 3 * k) (fun b _ s => by rw [s]; exact hl) ⟨28, 2, vG[k], (R k).length, drs ((X k).set i d)⟩ (by rw [hv]; exact r2) (fun z hz _ => by rw [hv] at hz; cases hz; exact hl)
  refine ⟨_, _, p, ?_, ?_, h.lg, h.lw, fun j hj => ?_, fun j hj => ?_, fun j hj => ?_⟩
  · rw [put_other _ _ (by omega)]; exact h.g
  · rw [put_other _ _ (by omega)]; exact h.ww
  · by_cases q : j = k
    · subst q
      rw [put_same]
      simp
    · rw [put_other _ _ (by omega), h.eg j hj]
      simp [q]
  · rw [put_other _ _ (by omega)]; exact h.ew j hj
  · by_cases q : j = k
    · subst q
      simp [hx]
    · simp [q, h.lx j hj]
end
end Go.Proofs.Ythaiagalndcndaa
