import Derived.Test.YtehbpmibllpkhaaGreatDoorUdT6
import Derived.Test.YtehbpmibllpkhaaGreatDoorUd18
set_option linter.all false
namespace Go.Proofs.YtehbpmibllpkhaaGreatDoor
open Go.RowKit Go.QK Go.Maps Go.QM Go.QU
set_option maxRecDepth 100000
/-- 'append(v, y)' of one element: the old list's cells are as they were. -/
theorem run_moreR {t e : TypeId} {z : Value} {size bytes : Nat} (hu : Tryz.prog.underlying t = some (.slice e)) (hin : (Tryz.prog.info? e).map (fun i => (i.zero, i.size, i.bytes)) = some (some z, size, bytes)) (hz : z.cells.size = size) (hs : 0 < size) (hb1 : 0 < bytes) (hby : bytes ≤ 200) (ty : TypeId) (x : World)
    (B : Nat) (v : Value) (n : Nat) (xs : List Value) (hown : GRow x B e size v n xs) (ad : Addr) (m cc : Nat) (news : List Value) (hl : news.length = m * size) (hnews : Lies x (some ad) news) (h1 : ∀ u ∈ news, u.oneCell' = true) (h63 : n + m ≤ 2000000) (hB : B ≤ x.heap.size) :
    ∃ v' x', (Builtin.append_ #[t, t] ty #[v, .slice (some ad) m cc]).run Tryz.prog x = .ok v' x' ∧ GRow x' B e size v' (n + m) (xs ++ news) ∧ x.grownBy x' v.ownBlock ∧ (v'.ownBlock = v.ownBlock ∨ v'.ownBlock = some x.heap.size) ∧ (∀ a c, v = .slice a n c → Lies x' a xs) := by
  have h64 : (n + m) * bytes ≤ 2000000 * 200 := Nat.mul_le_mul h63 hby
  obtain ⟨v', x', hr, q2, q3, q4⟩ := run_pushW hu hin hz hs ty x B v n xs hown ad m cc news hl hnews h1 (by omega) hb1 hB
  refine ⟨v', x', hr, q2, q3, q4, ?_⟩
  intro a c hv
  obtain ⟨i0, hi, h0, h2, h3⟩ := info_of hin
  have hnews' : ∀ j u, news[j]? = some u → x.cell? (ad.add j) = some u := by
    intro j u hj
    obtain ⟨b, off, e1, _, hc⟩ := hnews.cellAt j u hj
    cases e1
    rw [addr_add]
    exact hc
  rcases hown.2 with ⟨q, hn⟩ | ⟨g, cap, cur, q, hbg, hg, hnc, hcm, hcs, htake⟩
  · have := hown.1
    rw [hn] at this
    exact .inl (List.eq_nil_of_length_eq_zero (by omega))
  · rw [q] at hv
    cases hv
    by_cases hroom : n + m ≤ c
    · have hfit : n * i0.size + news.length ≤ cur.size := by
        rw [h2, hl, hcs]
        have : (n + m) * size ≤ c * size := Nat.mul_le_mul hroom (Nat.le_refl _)
        rw [Nat.add_mul] at this
        omega
      have hq := run_append_room (P := Tryz.prog) x t ty e i0 hu hi g n c cur hg ad m cc news (by rw [h2]; exact hl) hnews' h1 hroom hfit
      rw [← q, hr] at hq
      simp only [Result.ok.injEq] at hq
      rw [hq.1] at q2
      obtain ⟨a', c', e1, hli, _⟩ := GRow.lies q2
      cases e1
      rcases hli with hl0 | ⟨b, off, e2, hlt, hc⟩
      · exact .inl (List.append_eq_nil_iff.1 hl0).1
      · refine .inr ⟨b, off, e2, hlt, fun i hi => ?_⟩
        have := hc i (by rw [List.length_append]; omega)
        rw [this, List.getElem_append_left hi]
    · have hq := run_append_grow (P := Tryz.prog) x t ty e i0 z hu hi h0 ⟨g, 0, none⟩ n c xs (by rw [h2]; exact hown.1) (World.ownsRow.cells hown (g := g) (by rw [q]; rfl)) ad m cc news (by rw [h2]; exact hl) hnews' (by omega) (by omega) (growslice_fits (by omega) (by
        rw [h3]
        omega))
      rw [← q, hr] at hq
      simp only [Result.ok.injEq] at hq
      obtain ⟨a', c', e1, hli, _⟩ := GRow.lies hown
      rw [q] at e1
      cases e1
      rw [hq.2]
      exact hli.below ((Below.refl _ x).drew.alloc (Nat.le_refl _) _)
/-! Rows of one's own, each under a label. -/
structure It where
  e : TypeId
  size : Nat
  v : Value
  n : Nat
  xs : List Value
structure Own (w : World) (B : Nat) (lab : Nat → Nat) (I : Nat → Option It) : Prop where
  at_ : ∀ k it, I k = some it → GRow w B it.e it.size it.v it.n it.xs ∧ ∀ g, it.v.ownBlock = some g → lab g = k
def put (I : Nat → Option It) (k : Nat) (it : It) : Nat → Option It := fun j => if j = k then some it else I j
theorem put_same (I : Nat → Option It) (k : Nat) (it : It) : put I k it k = some it := if_pos rfl
theorem put_other (I : Nat → Option It) {k j : Nat} (it : It) (h : j ≠ k) : put I k it j = I j := if_neg h
def relab (lab : Nat → Nat) (n k : Nat) : Nat → Nat := fun z => if z < n then lab z else k
section
variable {w w' : World} {B : Nat} {lab : Nat → Nat} {I : Nat → Option It} {S : Nat → Prop}
theorem Own.below (h : Own w B lab I) (hb : Below w.heap.size w w') : Own w' B lab I := ⟨fun k it hi => ⟨GRow.below (h.at_ k it hi).1 hb, (h.at_ k it hi).2⟩⟩
theorem Own.put (h : Own w B lab I) (hk : Keep S w w') (k : Nat) (hS : ∀ b, b < w.heap.size → S b → lab b = k) (it : It) (hr : GRow w' B it.e it.size it.v it.n it.xs) (hg : ∀ g, it.v.ownBlock = some g → g < w.heap.size → lab g = k) : Own w' B (relab lab w.heap.size k) (Proofs.YtehbpmibllpkhaaGreatDoor.put I k it) := by
  refine ⟨fun j jt hj => ?_⟩
  by_cases q : j = k
  · subst q
    rw [put_same] at hj
    cases hj
    refine ⟨hr, fun g hgg => ?_⟩
    unfold relab
    by_cases r : g < w.heap.size
    · rw [if_pos r]; exact hg g hgg r
    · rw [if_neg r]
  · rw [put_other I it q] at hj
    obtain ⟨h1, h2⟩ := h.at_ j jt hj
    refine ⟨GRow.keep h1 hk (fun g hgg s => ?_), fun g hgg => ?_⟩
    · have hlt := (World.ownsRow.lt h1 g hgg).2
      have := hS g hlt s
      rw [h2 g hgg] at this
      exact q this
    · unfold relab
      rw [if_pos (World.ownsRow.lt h1 g hgg).2]
      exact h2 g hgg
end
/-- Cells that a slice leads to, in a block with the label k. -/
structure Tls (w : World) (lab : Nat → Nat) (k : Nat) (a : Option Addr) (cs : List Value) : Prop where
  li : Lies w a cs
  lab_ : cs ≠ [] → ∀ ad, a = some ad → lab ad.block = k
theorem Tls.below {w w' : World} {lab : Nat → Nat} {k : Nat} {a : Option Addr} {cs : List Value} (h : Tls w lab k a cs) (hb : Below w.heap.size w w') : Tls w' lab k a cs := ⟨h.li.below hb, h.lab_⟩
theorem Tls.keep {w w' : World} {lab : Nat → Nat} {k j : Nat} {a : Option Addr} {cs : List Value} {S : Nat → Prop} (h : Tls w lab k a cs) (hk : Keep S w w') (hS : ∀ b, b < w.heap.size → S b → lab b = j) (hj : k ≠ j) : Tls w' (relab lab w.heap.size j) k a cs := by
  by_cases q : cs = []
  · exact ⟨.inl q, fun r => absurd q r⟩
  · rcases h.li with r | ⟨b, off, e, hb, hc⟩
    · exact absurd r q
    · have hl := h.lab_ q _ e
      simp only at hl
      refine ⟨.inr ⟨b, off, e, Nat.lt_of_lt_of_le hb hk.size, fun i hi => (hk.cell (p := ⟨b, off + i, none⟩) hb (fun s => hj (by rw [← hl]; exact hS b hb s))).trans (hc i hi)⟩, fun _ ad had => ?_⟩
      rw [e] at had
      cases had
      unfold relab
      rw [if_pos hb]
      exact hl
theorem lies_one (w : World) (v : Value) (t : TypeId) : Lies (w.alloc (.cells #[v] t)) (some ⟨w.heap.size, 0, none⟩) [v] := by
  have h := Cells.new w #[v] t
  refine .inr ⟨w.heap.size, 0, rfl, h.1, fun i hi => ?_⟩
  have q := (h.2 i (by simpa using hi)).1
  rw [Nat.zero_add]
  exact q
theorem info22 : (Tryz.prog.info? 22).map (fun i => (i.zero, i.size, i.bytes)) = some (some (.slice none 0 0), 1, 24) := by kernel_rfl
theorem info22z : (Value.slice none 0 0).cells.size = 1 := rfl
/-! Marks: a record with the list's number in it. -/
def mrk (k : Nat) : RZ := ⟨-(k : Int), 0, 0, 0, 0, 0, 0, 0, 0, 0, 0, 0, 0, 0, none, 0, 0, none, 0, 0, 0⟩
def marks (k n : Nat) : List RZ := List.replicate n (mrk k)
theorem marks_len (k n : Nat) : (marks k n).length = n := by simp [marks]
theorem marks_succ (k n : Nat) : marks k (n + 1) = marks k n ++ [mrk k] := by unfold marks; rw [List.replicate_succ']
theorem marks_of {k n : Nat} {l : List RZ} (hl : l.length = n) (h : ∀ i, i < n → l[i]? = some (mrk k)) : l = marks k n := by
  refine List.ext_getElem? (fun i => ?_)
  by_cases q : i < n
  · rw [h i q]; simp [marks, q]
  · rw [List.getElem?_eq_none (by omega), List.getElem?_eq_none (by rw [marks_len]; omega)]
/-! How the law's lists stand. -/
structure Inv (w : World) (B : Nat) (lab : Nat → Nat) (I : Nat → Option It) (uG uW : Value) (vG vW : List Value) (R X : Nat → List RZ) (t : Nat) : Prop where
  own : Own w B lab I
  g : I 1 = some ⟨22, 1, uG, t, vG⟩
  ww : I 2 = some ⟨22, 1, uW, t, vW⟩
  lg : vG.length = t
  lw : vW.length = t
  eg : ∀ k (h : k < vG.length), I (10 + 3 * k) = some ⟨53, 17, vG[k], (R k).length, rzs (X k)⟩
  ew : ∀ k (h : k < vW.length), I (11 + 3 * k) = some ⟨53, 17, vW[k], (R k).length, rzs (R k)⟩
  lx : ∀ k, k < t → (X k).length = (R k).length
section
variable {w w' : World} {B : Nat} {lab : Nat → Nat} {I : Nat → Option It} {uG uW : Value} {vG vW : List Value} {R X : Nat → List RZ} {t : Nat}
theorem Inv.below (h : Inv w B lab I uG uW vG vW R X t) (hb : Below w.heap.size w w') : Inv w' B lab I uG uW vG vW R X t := { h with own := h.own.below hb }
theorem Inv.rowG (h : Inv w B lab I uG uW vG vW R X t) : GRow w B 22 1 uG t vG := (h.own.at_ 1 _ h.g).1
theorem Inv.rowW (h : Inv w B lab I uG uW vG vW R X t) : GRow w B 22 1 uW t vW := (h.own.at_ 2 _ h.ww).1
theorem Inv.itG (h : Inv w B lab I uG uW vG vW R X t) {k : Nat} (hk : k < vG.length) : GRow w B 53 17 vG[k] (R k).length (rzs (X k)) := (h.own.at_ _ _ (h.eg k hk)).1
theorem Inv.itW (h : Inv w B lab I uG uW vG vW R X t) {k : Nat} (hk : k < vW.length) : GRow w B 53 17 vW[k] (R k).length (rzs (R k)) := (h.own.at_ _ _ (h.ew k hk)).1
theorem Inv.start (w : World) (B : Nat) (R : Nat → List RZ) : ∃ lab I, Inv w B lab I (.slice none 0 0) (.slice none 0 0) [] [] R R 0 := by
  refine ⟨fun _ => 0, put (put (fun _ => none) 1 ⟨22, 1, .slice none 0 0, 0, []⟩) 2 ⟨22, 1, .slice none 0 0, 0, []⟩, ⟨fun k it h => ?_⟩, by rw [put_other _ _ (by omega), put_same], put_same _ _ _, rfl, rfl, fun k hk => (by simp at hk), fun k hk => (by simp at hk), fun _ _ => rfl⟩
  by_cases q : k = 2
  · subst q
    rw [put_same] at h
    cases h
    exact ⟨World.ownsRow_nil _ _ _ _, fun g hg => by cases hg⟩
  · rw [put_other _ _ q] at h
    by_cases r : k = 1
    · subst r
      rw [put_same] at h
      cases h
      exact ⟨World.ownsRow_nil _ _ _ _, fun g hg => by cases hg⟩
    · rw [put_other _ _ r] at h
      cases h
theorem Inv.wKeep {w2 w3 : World} (h : Inv w B lab I uG uW vG vW R X t) (b2 : Below w.heap.size w w2) (k3 : Keep (fun z => uG.ownBlock = some z) w2 w3) : GRow w3 B 22 1 uW t vW :=
  GRow.keep (GRow.below h.rowW b2) k3 (fun g hg s => by
    have h1 := (h.own.at_ 1 _ h.g).2 g s
    have h2 := (h.own.at_ 2 _ h.ww).2 g hg
    omega)
/-- The lists' contents are told anew, beyond those that are there. -/
theorem Inv.turn {R2 : Nat → List RZ} (h : Inv w B lab I uG uW vG vW R R t) (e : ∀ k, k < t → R2 k = R k) : Inv w B lab I uG uW vG vW R2 R2 t :=
  ⟨h.own, h.g, h.ww, h.lg, h.lw, fun k hk => by rw [e k (by have := h.lg; omega)]; exact h.eg k hk, fun k hk => by rw [e k (by have := h.lw; omega)]; exact h.ew k hk, fun _ _ => rfl⟩
/-- One more of each. -/
theorem Inv.more (h : Inv w B lab I uG uW vG vW R R t) {w2 w3 w4 w5 : World} {v c uG' uW' : Value} (hx : GRow w2 B 53 17 v (R t).length (rzs (R t))) (hv : ∀ g, v.ownBlock = some g → w.heap.size ≤ g) (b2 : Below w.heap.size w w2)
    (g3 : GRow w3 B 22 1 uG' (t + 1) (vG ++ [v])) (k3 : Keep (fun z => uG.ownBlock = some z) w2 w3) (o3 : uG'.ownBlock = uG.ownBlock ∨ ∃ z, uG'.ownBlock = some z ∧ w2.heap.size ≤ z)
    (c4 : GRow w4 B 53 17 c (R t).length (rzs (R t))) (b4 : Below w3.heap.size w3 w4) (hc : ∀ g, c.ownBlock = some g → w3.heap.size ≤ g)
    (g5 : GRow w5 B 22 1 uW' (t + 1) (vW ++ [c])) (k5 : Keep (fun z => uW.ownBlock = some z) w4 w5) (o5 : uW'.ownBlock = uW.ownBlock ∨ ∃ z, uW'.ownBlock = some z ∧ w4.heap.size ≤ z) :
    ∃ lab' I', Inv w5 B lab' I' uG' uW' (vG ++ [v]) (vW ++ [c]) R R (t + 1) := by
  have o2 := h.own.put (S := fun _ => False) (Keep.of_below b2) (10 + 3 * t) (fun _ _ f => f.elim) ⟨53, 17, v, (R t).length, rzs (R t)⟩ hx (fun g hg hlt => by have := hv g hg; omega)
  have l2 : ∀ z, uG.ownBlock = some z → relab lab w.heap.size (10 + 3 * t) z = 1 := fun z hz => by
    have := (h.own.at_ 1 _ h.g)
    unfold relab
    rw [if_pos (World.ownsRow.lt this.1 z hz).2]
    exact this.2 z hz
  have p3 := o2.put k3 1 (fun b _ s => l2 b s) ⟨22, 1, uG', t + 1, vG ++ [v]⟩ g3 (fun g hg hlt => by
    rcases o3 with q | ⟨z, q, hz⟩
    · rw [q] at hg; exact l2 g hg
    · rw [q] at hg; cases hg; omega)
  have p4 := p3.put (S := fun _ => False) (Keep.of_below b4) (11 + 3 * t) (fun _ _ f => f.elim) ⟨53, 17, c, (R t).length, rzs (R t)⟩ c4 (fun g hg hlt => by have := hc g hg; omega)
  have e2 : Proofs.YtehbpmibllpkhaaGreatDoor.put (Proofs.YtehbpmibllpkhaaGreatDoor.put (Proofs.YtehbpmibllpkhaaGreatDoor.put I (10 + 3 * t) ⟨53, 17, v, (R t).length, rzs (R t)⟩) 1 ⟨22, 1, uG', t + 1, vG ++ [v]⟩) (11 + 3 * t) ⟨53, 17, c, (R t).length, rzs (R t)⟩ 2 = some ⟨22, 1, uW, t, vW⟩ := by
    rw [put_other _ _ (by omega), put_other _ _ (by omega), put_other _ _ (by omega)]
    exact h.ww
  have l4 := (p4.at_ 2 _ e2)
  have p5 := p4.put k5 2 (fun b _ s => l4.2 b s) ⟨22, 1, uW', t + 1, vW ++ [c]⟩ g5 (fun g hg hlt => by
    rcases o5 with q | ⟨z, q, hz⟩
    · rw [q] at hg; exact l4.2 g hg
    · rw [q] at hg; cases hg; omega)
  refine ⟨_, _, p5, ?_, put_same _ _ _, by simp [h.lg], by simp [h.lw], fun k hk => ?_, fun k hk => ?_, fun _ _ => rfl⟩
  · rw [put_other _ _ (by omega), put_other _ _ (by omega), put_same]
  · rw [put_other _ _ (by omega), put_other _ _ (by omega), put_other _ _ (by omega)]
    by_cases q : k < vG.length
    · rw [put_other _ _ (by have := h.lg; omega), h.eg k q]
      simp [List.getElem_append_left q]
    · have : k = t := by have := h.lg; simp at hk; omega
      subst this
      rw [put_same]
      congr 2
      rw [List.getElem_append_right (by have := h.lg; omega)]
      simp
  · rw [put_other _ _ (by omega)]
    by_cases q : k < vW.length
    · rw [put_other _ _ (by have := h.lw; omega), put_other _ _ (by omega), put_other _ _ (by omega), h.ew k q]
      simp [List.getElem_append_left q]
    · have : k = t := by have := h.lw; simp at hk; omega
      subst this
      rw [put_same]
      congr 2
      rw [List.getElem_append_right (by have := h.lw; omega)]
      simp
/-- An element of a got list is written over. -/
theorem Inv.store (h : Inv w B lab I uG uW vG vW R X t) {k i : Nat} (hk : k < vG.length) (hi : i < (R k).length) (d : RZ) {g c : Nat} (hv : vG[k] = .slice (some ⟨g, 0, none⟩) (R k).length c) :
    ∃ lab' I', Inv (w.setCells g (i * 17) (rzA d).toList) B lab' I' uG uW vG vW R (fun j => if j = k then (X k).set i d else X j) t := by
  have hx := h.lx k (by have := h.lg; omega)
  have hit := h.itG hk
  rw [hv] at hit
  have r2 := grow_setCells (rzA d).toList (i * 17) w _ hit
  rw [setL_rz (by rw [hx]; exact hi)] at r2
  have kk := keep_setCells g (rzA d).toList (i * 17) w
  have hl := (h.own.at_ _ _ (h.eg k hk)).2 g (by rw [hv]; rfl)
  have p := h.own.put kk (10 + 3 * k) (fun b _ s => by rw [s]; exact hl) ⟨53, 17, vG[k], (R k).length, rzs ((X k).set i d)⟩ (by rw [hv]; exact r2) (fun z hz _ => by rw [hv] at hz; cases hz; exact hl)
  refine ⟨_, _, p, ?_, ?_, h.lg, h.lw, fun j hj => ?_, fun j hj => ?_, fun j hj => ?_⟩
  · rw [put_other _ _ (by omega)]; exact h.g
  · rw [put_other _ _ (by omega)]; exact h.ww
  · by_cases q : j = k
    · subst q
      rw [put_same]
      simp
    · rw [put_other _ _ (by omega), h.eg j hj]
      simp [q]
  · rw [put_other _ _ (by omega)]; exact h.ew j hj
  · by_cases q : j = k
    · subst q
      simp [hx]
    · simp [q, h.lx j hj]
end
theorem vals {vG : List Value} {n : Nat → Nat} (h : ∀ k (hk : k < vG.length), ∃ a c, vG[k] = .slice a (n k) c) : ∃ (A : Nat → Option Addr) (C : Nat → Nat), ∀ k, k < vG.length → vG[k]? = some (.slice (A k) (n k) (C k)) := by
  induction vG generalizing n with
  | nil => exact ⟨fun _ => none, fun _ => 0, fun k hk => by cases hk⟩
  | cons v r ih =>
    obtain ⟨A, C, q⟩ := ih (n := fun k => n (k + 1)) (fun k hk => by have := h (k + 1) (by simpa using hk); simpa using this)
    obtain ⟨a, c, e⟩ := h 0 (by simp)
    simp only [List.getElem_cons_zero] at e
    refine ⟨fun k => match k with | 0 => a | k + 1 => A k, fun k => match k with | 0 => c | k + 1 => C k, fun k hk => ?_⟩
    cases k with
    | zero => simp [e]
    | succ k => simpa using q k (by simpa using hk)
/-- How the law's lists stand while they are made longer. -/
structure Inv5 (w : World) (B : Nat) (lab : Nat → Nat) (I : Nat → Option It) (uG uM : Value) (vG vM : List Value) (A : Nat → Option Addr) (C n : Nat → Nat) (T k : Nat) : Prop where
  own : Own w B lab I
  g : I 1 = some ⟨22, 1, uG, T, vG⟩
  m : I 3 = some ⟨22, 1, uM, k, vM⟩
  lm : vM.length = k
  done : ∀ j (h : j < vM.length), I (10 + 3 * j) = some ⟨53, 17, vM[j], n j + 1, rzs (marks j (n j + 1))⟩
  todo : ∀ j, k ≤ j → j < T → I (10 + 3 * j) = some ⟨53, 17, .slice (A j) (n j) (C j), n j, rzs (marks j (n j))⟩
  told : ∀ j, j < k → Tls w lab (10 + 3 * j) (A j) (rzs (marks j (n j)))
section
variable {w w' : World} {B : Nat} {lab : Nat → Nat} {I : Nat → Option It} {uG uM : Value} {vG vM : List Value} {A : Nat → Option Addr} {C n : Nat → Nat} {T k : Nat}
theorem Inv5.below (h : Inv5 w B lab I uG uM vG vM A C n T k) (hb : Below w.heap.size w w') : Inv5 w' B lab I uG uM vG vM A C n T k := { h with own := h.own.below hb, told := fun j hj => (h.told j hj).below hb }
theorem Inv5.rowG (h : Inv5 w B lab I uG uM vG vM A C n T k) : GRow w B 22 1 uG T vG := (h.own.at_ 1 _ h.g).1
theorem Inv5.rowM (h : Inv5 w B lab I uG uM vG vM A C n T k) : GRow w B 22 1 uM k vM := (h.own.at_ 3 _ h.m).1
theorem Inv5.cur (h : Inv5 w B lab I uG uM vG vM A C n T k) (hk : k < T) : GRow w B 53 17 (.slice (A k) (n k) (C k)) (n k) (rzs (marks k (n k))) := (h.own.at_ _ _ (h.todo k (Nat.le_refl _) hk)).1
theorem Inv5.mKeep {w2 : World} (h : Inv5 w B lab I uG uM vG vM A C n T k) (hk : k < T) (k2 : Keep (fun z => (Value.slice (A k) (n k) (C k)).ownBlock = some z) w w2) : GRow w2 B 22 1 uM k vM :=
  GRow.keep h.rowM k2 (fun g hg s => by
    have h1 := (h.own.at_ 3 _ h.m).2 g hg
    have h2 := (h.own.at_ _ _ (h.todo k (Nat.le_refl _) hk)).2 g s
    omega)
theorem Inv5.gKeep {w2 : World} (h : Inv5 w B lab I uG uM vG vM A C n T k) (hk : k < T) (k2 : Keep (fun z => (Value.slice (A k) (n k) (C k)).ownBlock = some z) w w2) : GRow w2 B 22 1 uG T vG :=
  GRow.keep h.rowG k2 (fun g hg s => by
    have h1 := (h.own.at_ 1 _ h.g).2 g hg
    have h2 := (h.own.at_ _ _ (h.todo k (Nat.le_refl _) hk)).2 g s
    omega)
theorem Inv5.more (h : Inv5 w B lab I uG uM vG vM A C n T k) (hk : k < T) {w2 w2a w3 : World} {v uM' : Value} (hx : GRow w2 B 53 17 v (n k + 1) (rzs (marks k (n k + 1)))) (k2 : Keep (fun z => (Value.slice (A k) (n k) (C k)).ownBlock = some z) w w2)
    (o2 : v.ownBlock = (Value.slice (A k) (n k) (C k)).ownBlock ∨ ∃ z, v.ownBlock = some z ∧ w.heap.size ≤ z) (ht : Lies w2 (A k) (rzs (marks k (n k)))) (b2 : Below w2.heap.size w2 w2a)
    (g3 : GRow w3 B 22 1 uM' (k + 1) (vM ++ [v])) (k3 : Keep (fun z => uM.ownBlock = some z) w2a w3) (o3 : uM'.ownBlock = uM.ownBlock ∨ ∃ z, uM'.ownBlock = some z ∧ w2a.heap.size ≤ z) :
    ∃ lab' I', Inv5 w3 B lab' I' uG uM' vG (vM ++ [v]) A C n T (k + 1) := by
  have hcur := h.own.at_ _ _ (h.todo k (Nat.le_refl _) hk)
  have hl := hcur.2
  simp only at hl
  have p2 := h.own.put k2 (10 + 3 * k) (fun b _ s => hl b s) ⟨53, 17, v, n k + 1, rzs (marks k (n k + 1))⟩ hx (fun g hg hlt => by
    rcases o2 with q | ⟨z, q, hz⟩
    · rw [q] at hg; exact hl g hg
    · rw [q] at hg; cases hg; omega)
  have p2a := p2.below b2
  have e3 : put I (10 + 3 * k) ⟨53, 17, v, n k + 1, rzs (marks k (n k + 1))⟩ 3 = some ⟨22, 1, uM, k, vM⟩ := by rw [put_other _ _ (by omega)]; exact h.m
  have l3 := (p2a.at_ 3 _ e3).2
  simp only at l3
  have p3 := p2a.put k3 3 (fun b _ s => l3 b s) ⟨22, 1, uM', k + 1, vM ++ [v]⟩ g3 (fun g hg hlt => by
    rcases o3 with q | ⟨z, q, hz⟩
    · rw [q] at hg; exact l3 g hg
    · rw [q] at hg; cases hg; omega)
  have told2 : ∀ j, j < k + 1 → Tls w2 (relab lab w.heap.size (10 + 3 * k)) (10 + 3 * j) (A j) (rzs (marks j (n j))) := by
    intro j hj
    by_cases q : j < k
    · exact (h.told j q).keep k2 (fun b _ s => hl b s) (by omega)
    · obtain rfl : j = k := by omega
      refine ⟨ht, fun hne ad had => ?_⟩
      have hb : ad.block < w.heap.size := by
        obtain ⟨a, c, e, li, _⟩ := GRow.lies hcur.1
        cases e
        rcases li with r | ⟨b, off, e, hb, _⟩
        · exact absurd r hne
        · rw [had] at e; cases e; exact hb
      unfold relab
      rw [if_pos hb]
      exact hl ad.block (by rw [had]; rfl)
  refine ⟨_, _, p3, ?_, put_same _ _ _, by simp [h.lm], fun j hj => ?_, fun j h1 h2 => ?_, fun j hj => ?_⟩
  · rw [put_other _ _ (by omega), put_other _ _ (by omega)]; exact h.g
  · rw [put_other _ _ (by omega)]
    by_cases q : j < vM.length
    · rw [put_other _ _ (by have := h.lm; omega), h.done j q]
      simp [List.getElem_append_left q]
    · have : j = k := by have := h.lm; simp at hj; omega
      subst this
      rw [put_same]
      congr 2
      rw [List.getElem_append_right (by have := h.lm; omega)]
      simp
  · rw [put_other _ _ (by omega), put_other _ _ (by omega)]
    exact h.todo j (by omega) h2
  · exact ((told2 j hj).below b2).keep k3 (fun b _ s => l3 b s) (by omega)
end
theorem Inv5.start {w : World} {B : Nat} {lab : Nat → Nat} {I : Nat → Option It} {uG uW : Value} {vG vW : List Value} {R X : Nat → List RZ} {A : Nat → Option Addr} {C n : Nat → Nat} {T : Nat} (h : Inv w B lab I uG uW vG vW R X T) (hX : ∀ j, j < T → X j = marks j (n j)) (hn : ∀ k, (R k).length = n k)
    (hg : ∀ k (hk : k < vG.length), vG[k] = .slice (A k) (n k) (C k)) : ∃ lab' I', Inv5 w B lab' I' uG (.slice none 0 0) vG [] A C n T 0 := by
  have p := h.own.put (S := fun _ => False) (Keep.refl _ w) 3 (fun _ _ f => f.elim) ⟨22, 1, .slice none 0 0, 0, []⟩ (World.ownsRow_nil _ _ _ _) (fun g hg _ => by cases hg)
  refine ⟨_, _, p, ?_, put_same _ _ _, rfl, fun j hj => (by simp at hj), fun j _ h2 => ?_, fun j hj => (by omega)⟩
  · rw [put_other _ _ (by omega)]; exact h.g
  · have hl := h.lg
    rw [put_other _ _ (by omega), h.eg j (by omega), hg j (by omega), hX j h2, hn]
theorem row_cell {w : World} {B : Nat} {a : Option Addr} {n c : Nat} {xs : List Value} (h : GRow w B 22 1 (.slice a n c) n xs) {k : Nat} {v : Value} (hk : xs[k]? = some v) : ∃ b, a = some ⟨b, 0, none⟩ ∧ b < w.heap.size ∧ w.cell? ⟨b, k, none⟩ = some v := by
  obtain ⟨a', c', e, li, _, _, _, h0⟩ := GRow.lies h
  cases e
  obtain ⟨b, off, e2, hb, hc⟩ := li.cellAt k v hk
  obtain ⟨q1, q2⟩ := h0 _ e2
  simp only at q1
  subst q1
  rw [Nat.zero_add] at hc
  exact ⟨b, e2, hb, hc⟩
theorem marks_at {w : World} {a : Option Addr} {k n i : Nat} (h : Lies w a (rzs (marks k n))) (hi : i < n) : ∃ b off, a = some ⟨b, off, none⟩ ∧ b < w.heap.size ∧ w.cell? ⟨b, off + i * 17, none⟩ = some (.int .i64 (-(k : Int))) := by
  obtain ⟨b, off, e, hb, hc⟩ := rz_at h i (by rw [marks_len]; exact hi)
  have e1 : (marks k n)[i]'(by rw [marks_len]; exact hi) = mrk k := by simp [marks]
  have c0 := hc 0 (.int .i64 (-(k : Int))) (by rw [e1]; rfl)
  rw [Nat.add_zero] at c0
  exact ⟨b, off, e, hb, c0⟩
theorem wrapNeg {k : Nat} (h : k ≤ 1000) : IntKind.i64.wrap (-(k : Int)) = -(k : Int) ∧ wrap64 (-(k : Int)) = -(k : Int) := ⟨by rw [IntKind.wrap_i64]; omega, wrapI (by unfold I64; omega)⟩
end Go.Proofs.YtehbpmibllpkhaaGreatDoor
