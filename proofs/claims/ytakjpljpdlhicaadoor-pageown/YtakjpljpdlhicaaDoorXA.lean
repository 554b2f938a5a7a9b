import Derived.Test.YtakjpljpdlhicaaDoorPg1
import Derived.Test.YtakjpljpdlhicaaDoorPg16
import Derived.Deep.RegionHeld
namespace Go.Proofs.YtakjpljpdlhicaaDoor
open Go.RowKit Go.QK Go.Pg
set_option linter.all false
set_option maxRecDepth 100000
/-- 'append(v, y)' of one element: the old list's cells are as they were. -/
theorem run_moreR {t e : TypeId} {z : Value} {size bytes : Nat} (hu : Tryd.prog.underlying t = some (.slice e)) (hin : (Tryd.prog.info? e).map (fun i => (i.zero, i.size, i.bytes)) = some (some z, size, bytes)) (hz : z.cells.size = size) (hs : 0 < size) (hby : bytes ≤ 100) (ty : TypeId) (x : World)
    (B : Nat) (v : Value) (n : Nat) (xs : List Value) (hown : GRow x B e size v n xs) (ad : Addr) (m cc : Nat) (news : List Value) (hl : news.length = m * size) (hnews : Lies x (some ad) news) (h1 : ∀ u ∈ news, u.oneCell' = true) (h63 : n + m ≤ 2000000) (hB : B ≤ x.heap.size) :
    ∃ v' x', (Builtin.append_ #[t, t] ty #[v, .slice (some ad) m cc]).run Tryd.prog x = .ok v' x' ∧ GRow x' B e size v' (n + m) (xs ++ news) ∧ x.grownBy x' v.ownBlock ∧ (v'.ownBlock = v.ownBlock ∨ v'.ownBlock = some x.heap.size) ∧ (∀ a c, v = .slice a n c → Lies x' a xs) := by
  obtain ⟨v', x', hr, q2, q3, q4⟩ := run_pushR hu hin hz hs hby ty x B v n xs hown ad m cc news hl hnews h1 h63 hB
  refine ⟨v', x', hr, q2, q3, q4, ?_⟩
  intro a c hv
  obtain ⟨i0, hi, h0, h2, h3⟩ := info_of hin
  have hnews' : ∀ j u, news[j]? = some u → x.cell? (ad.add j) = some u := by
    intro j u hj
    obtain ⟨b, off, e1, _, hc⟩ := hnews.cellAt j u hj
    cases e1
    rw [addr_add]
    exact hc
  rcases hown.2 with ⟨q, hn⟩ | ⟨g, cap, cur, q, hbg, hg, hnc, hcm, hcs, htake⟩
  · have := hown.1
    rw [hn] at this
    exact .inl (List.eq_nil_of_length_eq_zero (by omega))
  · rw [q] at hv
    cases hv
    by_cases hroom : n + m ≤ c
    · have hfit : n * i0.size + news.length ≤ cur.size := by
        rw [h2, hl, hcs]
        have : (n + m) * size ≤ c * size := Nat.mul_le_mul hroom (Nat.le_refl _)
        rw [Nat.add_mul] at this
        omega
      have hq := run_append_room (P := Tryd.prog) x t ty e i0 hu hi g n c cur hg ad m cc news (by rw [h2]; exact hl) hnews' h1 hroom hfit
      rw [← q, hr] at hq
      simp only [Result.ok.injEq] at hq
      rw [hq.1] at q2
      obtain ⟨a', c', e1, hli, _⟩ := GRow.lies q2
      cases e1
      rcases hli with hl0 | ⟨b, off, e2, hlt, hc⟩
      · exact .inl (List.append_eq_nil_iff.1 hl0).1
      · refine .inr ⟨b, off, e2, hlt, fun i hi => ?_⟩
        have := hc i (by rw [List.length_append]; omega)
        rw [this, List.getElem_append_left hi]
    · have hq := run_append_grow (P := Tryd.prog) x t ty e i0 z hu hi h0 ⟨g, 0, none⟩ n c xs (by rw [h2]; exact hown.1) (World.ownsRow.cells hown (g := g) (by rw [q]; rfl)) ad m cc news (by rw [h2]; exact hl) hnews' (by omega) (by omega) (growslice_fits (by omega) (by
        rw [h3]
        have : (n + m) * bytes ≤ 2000000 * 100 := Nat.mul_le_mul h63 hby
        omega))
      rw [← q, hr] at hq
      simp only [Result.ok.injEq] at hq
      obtain ⟨a', c', e1, hli, _⟩ := GRow.lies hown
      rw [q] at e1
      cases e1
      rw [hq.2]
      exact hli.below ((Below.refl _ x).drew.alloc (Nat.le_refl _) _)
/-! Rows of one's own, each under a label. -/
structure It where
  e : TypeId
  size : Nat
  v : Value
  n : Nat
  xs : List Value
structure Own (w : World) (B : Nat) (lab : Nat → Nat) (I : Nat → Option It) : Prop where
  at_ : ∀ k it, I k = some it → GRow w B it.e it.size it.v it.n it.xs ∧ ∀ g, it.v.ownBlock = some g → lab g = k
def put (I : Nat → Option It) (k : Nat) (it : It) : Nat → Option It := fun j => if j = k then some it else I j
theorem put_same (I : Nat → Option It) (k : Nat) (it : It) : put I k it k = some it := if_pos rfl
theorem put_other (I : Nat → Option It) {k j : Nat} (it : It) (h : j ≠ k) : put I k it j = I j := if_neg h
def relab (lab : Nat → Nat) (n k : Nat) : Nat → Nat := fun z => if z < n then lab z else k
section
variable {w w' : World} {B : Nat} {lab : Nat → Nat} {I : Nat → Option It} {S : Nat → Prop}
theorem Own.below (h : Own w B lab I) (hb : Below w.heap.size w w') : Own w' B lab I := ⟨fun k it hi => ⟨GRow.below (h.at_ k it hi).1 hb, (h.at_ k it hi).2⟩⟩
theorem Own.put (h : Own w B lab I) (hk : Keep S w w') (k : Nat) (hS : ∀ b, b < w.heap.size → S b → lab b = k) (it : It) (hr : GRow w' B it.e it.size it.v it.n it.xs) (hg : ∀ g, it.v.ownBlock = some g → g < w.heap.size → lab g = k) : Own w' B (relab lab w.heap.size k) (Proofs.YtakjpljpdlhicaaDoor.put I k it) := by
  refine ⟨fun j jt hj => ?_⟩
  by_cases q : j = k
  · subst q
    rw [put_same] at hj
    cases hj
    refine ⟨hr, fun g hgg => ?_⟩
    unfold relab
    by_cases r : g < w.heap.size
    · rw [if_pos r]; exact hg g hgg r
    · rw [if_neg r]
  · rw [put_other I it q] at hj
    obtain ⟨h1, h2⟩ := h.at_ j jt hj
    refine ⟨GRow.keep h1 hk (fun g hgg s => ?_), fun g hgg => ?_⟩
    · have hlt := (World.ownsRow.lt h1 g hgg).2
      have := hS g hlt s
      rw [h2 g hgg] at this
      exact q this
    · unfold relab
      rw [if_pos (World.ownsRow.lt h1 g hgg).2]
      exact h2 g hgg
theorem Own.empty (w : World) (B : Nat) (lab : Nat → Nat) : Own w B lab (fun _ => none) := ⟨fun _ _ h => by cases h⟩
end
/-- Cells that a slice leads to, in a block with the label k. -/
structure Told (w : World) (lab : Nat → Nat) (k : Nat) (a : Option Addr) (cs : List Value) : Prop where
  li : Lies w a cs
  lab_ : cs ≠ [] → ∀ ad, a = some ad → lab ad.block = k
theorem Told.below {w w' : World} {lab : Nat → Nat} {k : Nat} {a : Option Addr} {cs : List Value} (h : Told w lab k a cs) (hb : Below w.heap.size w w') : Told w' lab k a cs := ⟨h.li.below hb, h.lab_⟩
theorem Told.keep {w w' : World} {lab : Nat → Nat} {k j : Nat} {a : Option Addr} {cs : List Value} {S : Nat → Prop} (h : Told w lab k a cs) (hk : Keep S w w') (hS : ∀ b, b < w.heap.size → S b → lab b = j) (hj : k ≠ j) : Told w' (relab lab w.heap.size j) k a cs := by
  by_cases q : cs = []
  · exact ⟨.inl q, fun r => absurd q r⟩
  · rcases h.li with r | ⟨b, off, e, hb, hc⟩
    · exact absurd r q
    · have hl := h.lab_ q _ e
      simp only at hl
      refine ⟨.inr ⟨b, off, e, Nat.lt_of_lt_of_le hb hk.size, fun i hi => (hk.cell (p := ⟨b, off + i, none⟩) hb (fun s => hj (by rw [← hl]; exact hS b hb s))).trans (hc i hi)⟩, fun _ ad had => ?_⟩
      rw [e] at had
      cases had
      unfold relab
      rw [if_pos hb]
      exact hl
theorem lies_one (w : World) (v : Value) (t : TypeId) : Lies (w.alloc (.cells #[v] t)) (some ⟨w.heap.size, 0, none⟩) [v] := by
  have h := Cells.new w #[v] t
  refine .inr ⟨w.heap.size, 0, rfl, h.1, fun i hi => ?_⟩
  have q := (h.2 i (by simpa using hi)).1
  rw [Nat.zero_add]
  exact q
/-! Rows of different elements lie apart. -/
theorem grow_ty {w : World} {B e size n g : Nat} {v : Value} {xs : List Value} (h : GRow w B e size v n xs) (hg : v.ownBlock = some g) : ∃ cur, w.heap[g]? = some (.cells cur e (0, 0)) := by
  rcases h.2 with ⟨q, _⟩ | ⟨g', cap, cur, q, _, h2, _⟩
  · rw [q] at hg; cases hg
  · rw [q] at hg; cases hg; exact ⟨cur, h2⟩
theorem grow_apart {w : World} {B e size n B' e' size' n' : Nat} {v v' : Value} {xs xs' : List Value} (h : GRow w B e size v n xs) (h' : GRow w B' e' size' v' n' xs') (he : e ≠ e') : ∀ g, v.ownBlock = some g → v'.ownBlock ≠ some g := by
  intro g q q'
  obtain ⟨c1, e1⟩ := grow_ty h q
  obtain ⟨c2, e2⟩ := grow_ty h' q'
  rw [e1] at e2
  cases e2
  exact he rfl
theorem grow_open {w : World} {B e size n : Nat} {v : Value} {xs : List Value} (h : GRow w B e size v n xs) (hn : 0 < n) : ∃ g c, v = .slice (some ⟨g, 0, none⟩) n c ∧ n ≤ c := by
  rcases h.2 with ⟨_, q⟩ | ⟨g', cap, cur, q, _, _, h3, _⟩
  · omega
  · exact ⟨g', cap, q, h3⟩
/-- Two rows that one call has made. -/
def relab2 (lab : Nat → Nat) (n : Nat) (v : Value) (k1 k2 : Nat) : Nat → Nat := fun z => if z < n then lab z else if v.ownBlock = some z then k2 else k1
section
variable {w w' : World} {B : Nat} {lab : Nat → Nat} {I : Nat → Option It} {S : Nat → Prop}
theorem Own.put2 (h : Own w B lab I) (hb : Below w.heap.size w w') (k1 k2 : Nat) (it1 it2 : It) (hr1 : GRow w' B it1.e it1.size it1.v it1.n it1.xs) (hr2 : GRow w' B it2.e it2.size it2.v it2.n it2.xs) (n1 : ∀ g, it1.v.ownBlock = some g → w.heap.size ≤ g) (n2 : ∀ g, it2.v.ownBlock = some g → w.heap.size ≤ g) (hne : it1.e ≠ it2.e) :
    Own w' B (relab2 lab w.heap.size it2.v k1 k2) (Proofs.YtakjpljpdlhicaaDoor.put (Proofs.YtakjpljpdlhicaaDoor.put I k1 it1) k2 it2) := by
  have ha := grow_apart hr1 hr2 hne
  refine ⟨fun j jt hj => ?_⟩
  by_cases q2 : j = k2
  · subst q2
    rw [put_same] at hj
    cases hj
    refine ⟨hr2, fun g hg => ?_⟩
    unfold relab2
    rw [if_neg (by have := n2 g hg; omega), if_pos hg]
  · rw [put_other _ _ q2] at hj
    by_cases q1 : j = k1
    · subst q1
      rw [put_same] at hj
      cases hj
      refine ⟨hr1, fun g hg => ?_⟩
      unfold relab2
      rw [if_neg (by have := n1 g hg; omega), if_neg (ha g hg)]
    · rw [put_other _ _ q1] at hj
      obtain ⟨h1, h2⟩ := h.at_ j jt hj
      refine ⟨GRow.below h1 hb, fun g hg => ?_⟩
      unfold relab2
      rw [if_pos (World.ownsRow.lt h1 g hg).2]
      exact h2 g hg
/-- A variable under a label of its own. -/
structure Bx (w : World) (lab : Nat → Nat) (I : Nat → Option It) (L k : Nat) (vs : List Value) : Prop where
  cells : Cells w L vs
  lb : lab L = k
  no : I k = none
variable {L k : Nat} {vs : List Value}
theorem Bx.below (h : Bx w lab I L k vs) (hb : Below w.heap.size w w') : Bx w' lab I L k vs := ⟨h.cells.below hb, h.lb, h.no⟩
theorem Bx.put (h : Bx w lab I L k vs) (hk : Keep S w w') (key : Nat) (hS : ∀ b, b < w.heap.size → S b → lab b = key) (hne : k ≠ key) (it : It) : Bx w' (relab lab w.heap.size key) (Proofs.YtakjpljpdlhicaaDoor.put I key it) L k vs :=
  ⟨h.cells.keep hk (fun s => hne (by rw [← h.lb]; exact hS L h.cells.1 s)), by unfold relab; rw [if_pos h.cells.1]; exact h.lb, by rw [put_other _ _ hne]; exact h.no⟩
theorem Bx.put2 (h : Bx w lab I L k vs) (hb : Below w.heap.size w w') (k1 k2 : Nat) (h1 : k ≠ k1) (h2 : k ≠ k2) (it1 it2 : It) : Bx w' (relab2 lab w.heap.size it2.v k1 k2) (Proofs.YtakjpljpdlhicaaDoor.put (Proofs.YtakjpljpdlhicaaDoor.put I k1 it1) k2 it2) L k vs :=
  ⟨h.cells.below hb, by unfold relab2; rw [if_pos h.cells.1]; exact h.lb, by rw [put_other _ _ h2, put_other _ _ h1]; exact h.no⟩
theorem Own.cell (h : Own w B lab I) (hb : Bx w lab I L k vs) (j : Nat) (v : Value) : Own (w.setCell ⟨L, j, none⟩ v) B lab I := by
  have kk : Keep (fun z => z = L) w (w.setCell ⟨L, j, none⟩ v) := Keep.setCell (S := fun z => z = L) (Keep.refl _ _) (fun _ => rfl) _
  refine ⟨fun m it hm => ⟨GRow.keep (h.at_ m it hm).1 kk (fun g hg s => ?_), (h.at_ m it hm).2⟩⟩
  have := (h.at_ m it hm).2 g hg
  rw [s, hb.lb] at this
  subst this
  rw [hb.no] at hm
  cases hm
theorem Bx.cell (h : Bx w lab I L k vs) {j : Nat} (hj : j < vs.length) (v : Value) : Bx (w.setCell ⟨L, j, none⟩ v) lab I L k (vs.set j v) := ⟨h.cells.stored hj v, h.lb, h.no⟩
theorem Bx.other {L' k' : Nat} {vs' : List Value} (h : Bx w lab I L k vs) (h' : Bx w lab I L' k' vs') (hne : k ≠ k') (j : Nat) (v : Value) : Bx (w.setCell ⟨L', j, none⟩ v) lab I L k vs := ⟨h.cells.other (fun e => hne (by rw [← h.lb, ← h'.lb, e])), h.lb, h.no⟩
/-- A row is made longer by an append. -/
theorem Own.push {t e : TypeId} {z : Value} {size bytes : Nat} (hu : Tryd.prog.underlying t = some (.slice e)) (hin : (Tryd.prog.info? e).map (fun i => (i.zero, i.size, i.bytes)) = some (some z, size, bytes)) (hz : z.cells.size = size) (hs : 0 < size) (hby : bytes ≤ 100) (ty : TypeId)
    (h : Own w B lab I) (key : Nat) {v : Value} {n : Nat} {xs : List Value} (hi : I key = some ⟨e, size, v, n, xs⟩) (ad : Addr) (m c : Nat) (news : List Value) (hl : news.length = m * size) (hnews : Lies w (some ad) news) (h1 : ∀ u ∈ news, u.oneCell' = true) (h63 : n + m ≤ 2000000) (hB : B ≤ w.heap.size) :
    ∃ v' x', (Builtin.append_ #[t, t] ty #[v, .slice (some ad) m c]).run Tryd.prog w = .ok v' x' ∧ Own x' B (relab lab w.heap.size key) (Proofs.YtakjpljpdlhicaaDoor.put I key ⟨e, size, v', n + m, xs ++ news⟩) ∧ Keep (fun g => v.ownBlock = some g) w x' ∧ (∀ b, b < w.heap.size → v.ownBlock = some b → lab b = key) := by
  obtain ⟨q1, q2⟩ := h.at_ key _ hi
  obtain ⟨v', x', hr, g1, g2, g3⟩ := run_pushR hu hin hz hs hby ty w B v n xs q1 ad m c news hl hnews h1 h63 hB
  have kk : Keep (fun g => v.ownBlock = some g) w x' := (Keep.refl _ w).grown g2 (fun g hg _ => hg)
  have hl : ∀ b, b < w.heap.size → v.ownBlock = some b → lab b = key := fun b _ hb => q2 b hb
  refine ⟨v', x', hr, h.put kk key hl ⟨e, size, v', n + m, xs ++ news⟩ g1 (fun g hg hlt => ?_), kk, hl⟩
  rcases g3 with q | q
  · rw [q] at hg; exact q2 g hg
  · rw [q] at hg; cases hg; omega
end
theorem put_self {I : Nat → Option It} {k : Nat} {it : It} (h : I k = some it) : put I k it = I := by
  funext j
  unfold put
  split
  · rename_i e; rw [e, h]
  · rfl
theorem put_put (I : Nat → Option It) (k : Nat) (a b : It) : put (put I k a) k b = put I k b := by
  funext j
  unfold put
  split <;> rfl
end Go.Proofs.YtakjpljpdlhicaaDoor

set_option linter.all false
namespace Go.Proofs.YtakjpljpdlhicaaDoor
open Go.RowKit Go.QK Go.Pg
set_option maxRecDepth 100000
/-! What the lists of PageOwn hold: handles and contents. -/
def pgC (x : PageM × At) : List Value := [.int .i64 x.1.num, .int .i64 x.1.lsn, .slice x.2.a x.1.cs.length x.2.c, .slice x.2.b x.1.gs.length x.2.d]
theorem pgC_length (x : PageM × At) : (pgC x).length = 4 := rfl
abbrev vC (x : PageM × At) : Value := .slice x.2.a x.1.cs.length x.2.c
abbrev vG (x : PageM × At) : Value := .slice x.2.b x.1.gs.length x.2.d
abbrev itC (x : PageM × At) : It := ⟨57, 5, vC x, x.1.cs.length, ctrsC x.1.cs⟩
abbrev itG (x : PageM × At) : It := ⟨59, 2, vG x, x.1.gs.length, grpsC x.1.gs⟩
abbrev itB (v : Value) (l : List Nat) : It := ⟨5, 1, v, 1024, (ints l).map (Value.int .u8)⟩
abbrev strs (ws : List (List Nat)) : List Value := ws.map (fun l => .string (strOf l))
structure Ct (I : Nat → Option It) (vB vW vP vR : Value) (bs : List (Value × List Nat)) (ws : List (List Nat)) (ps qs : List (PageM × At)) : Prop where
  rB : I 1 = some ⟨22, 1, vB, bs.length, bs.map (·.1)⟩
  rW : I 2 = some ⟨9, 1, vW, ws.length, strs ws⟩
  rP : I 3 = some ⟨27, 4, vP, ps.length, rowsC pgC ps⟩
  rR : I 4 = some ⟨38, 4, vR, qs.length, rowsC pgC qs⟩
  iB : ∀ i (h : i < bs.length), I (100 + i) = some (itB bs[i].1 bs[i].2)
  iC : ∀ i (h : i < ps.length), I (200 + 2 * i) = some (itC ps[i]) ∧ I (201 + 2 * i) = some (itG ps[i])
  jC : ∀ i (h : i < qs.length), I (300 + 2 * (i / 4)) = some (itC qs[i]) ∧ I (301 + 2 * (i / 4)) = some (itG qs[i])
  lB : ∀ x ∈ bs, x.2.length = 1024
  lP : ∀ x ∈ ps, x.1.cs.length ≤ 1000 ∧ x.1.gs.length ≤ 1000
  n1 : bs.length ≤ 90
  n2 : ps.length ≤ 40
  n3 : qs.length ≤ 40
section
variable {I : Nat → Option It} {vB vW vP vR : Value} {bs : List (Value × List Nat)} {ws : List (List Nat)} {ps qs : List (PageM × At)}
theorem Ct.put (h : Ct I vB vW vP vR bs ws ps qs) (key : Nat) (it : It) (h0 : 4 < key) (h1 : key < 100 + bs.length → key < 100) (h2 : key < 200 + 2 * ps.length → key < 200) (h3 : key < 300 + 2 * ((qs.length + 3) / 4) → key < 300) : Ct (Proofs.YtakjpljpdlhicaaDoor.put I key it) vB vW vP vR bs ws ps qs := by
  have m1 := h.n1
  have m2 := h.n2
  have m3 := h.n3
  refine ⟨?_, ?_, ?_, ?_, fun i hi => ?_, fun i hi => ⟨?_, ?_⟩, fun i hi => ⟨?_, ?_⟩, h.lB, h.lP, m1, m2, m3⟩
  · rw [put_other _ _ (by omega)]; exact h.rB
  · rw [put_other _ _ (by omega)]; exact h.rW
  · rw [put_other _ _ (by omega)]; exact h.rP
  · rw [put_other _ _ (by omega)]; exact h.rR
  · rw [put_other _ _ (by omega)]; exact h.iB i hi
  · rw [put_other _ _ (by omega)]; exact (h.iC i hi).1
  · rw [put_other _ _ (by omega)]; exact (h.iC i hi).2
  · rw [put_other _ _ (by omega)]; exact (h.jC i hi).1
  · rw [put_other _ _ (by omega)]; exact (h.jC i hi).2
theorem Ct.pushB (h : Ct I vB vW vP vR bs ws ps qs) {v v' : Value} {l : List Nat} (hi : I (100 + bs.length) = some (itB v l)) (hl : l.length = 1024) (hn : bs.length < 90) : Ct (Proofs.YtakjpljpdlhicaaDoor.put I 1 ⟨22, 1, v', bs.length + 1, bs.map (·.1) ++ [v]⟩) v' vW vP vR (bs ++ [(v, l)]) ws ps qs := by
  refine ⟨by rw [put_same]; simp, ?_, ?_, ?_, fun i hi' => ?_, fun i hi => ⟨?_, ?_⟩, fun i hi => ⟨?_, ?_⟩, ?_, h.lP, by simp; omega, h.n2, h.n3⟩
  · rw [put_other _ _ (by omega)]; exact h.rW
  · rw [put_other _ _ (by omega)]; exact h.rP
  · rw [put_other _ _ (by omega)]; exact h.rR
  · rw [put_other _ _ (by omega)]
    by_cases q : i < bs.length
    · rw [h.iB i q]; simp [List.getElem_append_left q]
    · obtain rfl : i = bs.length := by simp at hi'; omega
      rw [hi]; simp
  · rw [put_other _ _ (by omega)]; exact (h.iC i hi).1
  · rw [put_other _ _ (by omega)]; exact (h.iC i hi).2
  · rw [put_other _ _ (by omega)]; exact (h.jC i hi).1
  · rw [put_other _ _ (by omega)]; exact (h.jC i hi).2
  · intro x hx
    rcases List.mem_append.1 hx with hx | hx
    · exact h.lB x hx
    · rw [List.mem_singleton.1 hx]; exact hl
theorem Ct.pushW (h : Ct I vB vW vP vR bs ws ps qs) {v' : Value} (l : List Nat) : Ct (Proofs.YtakjpljpdlhicaaDoor.put I 2 ⟨9, 1, v', ws.length + 1, strs ws ++ [.string (strOf l)]⟩) vB v' vP vR bs (ws ++ [l]) ps qs := by
  refine ⟨?_, by rw [put_same]; simp [strs], ?_, ?_, fun i hi => ?_, fun i hi => ⟨?_, ?_⟩, fun i hi => ⟨?_, ?_⟩, h.lB, h.lP, h.n1, h.n2, h.n3⟩
  · rw [put_other _ _ (by omega)]; exact h.rB
  · rw [put_other _ _ (by omega)]; exact h.rP
  · rw [put_other _ _ (by omega)]; exact h.rR
  · rw [put_other _ _ (by omega)]; exact h.iB i hi
  · rw [put_other _ _ (by omega)]; exact (h.iC i hi).1
  · rw [put_other _ _ (by omega)]; exact (h.iC i hi).2
  · rw [put_other _ _ (by omega)]; exact (h.jC i hi).1
  · rw [put_other _ _ (by omega)]; exact (h.jC i hi).2
theorem rows_two {α : Type} (f : α → List Value) (l : List α) (x y : α) : rowsC f (l ++ [x, y]) = rowsC f l ++ (f x ++ f y) := by simp [rowsC]
theorem get_two {α : Type} (l : List α) (x y : α) (i : Nat) (hi : i < (l ++ [x, y]).length) : (∃ h : i < l.length, (l ++ [x, y])[i] = l[i]) ∨ (i = l.length ∧ (l ++ [x, y])[i] = x) ∨ (i = l.length + 1 ∧ (l ++ [x, y])[i] = y) := by
  by_cases q : i < l.length
  · exact .inl ⟨q, List.getElem_append_left q⟩
  · by_cases q2 : i = l.length
    · subst q2; exact .inr (.inl ⟨rfl, by simp⟩)
    · have : i = l.length + 1 := by simp at hi; omega
      subst this
      refine .inr (.inr ⟨rfl, ?_⟩)
      rw [List.getElem_append_right (by omega)]
      simp
theorem Ct.pushP (h : Ct I vB vW vP vR bs ws ps qs) {v' : Value} (x y : PageM × At) (hn : ps.length + 2 ≤ 40) (x1 : I (200 + 2 * ps.length) = some (itC x)) (x2 : I (201 + 2 * ps.length) = some (itG x)) (y1 : I (202 + 2 * ps.length) = some (itC y)) (y2 : I (203 + 2 * ps.length) = some (itG y))
    (lx : x.1.cs.length ≤ 1000 ∧ x.1.gs.length ≤ 1000) (ly : y.1.cs.length ≤ 1000 ∧ y.1.gs.length ≤ 1000) : Ct (Proofs.YtakjpljpdlhicaaDoor.put I 3 ⟨27, 4, v', ps.length + 2, rowsC pgC ps ++ (pgC x ++ pgC y)⟩) vB vW v' vR bs ws (ps ++ [x, y]) qs := by
  refine ⟨?_, ?_, by rw [put_same, rows_two]; simp, ?_, fun i hi => ?_, fun i hi => ?_, fun i hi => ⟨?_, ?_⟩, h.lB, ?_, h.n1, by simp; omega, h.n3⟩
  · rw [put_other _ _ (by omega)]; exact h.rB
  · rw [put_other _ _ (by omega)]; exact h.rW
  · rw [put_other _ _ (by omega)]; exact h.rR
  · rw [put_other _ _ (by omega)]; exact h.iB i hi
  · rw [put_other _ _ (by omega), put_other _ _ (by omega)]
    rcases get_two ps x y i hi with ⟨q, e⟩ | ⟨q, e⟩ | ⟨q, e⟩
    · rw [e]; exact h.iC i q
    · rw [e, q]; exact ⟨x1, x2⟩
    · rw [e, q, show 200 + 2 * (ps.length + 1) = 202 + 2 * ps.length by omega, show 201 + 2 * (ps.length + 1) = 203 + 2 * ps.length by omega]; exact ⟨y1, y2⟩
  · rw [put_other _ _ (by omega)]; exact (h.jC i hi).1
  · rw [put_other _ _ (by omega)]; exact (h.jC i hi).2
  · intro z hz
    rcases List.mem_append.1 hz with hz | hz
    · exact h.lP z hz
    · simp at hz
      rcases hz with rfl | rfl
      · exact lx
      · exact ly
theorem Ct.pushR (h : Ct I vB vW vP vR bs ws ps qs) {v' : Value} (x : PageM × At) (hn : qs.length + 2 ≤ 40) (hm : qs.length % 4 ≤ 2) (x1 : I (300 + 2 * (qs.length / 4)) = some (itC x)) (x2 : I (301 + 2 * (qs.length / 4)) = some (itG x)) : Ct (Proofs.YtakjpljpdlhicaaDoor.put I 4 ⟨38, 4, v', qs.length + 2, rowsC pgC qs ++ (pgC x ++ pgC x)⟩) vB vW vP v' bs ws ps (qs ++ [x, x]) := by
  refine ⟨?_, ?_, ?_, by rw [put_same, rows_two]; simp, fun i hi => ?_, fun i hi => ⟨?_, ?_⟩, fun i hi => ?_, h.lB, h.lP, h.n1, h.n2, by simp; omega⟩
  · rw [put_other _ _ (by omega)]; exact h.rB
  · rw [put_other _ _ (by omega)]; exact h.rW
  · rw [put_other _ _ (by omega)]; exact h.rP
  · rw [put_other _ _ (by omega)]; exact h.iB i hi
  · rw [put_other _ _ (by omega)]; exact (h.iC i hi).1
  · rw [put_other _ _ (by omega)]; exact (h.iC i hi).2
  · rw [put_other _ _ (by omega), put_other _ _ (by omega)]
    rcases get_two qs x x i hi with ⟨q, e⟩ | ⟨q, e⟩ | ⟨q, e⟩
    · rw [e]; exact h.jC i q
    · rw [e, q]; exact ⟨x1, x2⟩
    · rw [e, q, show (qs.length + 1) / 4 = qs.length / 4 by omega]; exact ⟨x1, x2⟩
end
/-! Reading. -/
section
variable {w : World} {B : Nat}
theorem row_one {e n c : Nat} {a : Option Addr} {xs : List Value} (h : GRow w B e 1 (.slice a n c) n xs) {k : Nat} {v : Value} (hk : xs[k]? = some v) : ∃ b, a = some ⟨b, 0, none⟩ ∧ b < w.heap.size ∧ w.cell? ⟨b, k, none⟩ = some v := by
  obtain ⟨a', c', e, li, _, _, _, h0⟩ := GRow.lies h
  cases e
  obtain ⟨b, off, e2, hb, hc⟩ := li.cellAt k v hk
  obtain ⟨q1, q2⟩ := h0 _ e2
  simp only at q1
  subst q1
  rw [Nat.zero_add] at hc
  exact ⟨b, e2, hb, hc⟩
theorem row_pg {e n c : Nat} {a : Option Addr} {ps : List (PageM × At)} (h : GRow w B e 4 (.slice a n c) n (rowsC pgC ps)) {k : Nat} (hk : k < ps.length) : ∃ b, a = some ⟨b, 0, none⟩ ∧ b < w.heap.size ∧ w.cell? ⟨b, k * 4, none⟩ = some (.int .i64 ps[k].1.num) ∧ w.cell? ⟨b, k * 4 + 1, none⟩ = some (.int .i64 ps[k].1.lsn) ∧ w.cell? ⟨b, k * 4 + 2, none⟩ = some (vC ps[k]) ∧ w.cell? ⟨b, k * 4 + 3, none⟩ = some (vG ps[k]) := by
  obtain ⟨a', c', e, li, _, _, _, h0⟩ := GRow.lies h
  cases e
  obtain ⟨b, off, e2, hb, hc⟩ := Lies.rowAt pgC 4 pgC_length li k hk (by decide)
  obtain ⟨q1, q2⟩ := h0 _ e2
  simp only at q1
  subst q1
  simp only [Nat.zero_add] at hc
  exact ⟨b, e2, hb, hc 0 _ rfl, hc 1 _ rfl, hc 2 _ rfl, hc 3 _ rfl⟩
end
end Go.Proofs.YtakjpljpdlhicaaDoor
