import Derived.Test.YtakjpljpdlhicaaDoorPg45
import Derived.Test.YtakjpljpdlhicaaDoorPg42
import Derived.Test.YtakjpljpdlhicaaDoorTake
import Derived.Deep.RegionHeld
import Derived.Deep.DeepCutAuto
set_option linter.all false
namespace Go.Proofs.YtakjpljpdlhicaaDoor
open Go.RowKit Go.QK Go.Pg
set_option maxRecDepth 100000
/-! How things stand within PageOwn's 'mark': rows under labels, what old handles still tell, two variables. -/
abbrev Tl := Nat → Option (Option Addr × List Value)
structure Hp (w0 : World) (B L M : Nat) (w : World) (lab : Nat → Nat) (I : Nat → Option It) (T : Tl) (vL vM : List Value) (xs : List (Nat × List Value)) : Prop where
  own : Own w B lab I
  td : ∀ k a cs, T k = some (a, cs) → Told w lab k a cs
  bx : Bx w lab I L 0 vL
  bm : Bx w lab I M 8 vM
  no : I 9 = none
  t8 : T 8 = none
  t9 : T 9 = none
  xs : ∀ x ∈ xs, Bx w lab I x.1 9 x.2
  bb : Below B w0 w
  bs : B ≤ w.heap.size
  bl : B ≤ L ∧ B ≤ M
def tput (T : Tl) (k : Nat) (x : Option Addr × List Value) : Tl := fun j => if j = k then some x else T j
theorem tput_same (T : Tl) (k : Nat) (x : Option Addr × List Value) : tput T k x k = some x := if_pos rfl
theorem tput_other (T : Tl) {k j : Nat} (x : Option Addr × List Value) (h : j ≠ k) : tput T k x j = T j := if_neg h
section
variable {w0 : World} {B L M : Nat} {w w' : World} {lab : Nat → Nat} {I : Nat → Option It} {T : Tl} {vL vM : List Value} {xs : List (Nat × List Value)}
theorem Hp.below (h : Hp w0 B L M w lab I T vL vM xs) (hb : Below w.heap.size w w') : Hp w0 B L M w' lab I T vL vM xs :=
  ⟨h.own.below hb, fun k a cs hk => (h.td k a cs hk).below hb, h.bx.below hb, h.bm.below hb, h.no, h.t8, h.t9, fun x hx => (h.xs x hx).below hb, h.bb.trans (hb.mono h.bs), Nat.le_trans h.bs hb.size, h.bl⟩
theorem Hp.less (h : Hp w0 B L M w lab I T vL vM xs) {ys : List (Nat × List Value)} (hs : ∀ y ∈ ys, y ∈ xs) : Hp w0 B L M w lab I T vL vM ys := { h with xs := fun y hy => h.xs y (hs y hy) }
theorem Hp.box (h : Hp w0 B L M w lab I T vL vM xs) (cs : List Value) (b : Nat) (hb : Below w.heap.size w w') (hb1 : w.heap.size ≤ b) (hc : Cells w' b cs) : Hp w0 B L M w' (relab lab w.heap.size 9) I T vL vM ((b, cs) :: xs) := by
  have rl : ∀ z, z < w.heap.size → relab lab w.heap.size 9 z = lab z := fun z hz => by unfold relab; rw [if_pos hz]
  have bxx : ∀ {M k' : Nat} {vs : List Value}, Bx w lab I M k' vs → Bx w' (relab lab w.heap.size 9) I M k' vs := fun z => ⟨z.cells.below hb, by rw [rl _ z.cells.1]; exact z.lb, z.no⟩
  refine ⟨⟨fun j it hj => ⟨GRow.below (h.own.at_ j it hj).1 hb, fun g hg => by rw [rl g (World.ownsRow.lt (h.own.at_ j it hj).1 g hg).2]; exact (h.own.at_ j it hj).2 g hg⟩⟩, fun k a cs hk => ?_, bxx h.bx, bxx h.bm, h.no, h.t8, h.t9, fun x hx => ?_, h.bb.trans (hb.mono h.bs), Nat.le_trans h.bs hb.size, h.bl⟩
  · have t := h.td k a cs hk
    refine ⟨t.li.below hb, fun hne ad had => ?_⟩
    rcases t.li with q | ⟨b', off, e, hlt, _⟩
    · exact absurd q hne
    · rw [e] at had
      cases had
      rw [rl _ hlt]
      exact t.lab_ hne _ e
  · rcases List.mem_cons.1 hx with rfl | hx
    · exact ⟨hc, by unfold relab; rw [if_neg (by omega)], h.no⟩
    · exact bxx (h.xs x hx)
/-- A cell of a row is written. -/
theorem Hp.set (h : Hp w0 B L M w lab I T vL vM xs) {key : Nat} {e : TypeId} {s n c g : Nat} {zs : List Value} (hi : I key = some ⟨e, s, .slice (some ⟨g, 0, none⟩) n c, n, zs⟩) (hT : T key = none) (hk : key ≠ 0 ∧ key ≠ 8 ∧ key ≠ 9) (j : Nat) (v : Value) :
    Hp w0 B L M (w.setCell ⟨g, j, none⟩ v) lab (put I key ⟨e, s, .slice (some ⟨g, 0, none⟩) n c, n, zs.set j v⟩) T vL vM xs := by
  obtain ⟨q1, q2⟩ := h.own.at_ _ _ hi
  have hl := q2 g rfl
  have kk : Keep (fun z => z = g) w (w.setCell ⟨g, j, none⟩ v) := Keep.setCell (S := fun z => z = g) (Keep.refl _ _) (fun _ => rfl) _
  have r1 := (World.ownsRow.stored q1 j v).1
  have bxx : ∀ {M k' : Nat} {vs : List Value}, k' ≠ key → Bx w lab I M k' vs → Bx (w.setCell ⟨g, j, none⟩ v) lab (put I key ⟨e, s, .slice (some ⟨g, 0, none⟩) n c, n, zs.set j v⟩) M k' vs := fun hk z => ⟨z.cells.keep kk (fun e => hk (by rw [← z.lb, e]; exact hl)), z.lb, by rw [put_other _ _ hk]; exact z.no⟩
  refine ⟨⟨fun k it hk' => ?_⟩, fun k a cs hk' => ?_, bxx (by omega) h.bx, bxx (by omega) h.bm, by rw [put_other _ _ (by omega)]; exact h.no, h.t8, h.t9, fun x hx => bxx (by omega) (h.xs x hx), h.bb.trans (kk.below h.bs (fun z hz e => by have := (World.ownsRow.lt q1 g rfl).1; omega)), by simpa using h.bs, h.bl⟩
  · by_cases e : k = key
    · subst e
      rw [put_same] at hk'
      cases hk'
      exact ⟨r1, q2⟩
    · rw [put_other _ _ e] at hk'
      obtain ⟨p1, p2⟩ := h.own.at_ k it hk'
      exact ⟨GRow.keep p1 kk (fun g hg s => by have := p2 g hg; rw [s] at this; exact e (by omega)), p2⟩
  · have hne : k ≠ key := fun e => by rw [e, hT] at hk'; cases hk'
    have t := h.td k a cs hk'
    refine ⟨?_, t.lab_⟩
    by_cases hcs : cs = []
    · exact .inl hcs
    · exact t.li.keep kk (fun ad had e => hne (by rw [← t.lab_ hcs ad had, e]; exact hl))
/-- Two cells of a row at once, or more: a row's cells as they are behind. -/
theorem Hp.re (h : Hp w0 B L M w lab I T vL vM xs) {I' : Nat → Option It} (e : I' = I) : Hp w0 B L M w lab I' T vL vM xs := by rw [e]; exact h
/-- A row is made longer by an append: the old handle tells what it told. -/
theorem Hp.push {t0 e : TypeId} {z : Value} {size bytes : Nat} (hu : Tryd.prog.underlying t0 = some (.slice e)) (hin : (Tryd.prog.info? e).map (fun i => (i.zero, i.size, i.bytes)) = some (some z, size, bytes)) (hz : z.cells.size = size) (hs : 0 < size) (hby : bytes ≤ 100) (ty : TypeId)
    (h : Hp w0 B L M w lab I T vL vM xs) {key : Nat} (hkey : key ≠ 0 ∧ key ≠ 8 ∧ key ≠ 9) (hT : T key = none) {v : Value} {n : Nat} {zs : List Value} (hi : I key = some ⟨e, size, v, n, zs⟩) (ad : Addr) (m cc : Nat) (news : List Value) (hl : news.length = m * size) (hnews : Lies w (some ad) news) (h1 : ∀ u ∈ news, u.oneCell' = true) (h63 : n + m ≤ 2000000) :
    ∃ v' x', (Builtin.append_ #[t0, t0] ty #[v, .slice (some ad) m cc]).run Tryd.prog w = .ok v' x' ∧ (∃ a' c', v' = .slice a' (n + m) c') ∧ w.heap.size ≤ x'.heap.size ∧
      Hp w0 B L M x' (relab lab w.heap.size key) (put I key ⟨e, size, v', n + m, zs ++ news⟩) T vL vM xs ∧ (∀ a c, v = .slice a n c → Hp w0 B L M x' (relab lab w.heap.size key) (put I key ⟨e, size, v', n + m, zs ++ news⟩) (tput T key (a, zs)) vL vM xs) := by
  obtain ⟨q1, q2⟩ := h.own.at_ key _ hi
  obtain ⟨v', x', hr, g1, g2, g3, g4⟩ := run_moreR hu hin hz hs hby ty w B v n zs q1 ad m cc news hl hnews h1 h63 h.bs
  have kk : Keep (fun g => v.ownBlock = some g) w x' := (Keep.refl _ w).grown g2 (fun g hg _ => hg)
  have hS : ∀ b, b < w.heap.size → v.ownBlock = some b → lab b = key := fun b _ hb => q2 b hb
  obtain ⟨a', c', e', -⟩ := GRow.lies g1
  have hown := h.own.put kk key hS ⟨e, size, v', n + m, zs ++ news⟩ g1 (fun g hg hlt => by
    rcases g3 with q | q
    · rw [q] at hg; exact q2 g hg
    · rw [q] at hg; cases hg; omega)
  have htd : ∀ k a cs, T k = some (a, cs) → Told x' (relab lab w.heap.size key) k a cs := fun k a cs hk => (h.td k a cs hk).keep kk hS (fun e => by rw [e, hT] at hk; cases hk)
  have hp : Hp w0 B L M x' (relab lab w.heap.size key) (put I key ⟨e, size, v', n + m, zs ++ news⟩) T vL vM xs :=
    ⟨hown, htd, h.bx.put kk key hS (by omega) _, h.bm.put kk key hS (by omega) _, by rw [put_other _ _ (by omega)]; exact h.no, h.t8, h.t9, fun x hx => (h.xs x hx).put kk key hS (by omega) _, h.bb.trans (kk.below h.bs (fun z hz e => by have := (World.ownsRow.lt q1 z e).1; omega)), Nat.le_trans h.bs kk.size, h.bl⟩
  refine ⟨v', x', hr, ⟨a', c', e'⟩, kk.size, hp, fun a c hv => { hp with td := fun k a1 cs hk => ?_, t8 := by rw [tput_other _ _ (by omega)]; exact h.t8, t9 := by rw [tput_other _ _ (by omega)]; exact h.t9 }⟩
  by_cases q : k = key
  · subst q
    rw [tput_same] at hk
    cases hk
    refine ⟨g4 a c hv, fun hne ad' had => ?_⟩
    obtain ⟨a2, c2, e2, li, -⟩ := GRow.lies q1
    rw [hv] at e2
    cases e2
    rcases li with r | ⟨b, off, e3, hb, _⟩
    · exact absurd r hne
    · rw [had] at e3
      cases e3
      unfold relab
      rw [if_pos hb]
      exact q2 b (by rw [hv]; rw [had]; rfl)
  · rw [tput_other _ _ q] at hk
    exact htd k a1 cs hk
/-- The second variable is written. -/
theorem Hp.mset (h : Hp w0 B L M w lab I T vL vM xs) {j : Nat} (hj : j < vM.length) (v : Value) : Hp w0 B L M (w.setCell ⟨M, j, none⟩ v) lab I T vL (vM.set j v) xs := by
  have kk : Keep (fun z => z = M) w (w.setCell ⟨M, j, none⟩ v) := Keep.setCell (S := fun z => z = M) (Keep.refl _ _) (fun _ => rfl) _
  have k8 : ∀ k a cs, T k = some (a, cs) → k ≠ 8 → Told (w.setCell ⟨M, j, none⟩ v) lab k a cs := fun k a cs hk hne => by
    have t := h.td k a cs hk
    refine ⟨?_, t.lab_⟩
    by_cases hcs : cs = []
    · exact .inl hcs
    · exact t.li.keep kk (fun ad had e => hne (by rw [← t.lab_ hcs ad had, e]; exact h.bm.lb))
  refine ⟨h.own.cell h.bm j v, fun k a cs hk => ?_, h.bx.other h.bm (by decide) j v, h.bm.cell hj v, h.no, h.t8, h.t9, fun x hx => (h.xs x hx).other h.bm (by decide) j v, h.bb.trans (kk.below h.bs (fun z hz e => by have := h.bl.2; omega)), by simpa using h.bs, h.bl⟩
  exact k8 k a cs hk (fun q => by rw [q, h.t8] at hk; cases hk)
end
end Go.Proofs.YtakjpljpdlhicaaDoor

set_option linter.all false
namespace Go.Proofs.YtakjpljpdlhicaaDoor
open Go.RowKit Go.QK Go.Pg
set_option maxRecDepth 100000
/-! What the lists hold while they are marked. -/
abbrev rep (n i : Nat) : List Nat := List.replicate n i
abbrev byV (l : List Nat) : List Value := (ints l).map (Value.int .u8)
theorem fold_data (l : List Int) (acc : ByteArray) : (l.foldl (fun r n => r.push (UInt8.ofNat n.toNat)) acc).data = acc.data ++ (l.map (fun n => UInt8.ofNat n.toNat)).toArray := by
  induction l generalizing acc with
  | nil => simp
  | cons x r ih =>
    rw [List.foldl_cons, ih]
    simp [ByteArray.push]
theorem strOf_app (a b : List Nat) : strOf a ++ strOf b = strOf (a ++ b) := by
  apply ByteArray.ext
  show (strOf a ++ strOf b).data = _
  unfold strOf
  rw [ByteArray.data_append]
  rw [fold_data, fold_data, fold_data]
  simp [ints]
theorem rep_app (n i : Nat) : rep n i ++ [i, i] = rep (n + 2) i := by
  show List.replicate n i ++ List.replicate 2 i = _
  rw [List.replicate_append_replicate]
theorem byV_app (a b : List Nat) : byV (a ++ b) = byV a ++ byV b := by simp [byV, ints]
structure SA (I : Nat → Option It) (T : Tl) (vB vW mB mW : Value) (bs : List (Value × List Nat)) (i : Nat) : Prop where
  rB : I 1 = some ⟨22, 1, vB, bs.length, bs.map (·.1)⟩
  rW : ∃ zs, I 2 = some ⟨9, 1, vW, bs.length, zs⟩ ∧ ∀ j, j < i → zs[j]? = some (.string (strOf (rep 1024 j)))
  mB : ∃ zs, I 21 = some ⟨22, 1, mB, i, zs⟩ ∧ ∀ j, j < i → ∃ v, zs[j]? = some v ∧ I (100 + j) = some ⟨5, 1, v, 1026, byV (rep 1026 j)⟩
  mW : ∃ zs, I 22 = some ⟨9, 1, mW, i, zs⟩ ∧ ∀ j, j < i → zs[j]? = some (.string (strOf (rep 1026 j)))
  told : ∀ j (h : j < bs.length), j < i → ∃ a c, bs[j].1 = .slice a 1024 c ∧ T (100 + j) = some (a, byV (rep 1024 j))
  todo : ∀ j (h : j < bs.length), i ≤ j → I (100 + j) = some (itB bs[j].1 bs[j].2)
  tn : ∀ k, k < 200 → (k < 100 ∨ 100 + i ≤ k) → T k = none
  lB : ∀ x ∈ bs, x.2.length = 1024
  n1 : bs.length ≤ 90
  i1 : i ≤ bs.length
def mkC (j n last : Nat) : List CtrM := (List.range n).map (fun k => ⟨-(j : Int), 0, 0, 0, vAt n last k⟩)
def mkG (j n last : Nat) : List GrpM := (List.range n).map (fun k => ⟨-(j : Int), vAt n last k⟩)
theorem mkC_len (j n last : Nat) : (mkC j n last).length = n := by simp [mkC]
theorem mkG_len (j n last : Nat) : (mkG j n last).length = n := by simp [mkG]
theorem mkC_more (j n : Nat) : mkC j n 0 ++ [⟨-(j : Int), 0, 0, 0, 0⟩] = mkC j (n + 1) 1 := by
  unfold mkC
  rw [List.range_succ, List.map_append]
  congr 1
  · refine List.map_congr_left (fun k hk => ?_)
    have := List.mem_range.1 hk
    simp only [vAt]
    rw [if_neg (by omega), if_neg (by omega)]
  · simp [vAt]
theorem mkG_more (j n : Nat) : mkG j n 0 ++ [⟨-(j : Int), 0⟩] = mkG j (n + 1) 1 := by
  unfold mkG
  rw [List.range_succ, List.map_append]
  congr 1
  · refine List.map_congr_left (fun k hk => ?_)
    have := List.mem_range.1 hk
    simp only [vAt]
    rw [if_neg (by omega), if_neg (by omega)]
  · simp [vAt]
theorem mkC_of {j n : Nat} {Y : List CtrM} (hl : Y.length = n) (h : ∀ k, k < n → Y[k]? = some ⟨-(j : Int), 0, 0, 0, (k : Int)⟩) : Y = mkC j n 0 := by
  refine List.ext_getElem? (fun k => ?_)
  by_cases q : k < n
  · rw [h k q]
    have : ¬ n ≤ k := by omega
    simp [mkC, q, vAt, this]
  · rw [List.getElem?_eq_none (by omega), List.getElem?_eq_none (by rw [mkC_len]; omega)]
theorem mkG_of {j n : Nat} {Y : List GrpM} (hl : Y.length = n) (h : ∀ k, k < n → Y[k]? = some ⟨-(j : Int), (k : Int)⟩) : Y = mkG j n 0 := by
  refine List.ext_getElem? (fun k => ?_)
  by_cases q : k < n
  · rw [h k q]
    have : ¬ n ≤ k := by omega
    simp [mkG, q, vAt, this]
  · rw [List.getElem?_eq_none (by omega), List.getElem?_eq_none (by rw [mkG_len]; omega)]
theorem rep_of {j n : Nat} {Y : List Nat} (hl : Y.length = n) (h : ∀ k, k < n → Y[k]? = some j) : Y = rep n j := by
  refine List.ext_getElem? (fun k => ?_)
  by_cases q : k < n
  · rw [h k q]
    simp [q]
  · rw [List.getElem?_eq_none (by omega), List.getElem?_eq_none (by simp; omega)]
structure SP (I : Nat → Option It) (T : Tl) (vP mP : Value) (ps : List (PageM × At)) (i m : Nat) : Prop where
  rP : I 3 = some ⟨27, 4, vP, ps.length, rowsC pgC ps⟩
  mP : ∃ ms : List (PageM × At), I 23 = some ⟨27, 4, mP, m, rowsC pgC ms⟩ ∧ ms.length = m ∧ ∀ j (h : j < ps.length), j < m → ∃ x, ms[j]? = some x ∧ x.1.cs = mkC j (ps[j].1.cs.length + 1) 1 ∧ x.1.gs = mkG j (ps[j].1.gs.length + 1) 1 ∧ I (200 + 2 * j) = some (itC x) ∧ I (201 + 2 * j) = some (itG x)
  told : ∀ j (h : j < ps.length), j < m → T (200 + 2 * j) = some (ps[j].2.a, ctrsC (mkC j ps[j].1.cs.length 0)) ∧ T (201 + 2 * j) = some (ps[j].2.b, grpsC (mkG j ps[j].1.gs.length 0))
  mid : ∀ j (h : j < ps.length), m ≤ j → j < i → I (200 + 2 * j) = some ⟨57, 5, vC ps[j], ps[j].1.cs.length, ctrsC (mkC j ps[j].1.cs.length 0)⟩ ∧ I (201 + 2 * j) = some ⟨59, 2, vG ps[j], ps[j].1.gs.length, grpsC (mkG j ps[j].1.gs.length 0)⟩
  todo : ∀ j (h : j < ps.length), i ≤ j → I (200 + 2 * j) = some (itC ps[j]) ∧ I (201 + 2 * j) = some (itG ps[j])
  tn : ∀ k, 200 + 2 * m ≤ k → T k = none
  lP : ∀ x ∈ ps, x.1.cs.length ≤ 1000 ∧ x.1.gs.length ≤ 1000
  n2 : ps.length ≤ 40
  i2 : m ≤ i ∧ i ≤ ps.length
section
variable {I : Nat → Option It} {T : Tl} {vB vW vP mB mW mP : Value} {bs : List (Value × List Nat)} {ps : List (PageM × At)} {i m : Nat}
theorem SA.put (h : SA I T vB vW mB mW bs i) (key : Nat) (it : It) (hk : 200 ≤ key ∨ key = 23) : SA (put I key it) T vB vW mB mW bs i := by
  have n1 := h.n1
  have i1 := h.i1
  refine ⟨by rw [put_other _ _ (by omega)]; exact h.rB, ?_, ?_, ?_, h.told, fun j hj hi => by rw [put_other _ _ (by omega)]; exact h.todo j hj hi, h.tn, h.lB, h.n1, h.i1⟩
  · obtain ⟨zs, a, b⟩ := h.rW
    exact ⟨zs, by rw [put_other _ _ (by omega)]; exact a, b⟩
  · obtain ⟨zs, a, b⟩ := h.mB
    refine ⟨zs, by rw [put_other _ _ (by omega)]; exact a, fun j hj => ?_⟩
    obtain ⟨v, c, d⟩ := b j hj
    exact ⟨v, c, by rw [put_other _ _ (by omega)]; exact d⟩
  · obtain ⟨zs, a, b⟩ := h.mW
    exact ⟨zs, by rw [put_other _ _ (by omega)]; exact a, b⟩
theorem SA.tput (h : SA I T vB vW mB mW bs i) (key : Nat) (x : Option Addr × List Value) (hk : 200 ≤ key) : SA I (tput T key x) vB vW mB mW bs i := by
  have n1 := h.n1
  refine ⟨h.rB, h.rW, h.mB, h.mW, fun j hj hi => ?_, h.todo, fun k k1 k2 => by rw [tput_other _ _ (by omega)]; exact h.tn k k1 k2, h.lB, h.n1, h.i1⟩
  obtain ⟨a, c, e, f⟩ := h.told j hj hi
  exact ⟨a, c, e, by rw [tput_other _ _ (by omega)]; exact f⟩
/-- A round over the bytes. -/
theorem SA.step (h : SA I T vB vW mB mW bs i) (hi : i < bs.length) {a : Option Addr} {c : Nat} (ha : bs[i].1 = .slice a 1024 c) (zW : List Value) (hW : I 2 = some ⟨9, 1, vW, bs.length, zW⟩) (hWl : ∀ j, j < i → zW[j]? = some (.string (strOf (rep 1024 j)))) (hWn : zW.length = bs.length)
    (zB zM : List Value) (h21 : I 21 = some ⟨22, 1, mB, i, zB⟩) (hB : ∀ j, j < i → ∃ v, zB[j]? = some v ∧ I (100 + j) = some ⟨5, 1, v, 1026, byV (rep 1026 j)⟩) (lB : zB.length = i) (h22 : I 22 = some ⟨9, 1, mW, i, zM⟩) (hM : ∀ j, j < i → zM[j]? = some (.string (strOf (rep 1026 j)))) (lM : zM.length = i) {J : Nat → Option It} {v mB' mW' : Value}
    (j0 : ∀ k, k ≠ 100 + i → k ≠ 2 → k ≠ 21 → k ≠ 22 → J k = I k) (j1 : J (100 + i) = some ⟨5, 1, v, 1026, byV (rep 1026 i)⟩) (j2 : J 2 = some ⟨9, 1, vW, bs.length, zW.set i (.string (strOf (rep 1024 i)))⟩) (j3 : J 21 = some ⟨22, 1, mB', i + 1, zB ++ [v]⟩) (j4 : J 22 = some ⟨9, 1, mW', i + 1, zM ++ [.string (strOf (rep 1026 i))]⟩) :
    SA J (Proofs.YtakjpljpdlhicaaDoor.tput T (100 + i) (a, byV (rep 1024 i))) vB vW mB' mW' bs (i + 1) := by
  have n1 := h.n1
  refine ⟨by rw [j0 1 (by omega) (by omega) (by omega) (by omega)]; exact h.rB, ⟨_, j2, fun j hj => ?_⟩, ⟨_, j3, fun j hj => ?_⟩, ⟨_, j4, fun j hj => ?_⟩, fun j hj hi' => ?_, fun j hj hi' => by rw [j0 _ (by omega) (by omega) (by omega) (by omega)]; exact h.todo j hj (by omega), fun k k1 k2 => by rw [tput_other _ _ (by omega)]; exact h.tn k k1 (by omega), h.lB, n1, hi⟩
  · by_cases q : j = i
    · subst q; rw [List.getElem?_set_self (by omega)]
    · rw [List.getElem?_set_ne (fun e => q e.symm)]; exact hWl j (by omega)
  · by_cases q : j = i
    · subst q; exact ⟨v, by rw [List.getElem?_append_right (by omega), lB]; simp, j1⟩
    · obtain ⟨u, a1, a2⟩ := hB j (by omega)
      exact ⟨u, by rw [List.getElem?_append_left (by omega)]; exact a1, by rw [j0 _ (by omega) (by omega) (by omega) (by omega)]; exact a2⟩
  · by_cases q : j = i
    · subst q; rw [List.getElem?_append_right (by omega), lM]; simp
    · rw [List.getElem?_append_left (by omega)]; exact hM j (by omega)
  · by_cases q : j = i
    · subst q; exact ⟨a, c, ha, tput_same _ _ _⟩
    · obtain ⟨a1, c1, e, f⟩ := h.told j hj (by omega)
      exact ⟨a1, c1, e, by rw [tput_other _ _ (by omega)]; exact f⟩
theorem SP.same (h : SP I T vP mP ps i m) {J : Nat → Option It} {U : Tl} (hj : ∀ k, (k = 3 ∨ k = 23 ∨ 200 ≤ k) → J k = I k) (hu : ∀ k, 200 ≤ k → U k = T k) : SP J U vP mP ps i m := by
  refine ⟨by rw [hj 3 (by omega)]; exact h.rP, ?_, fun j hj' hm => ?_, fun j hj' h1 h2 => ?_, fun j hj' h1 => ?_, fun k hk => by rw [hu k (by omega)]; exact h.tn k hk, h.lP, h.n2, h.i2⟩
  · obtain ⟨ms, a, b, c⟩ := h.mP
    refine ⟨ms, by rw [hj 23 (by omega)]; exact a, b, fun j hj' hm => ?_⟩
    obtain ⟨x, c1, c2, c3, c4, c5⟩ := c j hj' hm
    exact ⟨x, c1, c2, c3, by rw [hj _ (by omega)]; exact c4, by rw [hj _ (by omega)]; exact c5⟩
  · rw [hu _ (by omega), hu _ (by omega)]; exact h.told j hj' hm
  · rw [hj _ (by omega), hj _ (by omega)]; exact h.mid j hj' h1 h2
  · rw [hj _ (by omega), hj _ (by omega)]; exact h.todo j hj' h1
/-- A page is marked. -/
theorem SP.mark (h : SP I T vP mP ps i 0) (hi : i < ps.length) {J : Nat → Option It} (j0 : ∀ k, k ≠ 200 + 2 * i → k ≠ 201 + 2 * i → J k = I k) (j1 : J (200 + 2 * i) = some ⟨57, 5, vC ps[i], ps[i].1.cs.length, ctrsC (mkC i ps[i].1.cs.length 0)⟩) (j2 : J (201 + 2 * i) = some ⟨59, 2, vG ps[i], ps[i].1.gs.length, grpsC (mkG i ps[i].1.gs.length 0)⟩) : SP J T vP mP ps (i + 1) 0 := by
  have n2 := h.n2
  refine ⟨by rw [j0 3 (by omega) (by omega)]; exact h.rP, ?_, fun j hj' hm => by omega, fun j hj' h1 h2 => ?_, fun j hj' h1 => ?_, h.tn, h.lP, n2, by omega⟩
  · obtain ⟨ms, a, b, c⟩ := h.mP
    exact ⟨ms, by rw [j0 23 (by omega) (by omega)]; exact a, b, fun j hj' hm => by omega⟩
  · by_cases q : j = i
    · subst q; exact ⟨j1, j2⟩
    · rw [j0 _ (by omega) (by omega), j0 _ (by omega) (by omega)]; exact h.mid j hj' h1 (by omega)
  · rw [j0 _ (by omega) (by omega), j0 _ (by omega) (by omega)]; exact h.todo j hj' (by omega)
/-- A page is made longer. -/
theorem SP.grow (h : SP I T vP mP ps ps.length m) (hm : m < ps.length) {ms : List (PageM × At)} (hms : ms.length = m) (hI : ∀ j (h : j < ps.length), j < m → ∃ x, ms[j]? = some x ∧ x.1.cs = mkC j (ps[j].1.cs.length + 1) 1 ∧ x.1.gs = mkG j (ps[j].1.gs.length + 1) 1 ∧ I (200 + 2 * j) = some (itC x) ∧ I (201 + 2 * j) = some (itG x)) {mP' : Value} {x : PageM × At} {J : Nat → Option It} {U : Tl}
    (x1 : x.1.cs = mkC m (ps[m].1.cs.length + 1) 1) (x2 : x.1.gs = mkG m (ps[m].1.gs.length + 1) 1) (j0 : ∀ k, k ≠ 200 + 2 * m → k ≠ 201 + 2 * m → k ≠ 23 → J k = I k) (j1 : J (200 + 2 * m) = some (itC x)) (j2 : J (201 + 2 * m) = some (itG x)) (j3 : J 23 = some ⟨27, 4, mP', m + 1, rowsC pgC (ms ++ [x])⟩)
    (u0 : ∀ k, k ≠ 200 + 2 * m → k ≠ 201 + 2 * m → U k = T k) (u1 : U (200 + 2 * m) = some (ps[m].2.a, ctrsC (mkC m ps[m].1.cs.length 0))) (u2 : U (201 + 2 * m) = some (ps[m].2.b, grpsC (mkG m ps[m].1.gs.length 0))) : SP J U vP mP' ps ps.length (m + 1) := by
  have n2 := h.n2
  refine ⟨by rw [j0 3 (by omega) (by omega) (by omega)]; exact h.rP, ⟨_, j3, by simp [hms], fun j hj' hm' => ?_⟩, fun j hj' hm' => ?_, fun j hj' h1 h2 => ?_, fun j hj' h1 => by omega, fun k hk => by rw [u0 k (by omega) (by omega)]; exact h.tn k (by omega), h.lP, n2, by omega⟩
  · by_cases q : j = m
    · subst q; exact ⟨x, by rw [List.getElem?_append_right (by omega), hms]; simp, x1, x2, j1, j2⟩
    · obtain ⟨y, c1, c2, c3, c4, c5⟩ := hI j hj' (by omega)
      exact ⟨y, by rw [List.getElem?_append_left (by omega)]; exact c1, c2, c3, by rw [j0 _ (by omega) (by omega) (by omega)]; exact c4, by rw [j0 _ (by omega) (by omega) (by omega)]; exact c5⟩
  · by_cases q : j = m
    · subst q; exact ⟨u1, u2⟩
    · rw [u0 _ (by omega) (by omega), u0 _ (by omega) (by omega)]; exact h.told j hj' (by omega)
  · rw [j0 _ (by omega) (by omega) (by omega), j0 _ (by omega) (by omega) (by omega)]; exact h.mid j hj' (by omega) (by omega)
end
end Go.Proofs.YtakjpljpdlhicaaDoor

set_option linter.all false
namespace Go.Proofs.YtakjpljpdlhicaaDoor
open Go.RowKit Go.QK Go.Pg
set_option maxRecDepth 100000
abbrev nilS : Value := .slice none 0 0
theorem lies_cells2 (w : World) (vs : Array Value) (t : TypeId) : Lies (w.alloc (.cells vs t)) (some ⟨w.heap.size, 0, none⟩) vs.toList := by
  have h := Cells.new w vs t
  refine .inr ⟨w.heap.size, 0, rfl, h.1, fun i hi => ?_⟩
  rw [Nat.zero_add]
  exact (h.2 i hi).1
theorem cells_lies {w : World} {b : Nat} {cs : List Value} (h : Cells w b cs) : Lies w (some ⟨b, 0, none⟩) cs := .inr ⟨b, 0, rfl, h.1, fun i hi => by rw [Nat.zero_add]; exact (h.2 i hi).1⟩
theorem inf5 : (Tryd.prog.info? 5).map (fun i => (i.zero, i.size, i.bytes)) = some (some (.int .u8 0), 1, 1) := by kernel_rfl
theorem inf22 : (Tryd.prog.info? 22).map (fun i => (i.zero, i.size, i.bytes)) = some (some (.slice none 0 0), 1, 24) := by kernel_rfl
theorem inf9 : (Tryd.prog.info? 9).map (fun i => (i.zero, i.size, i.bytes)) = some (some (.string ByteArray.empty), 1, 16) := by kernel_rfl
theorem inf27 : (Tryd.prog.info? 27).map (fun i => (i.zero, i.size, i.bytes)) = some (some (.agg #[.int .i64 0, .int .i64 0, .slice none 0 0, .slice none 0 0]), 4, 64) := by kernel_rfl
theorem lies_seen {w : World} {a : Option Addr} {l : List Nat} (h : Lies w a (byV l)) : Bytes w a l := by
  rcases h with q | ⟨b, off, e, hb, hc⟩
  · exact .inl (by simpa [byV] using q)
  · exact .inr ⟨b, off, e, hb, fun i hi => by rw [hc i (by simpa [byV] using hi)]; simp [byV]⟩
theorem conv_rep {w : World} {a : Option Addr} {l : List Nat} {n c : Nat} (h : Lies w a (byV l)) (hn : l.length = n) : (convert 22 9 (.slice a n c)).run Tryd.prog w = .ok (.string (strOf l)) w := by
  subst hn
  exact conv_any a l c w (lies_seen h)
section
variable {w0 : World} {B L M : Nat} {w w' : World} {lab : Nat → Nat} {I : Nat → Option It} {T : Tl} {vL vM : List Value} {xs : List (Nat × List Value)}
theorem Hp.l (h : Hp w0 B L M w lab I T vL vM xs) {j : Nat} {v : Value} (hj : vL[j]? = some v) : w.cell? ⟨L, j, none⟩ = some v := (h.bx.cells.get j v hj).1
theorem Hp.m (h : Hp w0 B L M w lab I T vL vM xs) {j : Nat} {v : Value} (hj : vM[j]? = some v) : w.cell? ⟨M, j, none⟩ = some v ∧ w.frozen? ⟨M, j, none⟩ = false := h.bm.cells.get j v hj
theorem Hp.row (h : Hp w0 B L M w lab I T vL vM xs) {k : Nat} {e n c b : Nat} {zs : List Value} (hi : I k = some ⟨e, 1, .slice (some ⟨b, 0, none⟩) n c, n, zs⟩) {j : Nat} {v : Value} (hj : zs[j]? = some v) : w.cell? ⟨b, j, none⟩ = some v ∧ w.frozen? ⟨b, j, none⟩ = false := by
  have g := (h.own.at_ _ _ hi).1
  obtain ⟨b', e1, -, hc⟩ := row_one g hj
  cases e1
  exact ⟨hc, World.ownsRow.frozenAt g j⟩
theorem Hp.opn (h : Hp w0 B L M w lab I T vL vM xs) {k : Nat} {e s n : Nat} {v : Value} {zs : List Value} (hi : I k = some ⟨e, s, v, n, zs⟩) (hn : 0 < n) : ∃ g c, v = .slice (some ⟨g, 0, none⟩) n c := by
  obtain ⟨g, c, q, -⟩ := grow_open (h.own.at_ _ _ hi).1 hn
  exact ⟨g, c, q⟩
theorem Hp.sl (h : Hp w0 B L M w lab I T vL vM xs) {k : Nat} {e s n : Nat} {v : Value} {zs : List Value} (hi : I k = some ⟨e, s, v, n, zs⟩) : ∃ a c, v = .slice a n c := by
  obtain ⟨a, c, q, -⟩ := GRow.lies (h.own.at_ _ _ hi).1
  exact ⟨a, c, q⟩
theorem Hp.len (h : Hp w0 B L M w lab I T vL vM xs) {k : Nat} {e n : Nat} {v : Value} {zs : List Value} (hi : I k = some ⟨e, 1, v, n, zs⟩) : zs.length = n := by
  have := (h.own.at_ _ _ hi).1.1
  simpa using this
theorem Hp.lies (h : Hp w0 B L M w lab I T vL vM xs) {k : Nat} {e s n c : Nat} {a : Option Addr} {zs : List Value} (hi : I k = some ⟨e, s, .slice a n c, n, zs⟩) : Lies w a zs := by
  obtain ⟨a', c', q, li, -⟩ := GRow.lies (h.own.at_ _ _ hi).1
  cases q
  exact li
theorem Hp.pg (h : Hp w0 B L M w lab I T vL vM xs) {k : Nat} {e n c b : Nat} {ps : List (PageM × At)} (hi : I k = some ⟨e, 4, .slice (some ⟨b, 0, none⟩) n c, n, rowsC pgC ps⟩) {j : Nat} (hj : j < ps.length) : w.cell? ⟨b, j * 4, none⟩ = some (.int .i64 ps[j].1.num) ∧ w.cell? ⟨b, j * 4 + 1, none⟩ = some (.int .i64 ps[j].1.lsn) ∧ w.cell? ⟨b, j * 4 + 2, none⟩ = some (vC ps[j]) ∧ w.cell? ⟨b, j * 4 + 3, none⟩ = some (vG ps[j]) := by
  obtain ⟨b', e1, -, hc⟩ := row_pg (h.own.at_ _ _ hi).1 hj
  cases e1
  exact hc
theorem Hp.any_ (h : Hp w0 B L M w lab I T vL vM xs) {k : Nat} {e s n c b : Nat} {zs : List Value} (hi : I k = some ⟨e, s, .slice (some ⟨b, 0, none⟩) n c, n, zs⟩) {j : Nat} (hj : j < n * s) : ∃ v, w.cell? ⟨b, j, none⟩ = some v ∧ w.frozen? ⟨b, j, none⟩ = false := by
  have g := (h.own.at_ _ _ hi).1
  have hl : j < zs.length := by rw [g.1]; exact hj
  obtain ⟨a', c', e1, li, _, _, _, h0⟩ := GRow.lies g
  cases e1
  obtain ⟨b', off, e2, hb, hc⟩ := li.cellAt j zs[j] (by simp [hl])
  cases e2
  rw [Nat.zero_add] at hc
  exact ⟨_, hc, World.ownsRow.frozenAt g j⟩
/-- A box of this function is written; the others are forgotten. -/
theorem Hp.xset (h : Hp w0 B L M w lab I T vL vM xs) {R : Nat} {cs : List Value} (hx : (R, cs) ∈ xs) {j : Nat} (hj : j < cs.length) (v : Value) (hB : B ≤ R) : Hp w0 B L M (w.setCell ⟨R, j, none⟩ v) lab I T vL vM [(R, cs.set j v)] := by
  have hb := h.xs _ hx
  have kk : Keep (fun z => z = R) w (w.setCell ⟨R, j, none⟩ v) := Keep.setCell (S := fun z => z = R) (Keep.refl _ _) (fun _ => rfl) _
  refine ⟨h.own.cell hb j v, fun k a cs' hk => ?_, h.bx.other hb (by decide) j v, h.bm.other hb (by decide) j v, h.no, h.t8, h.t9, fun x hx' => ?_, h.bb.trans (kk.below h.bs (fun z hz e => by omega)), by simpa using h.bs, h.bl⟩
  · have t := h.td k a cs' hk
    refine ⟨?_, t.lab_⟩
    by_cases hcs : cs' = []
    · exact .inl hcs
    · refine t.li.keep kk (fun ad had e => ?_)
      have h1 := t.lab_ hcs ad had
      rw [e, hb.lb] at h1
      subst h1
      rw [h.t9] at hk
      cases hk
  · rw [List.mem_singleton.1 hx']
    exact hb.cell hj v
end
theorem ctrs_set (l : List CtrM) (i : Nat) (d : CtrM) (h : i < l.length) : (((((ctrsC l).set (i * 5) (.int .i64 d.id)).set (i * 5 + 1) (.int .i64 d.grp)).set (i * 5 + 2) (.int .i64 d.lo)).set (i * 5 + 3) (.int .i64 d.hi)).set (i * 5 + 4) (.int .i64 d.val) = ctrsC (l.set i d) := by
  induction l generalizing i with
  | nil => cases h
  | cons x r ih =>
    have e : ∀ (d : CtrM) (r : List CtrM), ctrsC (d :: r) = .int .i64 d.id :: .int .i64 d.grp :: .int .i64 d.lo :: .int .i64 d.hi :: .int .i64 d.val :: ctrsC r := fun _ _ => rfl
    cases i with
    | zero => rfl
    | succ i =>
      rw [show (i + 1) * 5 = i * 5 + 1 + 1 + 1 + 1 + 1 by omega, e]
      simp only [List.set_cons_succ, show i * 5 + 1 + 1 + 1 + 1 + 1 + 1 = i * 5 + 1 + 1 + 1 + 1 + 1 + 1 from rfl, show i * 5 + 1 + 1 + 1 + 1 + 1 + 2 = i * 5 + 2 + 1 + 1 + 1 + 1 + 1 by omega, show i * 5 + 1 + 1 + 1 + 1 + 1 + 3 = i * 5 + 3 + 1 + 1 + 1 + 1 + 1 by omega, show i * 5 + 1 + 1 + 1 + 1 + 1 + 4 = i * 5 + 4 + 1 + 1 + 1 + 1 + 1 by omega]
      rw [e, ih i (by simpa using h)]
theorem grps_set (l : List GrpM) (i : Nat) (d : GrpM) (h : i < l.length) : ((grpsC l).set (i * 2) (.int .i64 d.id)).set (i * 2 + 1) (.int .i64 d.sum) = grpsC (l.set i d) := by
  induction l generalizing i with
  | nil => cases h
  | cons x r ih =>
    have e : ∀ (d : GrpM) (r : List GrpM), grpsC (d :: r) = .int .i64 d.id :: .int .i64 d.sum :: grpsC r := fun _ _ => rfl
    cases i with
    | zero => rfl
    | succ i =>
      rw [show (i + 1) * 2 = i * 2 + 1 + 1 by omega, e]
      simp only [List.set_cons_succ, show i * 2 + 1 + 1 + 1 = i * 2 + 1 + 1 + 1 from rfl]
      rw [e, ih i (by simpa using h)]
theorem strOf_size (l : List Nat) : (strOf l).size = l.length := by
  have h := congrArg List.length (str_list l)
  simpa using h
theorem rows_app {α : Type} (f : α → List Value) (a b : List α) : rowsC f (a ++ b) = rowsC f a ++ rowsC f b := by simp [rowsC]
theorem p4_keep {w : World} {P R : Nat} {v0 v1 v2 v3 : Value} {a b c d : Option Value} (hne : P ≠ R) (h : w.cell? ⟨P, 0, none⟩ = a ∧ w.cell? ⟨P, 1, none⟩ = b ∧ w.cell? ⟨P, 2, none⟩ = c ∧ w.cell? ⟨P, 3, none⟩ = d) :
    ((((w.setCell ⟨R, 0, none⟩ v0).setCell ⟨R, 1, none⟩ v1).setCell ⟨R, 2, none⟩ v2).setCell ⟨R, 3, none⟩ v3).cell? ⟨P, 0, none⟩ = a ∧ ((((w.setCell ⟨R, 0, none⟩ v0).setCell ⟨R, 1, none⟩ v1).setCell ⟨R, 2, none⟩ v2).setCell ⟨R, 3, none⟩ v3).cell? ⟨P, 1, none⟩ = b ∧ ((((w.setCell ⟨R, 0, none⟩ v0).setCell ⟨R, 1, none⟩ v1).setCell ⟨R, 2, none⟩ v2).setCell ⟨R, 3, none⟩ v3).cell? ⟨P, 2, none⟩ = c ∧ ((((w.setCell ⟨R, 0, none⟩ v0).setCell ⟨R, 1, none⟩ v1).setCell ⟨R, 2, none⟩ v2).setCell ⟨R, 3, none⟩ v3).cell? ⟨P, 3, none⟩ = d := by
  have k : ∀ (u : World) (j : Nat) (v : Value) (o : Nat), (u.setCell ⟨R, j, none⟩ v).cell? ⟨P, o, none⟩ = u.cell? ⟨P, o, none⟩ := fun u j v o => World.cell?_of_block (w := u) (a := ⟨P, o, none⟩) (Below.heap_setCell u ⟨R, j, none⟩ v P hne)
  simp only [k]
  exact h
theorem byV_set (Y : List Nat) (k i : Nat) : (byV Y).set k (.int .u8 (i : Int)) = byV (Y.set k i) := by simp [byV, ints, List.map_set]
theorem get_set {α : Type} {Y : List α} {n k : Nat} {y : α} (hl : Y.length = n) (hk : k < n) {f : Nat → α} (hf : f k = y) (h : ∀ j, j < k → Y[j]? = some (f j)) : ∀ j, j < k + 1 → (Y.set k y)[j]? = some (f j) := by
  intro j hj
  by_cases q : j = k
  · subst q; rw [List.getElem?_set_self (by omega), hf]
  · rw [List.getElem?_set_ne (fun e => q e.symm)]; exact h j (by omega)
theorem u8w (i : Nat) (h : i ≤ 90) : IntKind.u8.wrap (i : Int) = (i : Int) := by
  rw [IntKind.wrap_u8]
  omega
theorem negw (i : Nat) (h : i ≤ 90) : IntKind.i64.wrap (-(i : Int)) = -(i : Int) := by rw [IntKind.wrap_i64]; omega
theorem negw2 (i : Nat) (h : i ≤ 90) : wrap64 (-(i : Int)) = -(i : Int) := by unfold wrap64; omega
/-- How 'mark' begins. -/
theorem Hp.start {w0 w w2 : World} {B L : Nat} {lab : Nat → Nat} {I : Nat → Option It} {vB vW vP vR : Value} {bs : List (Value × List Nat)} {ws : List (List Nat)} {ps qs : List (PageM × At)} (own : Own w B lab I) (bx : Bx w lab I L 0 [vB, vW, vP, vR]) (ct : Ct I vB vW vP vR bs ws ps qs) (lws : ws.length = bs.length) (n8 : I 8 = none) (n9 : I 9 = none) (bb : Below B w0 w) (hB : B ≤ w.heap.size) (bl : B ≤ L) (hw : w2 = w.alloc (.cells #[nilS, nilS, nilS, nilS] 52)) :
    ∃ lab' I', Hp w0 B L w.heap.size w2 lab' I' (fun _ => none) [vB, vW, vP, vR] [nilS, nilS, nilS, nilS] [] ∧ SA I' (fun _ => none) vB vW nilS nilS bs 0 ∧ SP I' (fun _ => none) vP nilS ps 0 0 := by
  have hb : Below w.heap.size w w2 := by rw [hw]; exact alloc_below _ _
  have rl : ∀ z, z < w.heap.size → relab lab w.heap.size 8 z = lab z := fun z hz => by unfold relab; rw [if_pos hz]
  have n1 := ct.n1
  have n2 := ct.n2
  refine ⟨relab lab w.heap.size 8, put (put (put I 21 ⟨22, 1, nilS, 0, []⟩) 22 ⟨9, 1, nilS, 0, []⟩) 23 ⟨27, 4, nilS, 0, []⟩, ⟨⟨fun j it hj => ?_⟩, (fun k a cs hk => by cases hk), ⟨bx.cells.below hb, by rw [rl _ bx.cells.1]; exact bx.lb, ?_⟩, ⟨by rw [hw]; exact Cells.new w #[nilS, nilS, nilS, nilS] 52, by unfold relab; rw [if_neg (by omega)], ?_⟩, ?_, rfl, rfl, (fun x hx => by cases hx), bb.trans (hb.mono hB), Nat.le_trans hB hb.size, bl, hB⟩, ⟨?_, ⟨strs ws, ?_, (fun j hj => by omega)⟩, ⟨[], ?_, (fun j hj => by omega)⟩, ⟨[], ?_, (fun j hj => by omega)⟩, (fun j hj h0 => by omega), fun j hj _ => ?_, fun _ _ _ => rfl, ct.lB, n1, Nat.zero_le _⟩, ⟨?_, ⟨[], ?_, rfl, (fun j hj h0 => by omega)⟩, (fun j hj h0 => by omega), (fun j hj h1 h2 => by omega), fun j hj _ => ⟨?_, ?_⟩, fun _ _ => rfl, ct.lP, n2, Nat.le_refl _, Nat.zero_le _⟩⟩
  · by_cases q3 : j = 23
    · subst q3; rw [put_same] at hj; cases hj; exact ⟨World.ownsRow_nil _ _ _ _, fun g hg => by cases hg⟩
    rw [put_other _ _ q3] at hj
    by_cases q2 : j = 22
    · subst q2; rw [put_same] at hj; cases hj; exact ⟨World.ownsRow_nil _ _ _ _, fun g hg => by cases hg⟩
    rw [put_other _ _ q2] at hj
    by_cases q1 : j = 21
    · subst q1; rw [put_same] at hj; cases hj; exact ⟨World.ownsRow_nil _ _ _ _, fun g hg => by cases hg⟩
    rw [put_other _ _ q1] at hj
    exact ⟨GRow.below (own.at_ j it hj).1 hb, fun g hg => by rw [rl g (World.ownsRow.lt (own.at_ j it hj).1 g hg).2]; exact (own.at_ j it hj).2 g hg⟩
  · rw [put_other _ _ (by omega), put_other _ _ (by omega), put_other _ _ (by omega)]; exact bx.no
  · rw [put_other _ _ (by omega), put_other _ _ (by omega), put_other _ _ (by omega)]; exact n8
  · rw [put_other _ _ (by omega), put_other _ _ (by omega), put_other _ _ (by omega)]; exact n9
  · rw [put_other _ _ (by omega), put_other _ _ (by omega), put_other _ _ (by omega)]; exact ct.rB
  · rw [put_other _ _ (by omega), put_other _ _ (by omega), put_other _ _ (by omega), ← lws]; exact ct.rW
  · rw [put_other _ _ (by omega), put_other _ _ (by omega), put_same]
  · rw [put_other _ _ (by omega), put_same]
  · rw [put_other _ _ (by omega), put_other _ _ (by omega), put_other _ _ (by omega)]; exact ct.iB j hj
  · rw [put_other _ _ (by omega), put_other _ _ (by omega), put_other _ _ (by omega)]; exact ct.rP
  · rw [put_same]; rfl
  · rw [put_other _ _ (by omega), put_other _ _ (by omega), put_other _ _ (by omega)]; exact (ct.iC j hj).1
  · rw [put_other _ _ (by omega), put_other _ _ (by omega), put_other _ _ (by omega)]; exact (ct.iC j hj).2
end Go.Proofs.YtakjpljpdlhicaaDoor
