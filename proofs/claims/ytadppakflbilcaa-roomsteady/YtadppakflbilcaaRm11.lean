import Derived.Test.YtadppakflbilcaaRm10
namespace Go.Proofs.Ytadppakflbilcaa
open Go.RowKit Go.QK Go.Maps Go.QM Go.QR
set_option maxRecDepth 100000
/-- A layout with its list's cell. -/
structure Lay.Has (y : Lay) (jh : Nat) : Prop where
  lt : jh < y.sz
  set : ∀ (t : Tx) (hs : List Int) v v', y.f ⟨t.n, t.st, hs⟩ v' = (y.f t v).set jh v'
  cell : ∀ t v, (y.f t v)[jh]? = some v
theorem book_has : bookL.Has 1 := ⟨by decide, fun _ _ _ _ => rfl, fun _ _ => rfl⟩
theorem ref_has : refL.Has 2 := ⟨by decide, fun _ _ _ _ => rfl, fun _ _ => rfl⟩
abbrev newS (S : Nat → Prop) (w w' : World) : Nat → Prop := fun k => S k ∨ (w.heap.size ≤ k ∧ k < w'.heap.size)
theorem lies_newA (w : World) (cs : List Value) (t : TypeId) : Lies (w.alloc (.cells cs.toArray t)) (some ⟨w.heap.size, 0, none⟩) cs := by
  have h := Cells.new w cs.toArray t
  refine .inr ⟨w.heap.size, 0, rfl, h.1, fun i hi => ?_⟩
  have q := (h.2 i (by simpa using hi)).1
  rw [Nat.zero_add, q]
theorem out_of {y : Lay} {S : Nat → Prop} {w w' : World} {b : Nat} {v : Value} {P : List TV} {L : List Tx} (h : Ls y w' (newS S w w') b v P) (e : P.map Prod.fst = L) (hk : Keep S w w') : OutL y w S b L w' :=
  ⟨_, ⟨v, P, h, e⟩, fun k hk q => q.elim id (fun q => by omega), hk⟩
section
variable {y : Lay} {S : Nat → Prop} {w : World} {b : Nat} {v : Value} {P : List TV} {t : TypeId} {z : Value} {bytes : Nat}
theorem Ls.push (R : RowT t y.e z y.sz bytes) (hy : y.Good) (h : Ls y w S b v P) (hl : P.length ≤ 1000) (tx : Int) (ty : TypeId) (ca : Array Value) (hca : ca.toList = y.f ⟨tx, 0, []⟩ (.slice none 0 0)) :
    ∃ v' w2, (∃ a n c, v' = .slice a n c) ∧ (Builtin.append_ #[t, t] ty #[v, .slice (some ⟨w.heap.size, 0, none⟩) 1 1]).run Try.prog (w.alloc (.cells ca y.e)) = .ok v' w2 ∧ Cells w2 b [v] ∧ Keep S w w2 ∧ Keep (fun z => v.ownBlock = some z) w w2 ∧ OutL y w S b (P.map Prod.fst ++ [⟨tx, 0, []⟩]) (w2.setCell ⟨b, 0, none⟩ v') := by
  have A1 := alloc_below w (.cells ca y.e)
  have h1 := h.below A1
  have eca : ca = (y.f ⟨tx, 0, []⟩ (.slice none 0 0)).toArray := by rw [← hca]
  obtain ⟨v', w2, hr, hg, hgr, ho⟩ := R.app ty (w.alloc (.cells ca y.e)) 0 v P.length _ h1.row (some ⟨w.heap.size, 0, none⟩) 1 1 (y.f ⟨tx, 0, []⟩ (.slice none 0 0)) (by rw [hy.len]; omega) (by rw [eca]; exact lies_newA _ _ _) (hy.one _ _ _ _) nofun (by omega) (Nat.zero_le _)
  have K2 : Keep (fun z => v.ownBlock = some z) (w.alloc (.cells ca y.e)) w2 := (Keep.refl _ _).grown hgr (fun g hg _ => hg)
  have K02 : Keep (fun z => v.ownBlock = some z) w w2 := (Keep.of_below A1).trans K2 (fun _ _ q => q)
  have KS : Keep S w w2 := K02.mono (fun k _ q => (h.rs k q).1)
  have sz1 : (w.alloc (.cells ca y.e)).heap.size = w.heap.size + 1 := by simp
  have bx : Cells w2 b [v] := h.box.keep K02 (fun q => (h.rs b q).2 rfl)
  have sz2 := K2.size
  refine ⟨v', w2, (by obtain ⟨a, c, e, _⟩ := GRow.lies hg; exact ⟨a, _, c, e⟩), hr, bx, KS, K02, ?_⟩
  have oldS : ∀ k, S k → newS S w w2 k := fun k q => .inl q
  have HM : LsR y (w2.setCell ⟨b, 0, none⟩ v') (newS S w w2) b v' (y.row (P ++ [(⟨tx, 0, []⟩, .slice none 0 0)])) (P ++ [(⟨tx, 0, []⟩, .slice none 0 0)]) ∧ Keep (newS S w w2) w2 (w2.setCell ⟨b, 0, none⟩ v') := by
    refine mkRow (y := y) (w := w2) (S := newS S w w2) (b := b) (v0 := v) (v' := v') (R' := y.row (P ++ [(⟨tx, 0, []⟩, .slice none 0 0)])) (P' := P ++ [(⟨tx, 0, []⟩, .slice none 0 0)])
      (fun k q => q.elim (fun q => Nat.lt_of_lt_of_le (h.lt k q) K02.size) (fun q => q.2)) (.inl h.sb) bx ?_ ?_ ?_ ?_ ?_
    · have e1 : y.row (P ++ [(⟨tx, 0, []⟩, .slice none 0 0)]) = y.row P ++ y.f ⟨tx, 0, []⟩ (.slice none 0 0) := by
        unfold Lay.row
        rw [rowsC_append]
        simp [rowsC]
      rw [e1, List.length_append]
      exact hg
    · intro g hg
      have hfr : ∀ p ∈ P ++ [((⟨tx, 0, []⟩ : Tx), (Value.slice none 0 0))], p.2.ownBlock = some g → p ∈ P := fun p hp e => by
        rcases List.mem_append.1 hp with q | q
        · exact q
        · simp at q; subst q; cases e
      rcases ho with q | q
      · rw [q] at hg
        exact ⟨.inl (h.rs g hg).1, (h.rs g hg).2, fun p hp e => (h.os p (hfr p hp e) g e).2.2 hg⟩
      · rw [q] at hg
        cases hg
        refine ⟨.inr ⟨by omega, ?_⟩, fun e => by have := h.lt b h.sb; omega, fun p hp e => ?_⟩
        · exact (World.ownsRow.lt ‹GRow w2 0 y.e y.sz v' _ _› _ q).2
        · have := h.lt _ (h.os p (hfr p hp e) _ e).1
          omega
    · intro p hp
      rcases List.mem_append.1 hp with q | q
      · exact (h.own p q).keep K02 (fun g hg e => (h.os p q g hg).2.2 e)
      · simp at q; subst q
        exact Owns.nil _ _ _ _
    · intro p hp g hg
      rcases List.mem_append.1 hp with q | q
      · exact ⟨.inl (h.os p q g hg).1, (h.os p q g hg).2.1⟩
      · simp at q; subst q; cases hg
    · rw [List.pairwise_append]
      refine ⟨h.inj, by simp, ?_⟩
      intro p hp q hq
      simp at hq
      subst hq
      exact fun _ _ => nofun
  refine out_of (v := v') (P := P ++ [(⟨tx, 0, []⟩, .slice none 0 0)]) ?_ (by simp) (KS.trans (Keep.setCell (Keep.refl (fun z => z = b) w2) (fun _ => rfl) v') (fun k _ q => by rw [q]; exact h.sb))
  have := HM.1.full rfl
  unfold newS at this ⊢
  simpa using this
/-- The row without the element at i goes into the box. -/
theorem Ls.cut (hy : y.Good) (h : Ls y w S b v P) (i : Nat) (hi : i < P.length) {v2 : Value} {w2 : World} (hb : Below w.heap.size w w2) (hg : GRow w2 w.heap.size y.e y.sz v2 (P.length - 1) ((y.row P).take (i * y.sz) ++ (y.row P).drop ((i + 1) * y.sz))) :
    OutL y w S b ((P.map Prod.fst).take i ++ (P.map Prod.fst).drop (i + 1)) (w2.setCell ⟨b, 0, none⟩ v2) := by
  have hsub : (P.take i ++ P.drop (i + 1)).Sublist P := by
    have := List.eraseIdx_sublist P i
    rw [List.eraseIdx_eq_take_drop_succ] at this
    exact this
  have HM : LsR y (w2.setCell ⟨b, 0, none⟩ v2) (newS S w w2) b v2 (y.row (P.take i ++ P.drop (i + 1))) (P.take i ++ P.drop (i + 1)) ∧ Keep (newS S w w2) w2 (w2.setCell ⟨b, 0, none⟩ v2) := by
    refine mkRow (y := y) (w := w2) (S := newS S w w2) (b := b) (v0 := v) (v' := v2) (R' := y.row (P.take i ++ P.drop (i + 1))) (P' := P.take i ++ P.drop (i + 1))
      (fun k q => q.elim (fun q => Nat.lt_of_lt_of_le (h.lt k q) hb.size) (fun q => q.2)) (.inl h.sb) (h.below hb).box ?_ ?_ ?_ ?_ ?_
    · have e1 : y.row (P.take i ++ P.drop (i + 1)) = (y.row P).take (i * y.sz) ++ (y.row P).drop ((i + 1) * y.sz) := by
        unfold Lay.row
        rw [rowsC_append, rowsC_take _ y.sz (fun p => hy.len p.1 p.2) P i (by omega), rowsC_drop _ y.sz (fun p => hy.len p.1 p.2) P (i + 1) (by omega)]
      have e2 : (P.take i ++ P.drop (i + 1)).length = P.length - 1 := by simp; omega
      rw [e1, e2]
      exact GRow.mono hg (Nat.zero_le _)
    · intro g hg'
      have := World.ownsRow.lt hg g hg'
      refine ⟨.inr this, fun e => by have := h.lt b h.sb; omega, fun p hp e => ?_⟩
      have := h.lt _ (h.os p (hsub.mem hp) _ e).1
      omega
    · exact fun p hp => (h.own p (hsub.mem hp)).below hb
    · exact fun p hp g hg => ⟨.inl (h.os p (hsub.mem hp) g hg).1, (h.os p (hsub.mem hp) g hg).2.1⟩
    · exact List.Pairwise.sublist hsub h.inj
  refine out_of (v := v2) (P := P.take i ++ P.drop (i + 1)) ?_ (by simp) ((Keep.of_below (S := S) hb).trans (Keep.setCell (Keep.refl (fun z => z = b) w2) (fun _ => rfl) v2) (fun k _ q => by rw [q]; exact h.sb))
  have := HM.1.full rfl
  unfold newS at this ⊢
  simpa using this
theorem LsR.toS {R : List Value} (h : LsR y w S b v R P) (w0 : World) : LsR y w (newS S w0 w) b v R P := h.wider (fun _ q => .inl q) (fun k q => q.elim (h.lt k) (fun q => q.2))
/-- The list of the transaction at i is another one, laid into the row. -/
theorem Ls.fill (hy : y.Good) {jh : Nat} (hj : y.Has jh) (h : Ls y w S b v P) {i : Nat} {p : TV} (hp : P[i]? = some p) {g cap : Nat} (hv : v = .slice (some ⟨g, 0, none⟩) P.length cap) {w2 : World} (hk : Keep (fun z => p.2.ownBlock = some z) w w2) {hs : List Int} {vv : Value} (ho : Owns .i64 3 w2 0 vv hs) (hb : ∀ x, vv.ownBlock = some x → p.2.ownBlock = some x ∨ w.heap.size ≤ x) :
    OutL y w S b ((P.map Prod.fst).set i ⟨p.1.n, p.1.st, hs⟩) (w2.setCell ⟨g, i * y.sz + jh, none⟩ vv) ∧ (∃ u, w2.cell? ⟨g, i * y.sz + jh, none⟩ = some u) ∧ w2.frozen? ⟨g, i * y.sz + jh, none⟩ = false := by
  obtain ⟨hi, hpe⟩ := List.getElem?_eq_some_iff.1 hp
  have hpm : p ∈ P := List.mem_of_getElem? hp
  have KS : Keep S w w2 := hk.mono (fun k _ q => (h.os p hpm k q).1)
  have hj2 : ∀ k q, k ≠ i → P[k]? = some q → ∀ g, p.2.ownBlock = some g → q.2.ownBlock ≠ some g := fun k q hne hq g h1 h2 => by
    obtain ⟨hk1, hqe⟩ := List.getElem?_eq_some_iff.1 hq
    have inj := List.pairwise_iff_getElem.1 h.inj
    rcases Nat.lt_or_gt_of_ne hne with hlt | hlt
    · exact inj k i hk1 hi hlt g (by rw [hqe]; exact h2) (by rw [hpe]; exact h1)
    · exact inj i k hi hk1 hlt g (by rw [hpe]; exact h1) (by rw [hqe]; exact h2)
  have L1 := (h.raw.hole i).keep hk (fun q => (h.os p hpm b q).2.1 rfl) (fun g hg q => (h.os p hpm g q).2.2 hg) (fun q hq g hg e => by
    obtain ⟨k, hk1, rfl⟩ := List.getElem_of_mem hq
    rw [List.getElem_set] at hg
    split at hg
    · cases hg
    · exact hj2 k _ (by omega) (List.getElem?_eq_getElem (by simpa using hk1)) g e hg)
  have L2 := (L1.toS w).put i (⟨p.1.n, p.1.st, hs⟩, vv) ho (fun x hx => by
    rcases hb x hx with q | q
    · have := h.os p hpm x q
      exact ⟨.inl this.1, this.2⟩
    · have := (World.ownsRow.lt ho x hx).2
      exact ⟨.inr ⟨q, this⟩, fun e => by have := h.lt b h.sb; omega, fun e => by have := h.lt x (h.rs x e).1; omega⟩) (fun k q hne hq x hx e => by
    rw [List.getElem?_set_ne (fun z => hne z.symm)] at hq
    rcases hb x hx with r | r
    · exact hj2 k q hne hq x r e
    · have := h.lt x (h.os q (List.mem_of_getElem? hq) x e).1
      omega)
  rw [List.set_set] at L2
  have hv2 : v = .slice (some ⟨g, 0, none⟩) (P.set i (⟨p.1.n, p.1.st, hs⟩, vv)).length cap := by rw [List.length_set]; exact hv
  obtain ⟨L3, K3⟩ := L2.store hv2 (i * y.sz + jh) vv
  have e1 : (y.row P).set (i * y.sz + jh) vv = y.row (P.set i (⟨p.1.n, p.1.st, hs⟩, vv)) := by
    unfold Lay.row
    refine rowsC_set _ y.sz (fun p => hy.len p.1 p.2) P i hi jh vv _ ?_ hj.lt
    rw [hpe]
    exact hj.set p.1 hs p.2 vv
  have gS : S g := (h.rs g (by rw [hv]; rfl)).1
  refine ⟨?_, ?_, ?_⟩
  · refine out_of (v := v) (P := P.set i (⟨p.1.n, p.1.st, hs⟩, vv)) ?_ (by rw [List.map_set]) (KS.trans (Keep.setCell (Keep.refl (fun z => z = g) w2) (fun _ => rfl) vv) (fun k _ q => by rw [q]; exact gS))
    have := L3.full e1
    unfold newS at this ⊢
    simpa using this
  · have hL := h.at hy hp
    obtain ⟨g', cap', e, hg', hc, hf⟩ := hL
    rw [hv] at e
    cases e
    have c1 := hc jh p.2 (hj.cell _ _)
    refine ⟨p.2, ?_⟩
    rw [← c1]
    exact hk.cell (p := ⟨g, i * y.sz + jh, none⟩) hg' (fun q => (h.os p hpm g q).2.2 (by rw [hv]; rfl))
  · have hL := h.at hy hp
    obtain ⟨g', cap', e, hg', hc, hf⟩ := hL
    rw [hv] at e
    cases e
    rw [← hf (i * y.sz + jh)]
    exact hk.frozen (p := ⟨g, i * y.sz + jh, none⟩) hg' (fun q => (h.os p hpm g q).2.2 (by rw [hv]; rfl))
/-- A cell of the row that tells of the state. -/
theorem Ls.turn (hy : y.Good) (h : Ls y w S b v P) {i : Nat} {p : TV} (hp : P[i]? = some p) {g cap : Nat} (hv : v = .slice (some ⟨g, 0, none⟩) P.length cap) (j : Nat) (u : Value) (s : Int) (hj : j < y.sz) (hf : y.f ⟨p.1.n, s, p.1.hs⟩ p.2 = (y.f p.1 p.2).set j u) :
    Ls y (w.setCell ⟨g, i * y.sz + j, none⟩ u) S b v (P.set i (⟨p.1.n, s, p.1.hs⟩, p.2)) ∧ Keep S w (w.setCell ⟨g, i * y.sz + j, none⟩ u) := by
  obtain ⟨hi, hpe⟩ := List.getElem?_eq_some_iff.1 hp
  have hpm : p ∈ P := List.mem_of_getElem? hp
  have L2 := h.raw.put i (⟨p.1.n, s, p.1.hs⟩, p.2) (h.own p hpm) (h.os p hpm) (fun k q hne hq g h1 h2 => by
    obtain ⟨hk1, hqe⟩ := List.getElem?_eq_some_iff.1 hq
    have inj := List.pairwise_iff_getElem.1 h.inj
    rcases Nat.lt_or_gt_of_ne hne with hlt | hlt
    · exact inj k i hk1 hi hlt g (by rw [hqe]; exact h2) (by rw [hpe]; exact h1)
    · exact inj i k hi hk1 hlt g (by rw [hpe]; exact h1) (by rw [hqe]; exact h2))
  have hv2 : v = .slice (some ⟨g, 0, none⟩) (P.set i (⟨p.1.n, s, p.1.hs⟩, p.2)).length cap := by rw [List.length_set]; exact hv
  obtain ⟨L3, K3⟩ := L2.store hv2 (i * y.sz + j) u
  refine ⟨L3.full ?_, K3⟩
  unfold Lay.row
  refine rowsC_set _ y.sz (fun p => hy.len p.1 p.2) P i hi j u _ ?_ hj
  rw [hpe]
  exact hf
/-- One more in the list of the transaction at i. -/
theorem Ls.more (hy : y.Good) {jh : Nat} (hj : y.Has jh) (h : Ls y w S b v P) {i : Nat} {p : TV} (hp : P[i]? = some p) (hl : p.1.hs.length ≤ 1000) {g cap : Nat} (hv : v = .slice (some ⟨g, 0, none⟩) P.length cap) (c : Int) (ty : TypeId) :
    ∃ vv w2, (∃ a n c, vv = .slice a n c) ∧ (Builtin.append_ #[37, 37] ty #[p.2, .slice (some ⟨w.heap.size, 0, none⟩) 1 1]).run Try.prog (w.alloc (.cells #[.int .i64 c] 3)) = .ok vv w2 ∧ Keep (fun z => p.2.ownBlock = some z) w w2 ∧
      OutL y w S b ((P.map Prod.fst).set i ⟨p.1.n, p.1.st, p.1.hs ++ [c]⟩) (w2.setCell ⟨g, i * y.sz + jh, none⟩ vv) ∧ (∃ u, w2.cell? ⟨g, i * y.sz + jh, none⟩ = some u) ∧ w2.frozen? ⟨g, i * y.sz + jh, none⟩ = false := by
  have ho := h.own p (List.mem_of_getElem? hp)
  obtain ⟨vv, w2, hr, hg, hgr, hb⟩ := row37.app ty (w.alloc (.cells #[.int .i64 c] 3)) 0 p.2 p.1.hs.length _ (ho.alloc _) (some ⟨w.heap.size, 0, none⟩) 1 1 [.int .i64 c] rfl (lies_newA w [.int .i64 c] 3) (by intro u hu; simp at hu; subst hu; rfl) nofun (by omega) (Nat.zero_le _)
  have K2 : Keep (fun z => p.2.ownBlock = some z) w w2 := (Keep.of_below (alloc_below w _)).trans ((Keep.refl (fun z => p.2.ownBlock = some z) _).grown hgr (fun g hg _ => hg)) (fun _ _ q => q)
  refine ⟨vv, w2, (by obtain ⟨a, c, e, _⟩ := GRow.lies hg; exact ⟨a, _, c, e⟩), hr, K2, ?_⟩
  refine h.fill hy hj hp hv K2 (hs := p.1.hs ++ [c]) ?_ (fun x hx => ?_)
  · unfold Owns
    rw [List.length_append, List.map_append]
    exact hg
  · rcases hb with q | q
    · exact .inl (by rw [← q]; exact hx)
    · rw [q] at hx
      cases hx
      exact .inr (by simp)
end
end Go.Proofs.Ytadppakflbilcaa
