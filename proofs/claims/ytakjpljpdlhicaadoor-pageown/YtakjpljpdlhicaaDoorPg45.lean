import Derived.Test.YtakjpljpdlhicaaDoorXA
set_option linter.all false
namespace Go.Proofs.YtakjpljpdlhicaaDoor
open Go.RowKit Go.QK Go.Pg
set_option maxRecDepth 100000
/-! How things stand within PageOwn's 'ask'. -/
structure AS (w0 : World) (B L : Nat) (pl pc : Nat) (I0 : Nat → Option It) (w : World) (lab : Nat → Nat) (I : Nat → Option It) (vB vW vP vR : Value) (bs : List (Value × List Nat)) (ws : List (List Nat)) (ps qs : List (PageM × At)) (X : List Nat) (xs : List (Nat × Nat × List Value)) : Prop where
  own : Own w B lab I
  bx : Bx w lab I L 0 [vB, vW, vP, vR]
  ct : Ct I vB vW vP vR bs ws ps qs
  pl : I 1000 = some (itB (.slice (some ⟨pl, 0, none⟩) 1024 pc) X)
  lx : X.length = 1024
  ot : ∀ k, 1000 < k → I k = I0 k
  no : ∀ k, 4 < k → k < 100 → I k = none
  xs : ∀ x ∈ xs, 4 < x.2.1 ∧ x.2.1 < 100 ∧ Bx w lab I x.1 x.2.1 x.2.2
  bb : Below B w0 w
  bs : B ≤ w.heap.size
  bl : B ≤ L
section
variable {w0 : World} {B L : Nat} {pl pc : Nat} {I0 : Nat → Option It} {w w' : World} {lab : Nat → Nat} {I : Nat → Option It} {vB vW vP vR : Value} {bs : List (Value × List Nat)} {ws : List (List Nat)} {ps qs : List (PageM × At)} {X : List Nat} {xs : List (Nat × Nat × List Value)}
theorem AS.below (h : AS w0 B L pl pc I0 w lab I vB vW vP vR bs ws ps qs X xs) (hb : Below w.heap.size w w') : AS w0 B L pl pc I0 w' lab I vB vW vP vR bs ws ps qs X xs :=
  { h with own := h.own.below hb, bx := h.bx.below hb, xs := fun x hx => ⟨(h.xs x hx).1, (h.xs x hx).2.1, (h.xs x hx).2.2.below hb⟩, bb := h.bb.trans (hb.mono h.bs), bs := Nat.le_trans h.bs hb.size }
theorem AS.drew (h : AS w0 B L pl pc I0 w lab I vB vW vP vR bs ws ps qs X xs) : AS w0 B L pl pc I0 w.drew lab I vB vW vP vR bs ws ps qs X xs := h.below (Below.refl _ _).drew
/-- New things under a key of their own. -/
theorem AS.add (h : AS w0 B L pl pc I0 w lab I vB vW vP vR bs ws ps qs X xs) (hb : Below w.heap.size w w') (key : Nat) (it : It) (hr : GRow w' B it.e it.size it.v it.n it.xs) (hg : ∀ g, it.v.ownBlock = some g → w.heap.size ≤ g) (h0 : 100 ≤ key) (h9 : key < 1000) (h1 : key < 100 + bs.length → key < 100) (h2 : key < 200 + 2 * ps.length → key < 200) (h3 : key < 300 + 2 * ((qs.length + 3) / 4) → key < 300) :
    AS w0 B L pl pc I0 w' (relab lab w.heap.size key) (put I key it) vB vW vP vR bs ws ps qs X xs := by
  have k0 := Keep.of_below (S := fun _ => False) hb
  refine ⟨h.own.put k0 key (fun _ _ f => f.elim) it hr (fun g hgg hlt => by have := hg g hgg; omega), h.bx.put k0 key (fun _ _ f => f.elim) (by omega) it, h.ct.put key it (by omega) h1 h2 h3, ?_, h.lx, fun k k1 => ?_, fun k k1 k2 => ?_, fun x hx => ?_, h.bb.trans (hb.mono h.bs), Nat.le_trans h.bs hb.size, h.bl⟩
  · rw [put_other _ _ (by omega)]; exact h.pl
  · rw [put_other _ _ (by omega)]; exact h.ot k k1
  · rw [put_other _ _ (by omega)]; exact h.no k k1 k2
  · obtain ⟨x1, x2, x3⟩ := h.xs x hx
    exact ⟨x1, x2, x3.put k0 key (fun _ _ f => f.elim) (by omega) it⟩
theorem AS.add2 (h : AS w0 B L pl pc I0 w lab I vB vW vP vR bs ws ps qs X xs) (hb : Below w.heap.size w w') (key : Nat) (p : PageM) (u : At) (h1 : GRow w' w.heap.size 57 5 (.slice u.a p.cs.length u.c) p.cs.length (ctrsC p.cs)) (h2 : GRow w' w.heap.size 59 2 (.slice u.b p.gs.length u.d) p.gs.length (grpsC p.gs)) (h0 : 200 + 2 * ps.length ≤ key) (h9 : key + 1 < 1000) (h5 : key + 1 < 300 ∨ 300 + 2 * ((qs.length + 3) / 4) ≤ key) :
    AS w0 B L pl pc I0 w' (relab2 lab w.heap.size (.slice u.b p.gs.length u.d) key (key + 1)) (put (put I key (itC (p, u))) (key + 1) (itG (p, u))) vB vW vP vR bs ws ps qs X xs := by
  have n1 := h.ct.n1
  refine ⟨h.own.put2 hb key (key + 1) (itC (p, u)) (itG (p, u)) (GRow.mono h1 h.bs) (GRow.mono h2 h.bs) (fun g hg => (World.ownsRow.lt h1 g hg).1) (fun g hg => (World.ownsRow.lt h2 g hg).1) (show (57 : TypeId) ≠ 59 by decide), h.bx.put2 hb key (key + 1) (by omega) (by omega) (itC (p, u)) (itG (p, u)), (h.ct.put key _ (by omega) (by omega) (by omega) (by omega)).put (key + 1) _ (by omega) (by omega) (by omega) (by omega), ?_, h.lx, fun k k1 => ?_, fun k k1 k2 => ?_, fun x hx => ?_, h.bb.trans (hb.mono h.bs), Nat.le_trans h.bs hb.size, h.bl⟩
  · rw [put_other _ _ (by omega), put_other _ _ (by omega)]; exact h.pl
  · rw [put_other _ _ (by omega), put_other _ _ (by omega)]; exact h.ot k k1
  · rw [put_other _ _ (by omega), put_other _ _ (by omega)]; exact h.no k k1 k2
  · obtain ⟨x1, x2, x3⟩ := h.xs x hx
    exact ⟨x1, x2, x3.put2 hb key (key + 1) (by omega) (by omega) (itC (p, u)) (itG (p, u))⟩
/-- A new variable. -/
theorem AS.box (h : AS w0 B L pl pc I0 w lab I vB vW vP vR bs ws ps qs X xs) (k : Nat) (k1 : 4 < k) (k2 : k < 100) (cs : List Value) (b : Nat) (hb : Below w.heap.size w w') (hb1 : w.heap.size ≤ b) (hc : Cells w' b cs) :
    AS w0 B L pl pc I0 w' (relab lab w.heap.size k) I vB vW vP vR bs ws ps qs X ((b, k, cs) :: xs) := by
  have rl : ∀ z, z < w.heap.size → relab lab w.heap.size k z = lab z := fun z hz => by unfold relab; rw [if_pos hz]
  have bxx : ∀ {M k' : Nat} {vs : List Value}, Bx w lab I M k' vs → Bx w' (relab lab w.heap.size k) I M k' vs := fun z => ⟨z.cells.below hb, by rw [rl _ z.cells.1]; exact z.lb, z.no⟩
  refine ⟨⟨fun j it hj => ⟨GRow.below (h.own.at_ j it hj).1 hb, fun g hg => by rw [rl g (World.ownsRow.lt (h.own.at_ j it hj).1 g hg).2]; exact (h.own.at_ j it hj).2 g hg⟩⟩, bxx h.bx, h.ct, h.pl, h.lx, h.ot, h.no, fun x hx => ?_, h.bb.trans (hb.mono h.bs), Nat.le_trans h.bs hb.size, h.bl⟩
  rcases List.mem_cons.1 hx with rfl | hx
  · exact ⟨k1, k2, hc, by unfold relab; rw [if_neg (by omega)], h.no k k1 k2⟩
  · exact ⟨(h.xs x hx).1, (h.xs x hx).2.1, bxx (h.xs x hx).2.2⟩
/-- A byte is laid at the place. -/
theorem AS.lay (h : AS w0 B L pl pc I0 w lab I vB vW vP vR bs ws ps qs X xs) (j y : Nat) :
    AS w0 B L pl pc I0 (w.setCell ⟨pl, j, none⟩ (.int .u8 (y : Int))) lab (put I 1000 (itB (.slice (some ⟨pl, 0, none⟩) 1024 pc) (X.set j y))) vB vW vP vR bs ws ps qs (X.set j y) xs := by
  obtain ⟨q1, q2⟩ := h.own.at_ _ _ h.pl
  have hl := q2 pl rfl
  have kk : Keep (fun z => z = pl) w (w.setCell ⟨pl, j, none⟩ (.int .u8 (y : Int))) := Keep.setCell (S := fun z => z = pl) (Keep.refl _ _) (fun _ => rfl) _
  have hS : ∀ b, b < w.heap.size → b = pl → lab b = 1000 := fun b _ e => by rw [e]; exact hl
  have r1 := (World.ownsRow.stored q1 j (.int .u8 (y : Int))).1
  have e1 : ((ints X).map (Value.int .u8)).set j (.int .u8 (y : Int)) = (ints (X.set j y)).map (Value.int .u8) := by simp [ints, List.map_set]
  rw [e1] at r1
  have bxx : ∀ {M k' : Nat} {vs : List Value}, k' ≠ 1000 → Bx w lab I M k' vs → Bx (w.setCell ⟨pl, j, none⟩ (.int .u8 (y : Int))) lab (put I 1000 (itB (.slice (some ⟨pl, 0, none⟩) 1024 pc) (X.set j y))) M k' vs := fun hk z => ⟨z.cells.keep kk (fun e => hk (by rw [← z.lb, e]; exact hl)), z.lb, by rw [put_other _ _ hk]; exact z.no⟩
  refine ⟨⟨fun k it hk => ?_⟩, bxx (by omega) h.bx, h.ct.put _ _ (by omega) (by have := h.ct.n1; omega) (by have := h.ct.n2; omega) (by have := h.ct.n3; omega), put_same _ _ _, by simpa using h.lx, fun k k1 => ?_, fun k k1 k2 => ?_, fun x hx => ⟨(h.xs x hx).1, (h.xs x hx).2.1, bxx (by have := (h.xs x hx).2.1; omega) (h.xs x hx).2.2⟩, h.bb.trans (kk.below h.bs (fun z hz e => by have := (World.ownsRow.lt q1 pl rfl).1; omega)), by simpa using h.bs, h.bl⟩
  · by_cases e : k = 1000
    · subst e
      rw [put_same] at hk
      cases hk
      exact ⟨r1, q2⟩
    · rw [put_other _ _ e] at hk
      obtain ⟨p1, p2⟩ := h.own.at_ k it hk
      exact ⟨GRow.keep p1 kk (fun g hg s => by have := p2 g hg; rw [s] at this; exact e (by omega)), p2⟩
  · rw [put_other _ _ (by omega)]; exact h.ot k k1
  · rw [put_other _ _ (by omega)]; exact h.no k k1 k2
/-- A row of the four is made longer, and laid into its cell. -/
theorem AS.push {ty t0 e : TypeId} {z : Value} {size bytes : Nat} (hu : Tryd.prog.underlying t0 = some (.slice e)) (hin : (Tryd.prog.info? e).map (fun i => (i.zero, i.size, i.bytes)) = some (some z, size, bytes)) (hz : z.cells.size = size) (hs : 0 < size) (hby : bytes ≤ 100)
    (h : AS w0 B L pl pc I0 w lab I vB vW vP vR bs ws ps qs X xs) (c : Nat) (hc : c < 4) {v : Value} {n : Nat} {zs : List Value} (hi : I (c + 1) = some ⟨e, size, v, n, zs⟩) (ad : Addr) (m cp : Nat) (news : List Value) (hl : news.length = m * size) (hnews : Lies w (some ad) news) (h1 : ∀ u ∈ news, u.oneCell' = true) (h63 : n + m ≤ 2000000) :
    ∃ v' x', (Builtin.append_ #[t0, t0] ty #[v, .slice (some ad) m cp]).run Tryd.prog w = .ok v' x' ∧ (∃ a' c', v' = .slice a' (n + m) c') ∧ Bx x' (relab lab w.heap.size (c + 1)) (put I (c + 1) ⟨e, size, v', n + m, zs ++ news⟩) L 0 [vB, vW, vP, vR] ∧
      (∀ k it, k ≠ c + 1 → I k = some it → GRow x' B it.e it.size it.v it.n it.xs) ∧ (∀ x ∈ xs, Cells x' x.1 x.2.2) ∧ w.heap.size ≤ x'.heap.size ∧ (∀ x ∈ xs, L ≠ x.1) ∧ (∀ k it g, I k = some it → it.v.ownBlock = some g → L ≠ g) ∧
      ∀ vB' vW' vP' vR' bs' ws' ps' qs', [vB, vW, vP, vR].set c v' = [vB', vW', vP', vR'] → Ct (put I (c + 1) ⟨e, size, v', n + m, zs ++ news⟩) vB' vW' vP' vR' bs' ws' ps' qs' →
        AS w0 B L pl pc I0 (x'.setCell ⟨L, c, none⟩ v') (relab lab w.heap.size (c + 1)) (put I (c + 1) ⟨e, size, v', n + m, zs ++ news⟩) vB' vW' vP' vR' bs' ws' ps' qs' X xs := by
  obtain ⟨v', x', hr, ho, hk, hS⟩ := Own.push hu hin hz hs hby ty h.own (c + 1) hi ad m cp news hl hnews h1 h63 h.bs
  have hbx := h.bx.put hk (c + 1) hS (by omega) ⟨e, size, v', n + m, zs ++ news⟩
  have hxx : ∀ x ∈ xs, 4 < x.2.1 ∧ x.2.1 < 100 ∧ Bx x' (relab lab w.heap.size (c + 1)) (put I (c + 1) ⟨e, size, v', n + m, zs ++ news⟩) x.1 x.2.1 x.2.2 := fun x hx => ⟨(h.xs x hx).1, (h.xs x hx).2.1, (h.xs x hx).2.2.put hk (c + 1) hS (by have := (h.xs x hx).1; omega) _⟩
  have bL : Below B w0 x' := h.bb.trans (hk.below h.bs (fun z hz e => by have := (World.ownsRow.lt (h.own.at_ _ _ hi).1 z e).1; omega))
  obtain ⟨a', c', e', -⟩ := GRow.lies (ho.at_ (c + 1) _ (put_same _ _ _)).1
  refine ⟨v', x', hr, ⟨a', c', e'⟩, hbx, fun k it hne hk' => (ho.at_ k it (by rw [put_other _ _ hne]; exact hk')).1, fun x hx => (hxx x hx).2.2.cells, hk.size, fun x hx e => by have := h.bx.lb; have := (h.xs x hx).2.2.lb; rw [e] at *; have := (h.xs x hx).1; omega, fun k it g hk' hg e => ?_, fun vB' vW' vP' vR' bs' ws' ps' qs' hset hct => ?_⟩
  · have := (h.own.at_ k it hk').2 g hg
    rw [← e, h.bx.lb] at this
    rw [← this, h.bx.no] at hk'
    cases hk'
  · have hlen : c < [vB, vW, vP, vR].length := by simpa using hc
    refine ⟨ho.cell hbx c v', by rw [← hset]; exact hbx.cell hlen v', hct, ?_, h.lx, fun k k1 => ?_, fun k k1 k2 => ?_, fun x hx => ⟨(hxx x hx).1, (hxx x hx).2.1, (hxx x hx).2.2.other hbx (by have := (hxx x hx).1; omega) c v'⟩, bL.trans ((Keep.setCell (S := fun z => z = L) (Keep.refl _ x') (fun _ => rfl) v').below (Nat.le_trans h.bs hk.size) (fun z hz e => by have := h.bl; omega)), by have := h.bs; have := hk.size; simp; omega, h.bl⟩
    · rw [put_other _ _ (by omega)]; exact h.pl
    · rw [put_other _ _ (by omega)]; exact h.ot k k1
    · rw [put_other _ _ (by omega)]; exact h.no k k1 k2
end
end Go.Proofs.YtakjpljpdlhicaaDoor
