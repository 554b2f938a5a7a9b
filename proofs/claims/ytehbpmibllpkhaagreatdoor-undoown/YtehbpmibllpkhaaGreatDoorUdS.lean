import Derived.Test.YtehbpmibllpkhaaGreatDoorUd14
set_option linter.all false
namespace Go.Proofs.YtehbpmibllpkhaaGreatDoor
open Go.RowKit Go.QK Go.Maps Go.QM Go.QU
set_option maxRecDepth 100000
/-! A story in memory (what it tells does not matter: that it goes through). -/
structure PL where
  id : Int
  grp : Int
  lo : Int
  hi : Int
  val : Int
  wp : Int
  wi : Int
  sp : Int
  si : Int
def plC (x : PL) : List Value := [.int .i64 x.id, .int .i64 x.grp, .int .i64 x.lo, .int .i64 x.hi, .int .i64 x.val, .int .i64 x.wp, .int .i64 x.wi, .int .i64 x.sp, .int .i64 x.si]
theorem plC_len (x : PL) : (plC x).length = 9 := rfl
def slC (x : Int × Int) : List Value := [.int .i64 x.1, .int .i64 x.2]
theorem slC_len (x : Int × Int) : (slC x).length = 2 := rfl
structure OpM where
  tx : Int
  last : Int
  com : Bool
  nv : Value
  hv : Value
def opC (x : OpM) : List Value := [.int .i64 x.tx, .int .i64 x.last, .bool x.com, x.nv, x.hv]
theorem opC_len (x : OpM) : (opC x).length = 5 := rfl
abbrev intsV (l : List Int) : List Value := l.map (Value.int .i64)
abbrev boolsV (l : List Bool) : List Value := l.map Value.bool
structure SV where
  pages : Int
  vR : Value
  R : List RZ
  vL : Value
  P : List PL
  vG : Value
  G : List (Int × Int)
  vI : Value
  I : List Int
  vV : Value
  V : List OpM
  next : Int
  vS : Value
  S : List Int
abbrev svA (s : SV) : Array Value := #[.int .i64 s.pages, s.vR, s.vL, s.vG, s.vI, s.vV, .int .i64 s.next, s.vS]
/-- Nets and holds of one that lives. -/
structure OpOk (w : World) (B : Nat) (vS : Value) (o : OpM) : Prop where
  n : ∃ xs : List Int, (xs.length = 200 ∧ ∀ x ∈ xs, I64 x) ∧ GRow w B 2 1 o.nv 200 (intsV xs)
  h : ∃ bs : List Bool, bs.length = 200 ∧ GRow w B 4 1 o.hv 200 (boolsV bs)
  ap : ∀ g, o.nv.ownBlock = some g → vS.ownBlock ≠ some g
structure Sty (w : World) (B sb : Nat) (s : SV) : Prop where
  box : RBox w sb 74 (svA s)
  hb : B ≤ sb
  r : GRow w B 53 17 s.vR s.R.length (rzs s.R)
  l : GRow w B 171 9 s.vL s.P.length (rowsC plC s.P)
  g : GRow w B 43 2 s.vG s.G.length (rowsC slC s.G)
  i : GRow w B 3 1 s.vI s.I.length (intsV s.I)
  v : GRow w B 133 5 s.vV s.V.length (rowsC opC s.V)
  ss : GRow w B 2 1 s.vS s.S.length (intsV s.S)
  op : ∀ o ∈ s.V, OpOk w B s.vS o
  pg : 2 ≤ s.pages ∧ s.pages ≤ 1000
  rok : ∀ r ∈ s.R, I64 r.delta ∧ I64 r.id
  pok : ∀ p ∈ s.P, I64 p.id
/-! What is kept, by the type of the blocks that are touched. -/
def OfTy (w : World) (t : TypeId) (S : Nat → Prop) : Prop := ∀ z, z < w.heap.size → S z → ∃ cur, w.heap[z]? = some (.cells cur t (0, 0))
theorem grow_ty {w : World} {B e size n g : Nat} {v : Value} {xs : List Value} (h : GRow w B e size v n xs) (hg : v.ownBlock = some g) : ∃ cur, w.heap[g]? = some (.cells cur e (0, 0)) := by
  rcases h.2 with ⟨q, _⟩ | ⟨g', cap, cur, q, _, h2, _⟩
  · rw [q] at hg; cases hg
  · rw [q] at hg; cases hg; exact ⟨cur, h2⟩
theorem ofty_row {w : World} {B e size n : Nat} {v : Value} {xs : List Value} (h : GRow w B e size v n xs) : OfTy w e (fun z => v.ownBlock = some z) := fun z _ hz => grow_ty h hz
theorem ofty_box {w : World} {b : Nat} {t : TypeId} {cs : Array Value} (h : RBox w b t cs) : OfTy w t (fun z => z = b) := fun z _ hz => by subst hz; exact ⟨cs, h⟩
theorem GRow.keepT {w w' : World} {B e size n : Nat} {t : TypeId} {S : Nat → Prop} {v : Value} {xs : List Value} (h : GRow w B e size v n xs) (k : Keep S w w') (hS : OfTy w t S) (ne : e ≠ t) : GRow w' B e size v n xs := by
  refine GRow.keep h k (fun g hg s => ?_)
  obtain ⟨c1, e1⟩ := grow_ty h hg
  obtain ⟨c2, e2⟩ := hS g (World.ownsRow.lt h g hg).2 s
  rw [e1] at e2
  cases e2
  exact ne rfl
theorem RBox.keepT {w w' : World} {b : Nat} {e t : TypeId} {S : Nat → Prop} {cs : Array Value} (h : RBox w b e cs) (k : Keep S w w') (hS : OfTy w t S) (ne : e ≠ t) : RBox w' b e cs := by
  refine h.keep k (fun s => ?_)
  obtain ⟨c2, e2⟩ := hS b h.lt s
  rw [show w.heap[b]? = some (.cells cs e) from h] at e2
  cases e2
  exact ne rfl
theorem OpOk.keepT {w w' : World} {B : Nat} {vS : Value} {o : OpM} {S : Nat → Prop} {t : TypeId} (h : OpOk w B vS o) (k : Keep S w w') (hS : OfTy w t S) (n1 : 2 ≠ t) (n2 : 4 ≠ t) : OpOk w' B vS o := by
  obtain ⟨xs, hx, hr⟩ := h.n
  obtain ⟨bs, hy, hs⟩ := h.h
  exact ⟨⟨xs, hx, hr.keepT k hS n1⟩, ⟨bs, hy, hs.keepT k hS n2⟩, h.ap⟩
section
variable {w w' : World} {B sb : Nat} {s : SV} {S : Nat → Prop}
theorem Sty.below (h : Sty w B sb s) (hk : Below w.heap.size w w') : Sty w' B sb s :=
  ⟨RBox.below h.box hk, h.hb, h.r.below hk, h.l.below hk, h.g.below hk, h.i.below hk, h.v.below hk, h.ss.below hk, fun o ho => by
    obtain ⟨xs, hx, hr⟩ := (h.op o ho).n
    obtain ⟨bs, hy, hs⟩ := (h.op o ho).h
    exact ⟨⟨xs, hx, hr.below hk⟩, ⟨bs, hy, hs.below hk⟩, (h.op o ho).ap⟩, h.pg, h.rok, h.pok⟩
/-- Blocks of one type are touched, none of them a row of the story's. -/
theorem Sty.other {t : TypeId} (h : Sty w B sb s) (k : Keep S w w') (hS : OfTy w t S) (n : 74 ≠ t ∧ 53 ≠ t ∧ 171 ≠ t ∧ 43 ≠ t ∧ 3 ≠ t ∧ 133 ≠ t ∧ 2 ≠ t ∧ 4 ≠ t) : Sty w' B sb s :=
  ⟨RBox.keepT h.box k hS n.1, h.hb, h.r.keepT k hS n.2.1, h.l.keepT k hS n.2.2.1, h.g.keepT k hS n.2.2.2.1, h.i.keepT k hS n.2.2.2.2.1, h.v.keepT k hS n.2.2.2.2.2.1, h.ss.keepT k hS n.2.2.2.2.2.2.1, fun o ho => (h.op o ho).keepT k hS n.2.2.2.2.2.2.1 n.2.2.2.2.2.2.2, h.pg, h.rok, h.pok⟩
theorem OpOk.same {vS vS' : Value} {o : OpM} (h : OpOk w B vS o) (e : ∀ g, o.nv.ownBlock = some g → vS'.ownBlock ≠ some g) : OpOk w B vS' o := ⟨h.n, h.h, e⟩
theorem Sty.setR (h : Sty w B sb s) {w1 : World} {v' : Value} {L' : List RZ} (g1 : GRow w1 B 53 17 v' L'.length (rzs L')) (k : Keep (fun z => s.vR.ownBlock = some z) w w1) (rok : ∀ r ∈ L', I64 r.delta ∧ I64 r.id) : Sty (w1.setCell ⟨sb, 1, none⟩ v') B sb { s with vR := v', R := L' } := by
  have t := ofty_row h.r
  have bx := RBox.keepT h.box k t (by decide)
  have k2 : Keep (fun z => z = sb) w1 (w1.setCell ⟨sb, 1, none⟩ v') := (Keep.refl (fun z => z = sb) _).setCell (g := sb) (j := 1) (fun _ => rfl) _
  have t2 := ofty_box bx
  exact ⟨RBox.setCell bx 1 v', h.hb, g1.keepT k2 t2 (by decide), (h.l.keepT k t (by decide)).keepT k2 t2 (by decide), (h.g.keepT k t (by decide)).keepT k2 t2 (by decide), (h.i.keepT k t (by decide)).keepT k2 t2 (by decide), (h.v.keepT k t (by decide)).keepT k2 t2 (by decide), (h.ss.keepT k t (by decide)).keepT k2 t2 (by decide), fun o ho => ((h.op o ho).keepT k t (by decide) (by decide)).keepT k2 t2 (by decide) (by decide), h.pg, rok, h.pok⟩
theorem Sty.setP (h : Sty w B sb s) {w1 : World} {v' : Value} {L' : List PL} (g1 : GRow w1 B 171 9 v' L'.length (rowsC plC L')) (k : Keep (fun z => s.vL.ownBlock = some z) w w1) (pok : ∀ p ∈ L', I64 p.id) : Sty (w1.setCell ⟨sb, 2, none⟩ v') B sb { s with vL := v', P := L' } := by
  have t := ofty_row h.l
  have bx := RBox.keepT h.box k t (by decide)
  have k2 : Keep (fun z => z = sb) w1 (w1.setCell ⟨sb, 2, none⟩ v') := (Keep.refl (fun z => z = sb) _).setCell (g := sb) (j := 2) (fun _ => rfl) _
  have t2 := ofty_box bx
  exact ⟨RBox.setCell bx 2 v', h.hb, (h.r.keepT k t (by decide)).keepT k2 t2 (by decide), g1.keepT k2 t2 (by decide), (h.g.keepT k t (by decide)).keepT k2 t2 (by decide), (h.i.keepT k t (by decide)).keepT k2 t2 (by decide), (h.v.keepT k t (by decide)).keepT k2 t2 (by decide), (h.ss.keepT k t (by decide)).keepT k2 t2 (by decide), fun o ho => ((h.op o ho).keepT k t (by decide) (by decide)).keepT k2 t2 (by decide) (by decide), h.pg, h.rok, pok⟩
theorem Sty.setG (h : Sty w B sb s) {w1 : World} {v' : Value} {L' : List (Int × Int)} (g1 : GRow w1 B 43 2 v' L'.length (rowsC slC L')) (k : Keep (fun z => s.vG.ownBlock = some z) w w1) : Sty (w1.setCell ⟨sb, 3, none⟩ v') B sb { s with vG := v', G := L' } := by
  have t := ofty_row h.g
  have bx := RBox.keepT h.box k t (by decide)
  have k2 : Keep (fun z => z = sb) w1 (w1.setCell ⟨sb, 3, none⟩ v') := (Keep.refl (fun z => z = sb) _).setCell (g := sb) (j := 3) (fun _ => rfl) _
  have t2 := ofty_box bx
  exact ⟨RBox.setCell bx 3 v', h.hb, (h.r.keepT k t (by decide)).keepT k2 t2 (by decide), (h.l.keepT k t (by decide)).keepT k2 t2 (by decide), g1.keepT k2 t2 (by decide), (h.i.keepT k t (by decide)).keepT k2 t2 (by decide), (h.v.keepT k t (by decide)).keepT k2 t2 (by decide), (h.ss.keepT k t (by decide)).keepT k2 t2 (by decide), fun o ho => ((h.op o ho).keepT k t (by decide) (by decide)).keepT k2 t2 (by decide) (by decide), h.pg, h.rok, h.pok⟩
theorem Sty.setI (h : Sty w B sb s) {w1 : World} {v' : Value} {L' : List Int} (g1 : GRow w1 B 3 1 v' L'.length (intsV L')) (k : Keep (fun z => s.vI.ownBlock = some z) w w1) : Sty (w1.setCell ⟨sb, 4, none⟩ v') B sb { s with vI := v', I := L' } := by
  have t := ofty_row h.i
  have bx := RBox.keepT h.box k t (by decide)
  have k2 : Keep (fun z => z = sb) w1 (w1.setCell ⟨sb, 4, none⟩ v') := (Keep.refl (fun z => z = sb) _).setCell (g := sb) (j := 4) (fun _ => rfl) _
  have t2 := ofty_box bx
  exact ⟨RBox.setCell bx 4 v', h.hb, (h.r.keepT k t (by decide)).keepT k2 t2 (by decide), (h.l.keepT k t (by decide)).keepT k2 t2 (by decide), (h.g.keepT k t (by decide)).keepT k2 t2 (by decide), g1.keepT k2 t2 (by decide), (h.v.keepT k t (by decide)).keepT k2 t2 (by decide), (h.ss.keepT k t (by decide)).keepT k2 t2 (by decide), fun o ho => ((h.op o ho).keepT k t (by decide) (by decide)).keepT k2 t2 (by decide) (by decide), h.pg, h.rok, h.pok⟩
theorem Sty.setV (h : Sty w B sb s) {w1 : World} {v' : Value} {L' : List OpM} (g1 : GRow w1 B 133 5 v' L'.length (rowsC opC L')) (k : Keep (fun z => s.vV.ownBlock = some z) w w1) (op : ∀ o ∈ L', OpOk w1 B s.vS o) : Sty (w1.setCell ⟨sb, 5, none⟩ v') B sb { s with vV := v', V := L' } := by
  have t := ofty_row h.v
  have bx := RBox.keepT h.box k t (by decide)
  have k2 : Keep (fun z => z = sb) w1 (w1.setCell ⟨sb, 5, none⟩ v') := (Keep.refl (fun z => z = sb) _).setCell (g := sb) (j := 5) (fun _ => rfl) _
  have t2 := ofty_box bx
  exact ⟨RBox.setCell bx 5 v', h.hb, (h.r.keepT k t (by decide)).keepT k2 t2 (by decide), (h.l.keepT k t (by decide)).keepT k2 t2 (by decide), (h.g.keepT k t (by decide)).keepT k2 t2 (by decide), (h.i.keepT k t (by decide)).keepT k2 t2 (by decide), g1.keepT k2 t2 (by decide), (h.ss.keepT k t (by decide)).keepT k2 t2 (by decide), fun o ho => (op o ho).keepT k2 t2 (by decide) (by decide), h.pg, h.rok, h.pok⟩
theorem Sty.setS (h : Sty w B sb s) {w1 : World} {v' : Value} {L' : List Int} (g1 : GRow w1 B 2 1 v' L'.length (intsV L')) (k : Keep (fun z => s.vS.ownBlock = some z) w w1) (nw : v'.ownBlock = s.vS.ownBlock ∨ v'.ownBlock = some w.heap.size) : Sty (w1.setCell ⟨sb, 7, none⟩ v') B sb { s with vS := v', S := L' } := by
  have t := ofty_row h.ss
  have bx := RBox.keepT h.box k t (by decide)
  have k2 : Keep (fun z => z = sb) w1 (w1.setCell ⟨sb, 7, none⟩ v') := (Keep.refl (fun z => z = sb) _).setCell (g := sb) (j := 7) (fun _ => rfl) _
  have t2 := ofty_box bx
  refine ⟨RBox.setCell bx 7 v', h.hb, (h.r.keepT k t (by decide)).keepT k2 t2 (by decide), (h.l.keepT k t (by decide)).keepT k2 t2 (by decide), (h.g.keepT k t (by decide)).keepT k2 t2 (by decide), (h.i.keepT k t (by decide)).keepT k2 t2 (by decide), (h.v.keepT k t (by decide)).keepT k2 t2 (by decide), g1.keepT k2 t2 (by decide), fun o ho => ?_, h.pg, h.rok, h.pok⟩
  obtain ⟨xs, hx, hr⟩ := (h.op o ho).n
  obtain ⟨bs, hy, hs⟩ := (h.op o ho).h
  have ap := (h.op o ho).ap
  refine ⟨⟨xs, hx, (GRow.keep hr k (fun g hg => ap g hg)).keepT k2 t2 (by decide)⟩, ⟨bs, hy, (hs.keepT k t (by decide)).keepT k2 t2 (by decide)⟩, fun g hg => ?_⟩
  have hlt := (World.ownsRow.lt hr g hg).2
  rcases nw with q | q
  · intro e; exact ap g hg (q ▸ e)
  · intro e; rw [q] at e; cases e; omega
/-- A cell of a row is written over: rows of its type stay rows. -/
theorem grow_set {e n : Nat} {v : Value} {xs : List Value} {g j : Nat} {u : Value} (h : GRow w B e 1 v n xs) : ∃ ys : List Value, GRow (w.setCell ⟨g, j, none⟩ u) B e 1 v n ys ∧ (∀ y ∈ ys, y ∈ xs ∨ y = u) := by
  by_cases hg : v.ownBlock = some g
  · obtain ⟨a, c, rfl, h1, h2, -, -, h5⟩ := GRow.lies h
    cases a with
    | none => cases hg
    | some ad =>
      obtain ⟨q1, q2⟩ := h5 ad rfl
      obtain ⟨b, o, sp⟩ := ad
      cases q1
      cases q2
      have eb : b = g := by simpa [Value.ownBlock] using hg
      subst eb
      exact ⟨_, (World.ownsRow.stored h j u).1, fun y hy => (List.mem_or_eq_of_mem_set hy).elim .inl .inr⟩
  · exact ⟨xs, GRow.keep h ((Keep.refl (fun z => z = g) w).setCell (g := g) (j := j) (fun _ => rfl) u) (fun q hq e => hg (by rw [hq, e])), fun y hy => .inl hy⟩
theorem ints_of {ys : List Value} (h : ∀ y ∈ ys, ∃ z : Int, y = .int .i64 z) : ∃ zs : List Int, ys = intsV zs := by
  induction ys with
  | nil => exact ⟨[], rfl⟩
  | cons y r ih =>
    obtain ⟨z, rfl⟩ := h y (List.mem_cons_self ..)
    obtain ⟨zs, e⟩ := ih (fun y hy => h y (List.mem_cons_of_mem _ hy))
    exact ⟨z :: zs, by rw [e]; rfl⟩
theorem bools_of {ys : List Value} (h : ∀ y ∈ ys, ∃ z : Bool, y = .bool z) : ∃ zs : List Bool, ys = boolsV zs := by
  induction ys with
  | nil => exact ⟨[], rfl⟩
  | cons y r ih =>
    obtain ⟨z, rfl⟩ := h y (List.mem_cons_self ..)
    obtain ⟨zs, e⟩ := ih (fun y hy => h y (List.mem_cons_of_mem _ hy))
    exact ⟨z :: zs, by rw [e]; rfl⟩
theorem ints_set {n : Nat} {v : Value} {l : List Int} {g j : Nat} {z : Int} (h : GRow w B 2 1 v n (intsV l)) : ∃ l' : List Int, GRow (w.setCell ⟨g, j, none⟩ (.int .i64 z)) B 2 1 v n (intsV l') ∧ l'.length = n ∧ (∀ y ∈ l', y ∈ l ∨ y = z) := by
  obtain ⟨ys, hy, hm⟩ := grow_set (g := g) (j := j) (u := .int .i64 z) h
  obtain ⟨l', rfl⟩ := ints_of (ys := ys) (fun y q => by
    rcases hm y q with r | r
    · obtain ⟨a, _, rfl⟩ := List.mem_map.1 r; exact ⟨a, rfl⟩
    · exact ⟨z, r⟩)
  refine ⟨l', hy, by have := hy.1; simpa using this, fun y q => ?_⟩
  rcases hm _ (List.mem_map_of_mem q) with r | r
  · obtain ⟨a, ha, e⟩ := List.mem_map.1 r
    cases e
    exact .inl ha
  · cases r
    exact .inr rfl
theorem bools_set {n : Nat} {v : Value} {l : List Bool} {g j : Nat} {z : Bool} (h : GRow w B 4 1 v n (boolsV l)) : ∃ l' : List Bool, GRow (w.setCell ⟨g, j, none⟩ (.bool z)) B 4 1 v n (boolsV l') ∧ l'.length = n := by
  obtain ⟨ys, hy, hm⟩ := grow_set (g := g) (j := j) (u := .bool z) h
  obtain ⟨l', rfl⟩ := bools_of (ys := ys) (fun y q => by
    rcases hm y q with r | r
    · obtain ⟨a, _, rfl⟩ := List.mem_map.1 r; exact ⟨a, rfl⟩
    · exact ⟨z, r⟩)
  exact ⟨l', hy, by have := hy.1; simpa using this⟩
/-- An int of the nets, or of what is settled, is written over. -/
theorem Sty.setNet (h : Sty w B sb s) {g j : Nat} (hg : ∃ cur, w.heap[g]? = some (.cells cur 2 (0, 0))) (z : Int) (iz : I64 z) : ∃ l' : List Int, l'.length = s.S.length ∧ Sty (w.setCell ⟨g, j, none⟩ (.int .i64 z)) B sb { s with S := l' } := by
  have k : Keep (fun z => z = g) w (w.setCell ⟨g, j, none⟩ (.int .i64 z)) := (Keep.refl (fun z => z = g) _).setCell (g := g) (j := j) (fun _ => rfl) _
  have t : OfTy w 2 (fun z => z = g) := fun y _ e => by subst e; exact hg
  obtain ⟨l', g1, e1, -⟩ := ints_set (g := g) (j := j) (z := z) h.ss
  rw [← e1] at g1
  refine ⟨l', e1, RBox.keepT h.box k t (by decide), h.hb, h.r.keepT k t (by decide), h.l.keepT k t (by decide), h.g.keepT k t (by decide), h.i.keepT k t (by decide), h.v.keepT k t (by decide), g1, fun o ho => ?_, h.pg, h.rok, h.pok⟩
  obtain ⟨xs, hx, hr⟩ := (h.op o ho).n
  obtain ⟨bs, hy, hs⟩ := (h.op o ho).h
  obtain ⟨l2, g2, e2, m2⟩ := ints_set (g := g) (j := j) (z := z) hr
  exact ⟨⟨l2, ⟨e2, fun y q => (m2 y q).elim (hx.2 y) (fun e => by rw [e]; exact iz)⟩, g2⟩, ⟨bs, hy, hs.keepT k t (by decide)⟩, (h.op o ho).ap⟩
theorem Sty.setHold (h : Sty w B sb s) {g j : Nat} (hg : ∃ cur, w.heap[g]? = some (.cells cur 4 (0, 0))) (z : Bool) : Sty (w.setCell ⟨g, j, none⟩ (.bool z)) B sb s := by
  have k : Keep (fun z => z = g) w (w.setCell ⟨g, j, none⟩ (.bool z)) := (Keep.refl (fun z => z = g) _).setCell (g := g) (j := j) (fun _ => rfl) _
  have t : OfTy w 4 (fun z => z = g) := fun y _ e => by subst e; exact hg
  refine ⟨RBox.keepT h.box k t (by decide), h.hb, h.r.keepT k t (by decide), h.l.keepT k t (by decide), h.g.keepT k t (by decide), h.i.keepT k t (by decide), h.v.keepT k t (by decide), h.ss.keepT k t (by decide), fun o ho => ?_, h.pg, h.rok, h.pok⟩
  obtain ⟨xs, hx, hr⟩ := (h.op o ho).n
  obtain ⟨bs, hy, hs⟩ := (h.op o ho).h
  obtain ⟨l2, g2, e2⟩ := bools_set (g := g) (j := j) (z := z) hs
  exact ⟨⟨xs, hx, hr.keepT k t (by decide)⟩, ⟨l2, e2, g2⟩, (h.op o ho).ap⟩
theorem rowsC_set {α : Type} (f : α → List Value) (n : Nat) (hf : ∀ x, (f x).length = n) : ∀ (l : List α) (k j : Nat) (hk : k < l.length) (_ : j < n) (u : Value) (x : α) (_ : (f l[k]).set j u = f x), (rowsC f l).set (k * n + j) u = rowsC f (l.set k x)
  | [], k, j, hk, _, _, _, _ => by simp at hk
  | a :: l, 0, j, _, hj, u, x, e => by
    show (f a ++ rowsC f l).set (0 * n + j) u = f x ++ rowsC f l
    rw [Nat.zero_mul, Nat.zero_add, List.set_append_left _ _ (by rw [hf]; exact hj), ← e]
    rfl
  | a :: l, k + 1, j, hk, hj, u, x, e => by
    show (f a ++ rowsC f l).set ((k + 1) * n + j) u = f a ++ rowsC f (l.set k x)
    rw [List.set_append_right _ _ (by rw [hf, Nat.succ_mul]; omega), hf]
    have q := rowsC_set f n hf l k j (by simpa using hk) hj u x (by simpa using e)
    rw [← q]
    congr 2
    rw [Nat.succ_mul]
    omega
/-- One that lives is written over, cell by cell: its last record's number, that it has committed. -/
theorem Sty.setOpen (h : Sty w B sb s) {g c t : Nat} (ht : t < s.V.length) (hv : s.vV = .slice (some ⟨g, 0, none⟩) s.V.length c) {j : Nat} {u : Value} {o' : OpM} (e : (opC s.V[t]).set j u = opC o') (hj : j < 5) (hn : o'.nv = s.V[t].nv) (hh : o'.hv = s.V[t].hv) : Sty (w.setCell ⟨g, t * 5 + j, none⟩ u) B sb { s with V := s.V.set t o' } := by
  have k : Keep (fun z => z = g) w (w.setCell ⟨g, t * 5 + j, none⟩ u) := (Keep.refl (fun z => z = g) _).setCell (g := g) (j := t * 5 + j) (fun _ => rfl) _
  have hv1 := h.v
  rw [hv] at hv1
  have tt : OfTy w 133 (fun z => z = g) := fun y _ e => by subst e; exact grow_ty hv1 rfl
  have g1 := (World.ownsRow.stored hv1 (t * 5 + j) u).1
  have er : (rowsC opC s.V).set (t * 5 + j) u = rowsC opC (s.V.set t o') := rowsC_set opC 5 opC_len s.V t j ht hj u o' e
  rw [er] at g1
  have hl : (s.V.set t o').length = s.V.length := List.length_set
  rw [← hl] at g1
  refine ⟨RBox.keepT h.box k tt (by decide), h.hb, h.r.keepT k tt (by decide), h.l.keepT k tt (by decide), h.g.keepT k tt (by decide), h.i.keepT k tt (by decide), ?_, h.ss.keepT k tt (by decide), fun o ho => ?_, h.pg, h.rok, h.pok⟩
  · show GRow _ B 133 5 s.vV (s.V.set t o').length (rowsC opC (s.V.set t o'))
    rw [hv]
    simpa using g1
  · rcases List.mem_or_eq_of_mem_set ho with q | q
    · exact (h.op o q).keepT k tt (by decide) (by decide)
    · have z := (h.op _ (List.getElem_mem ht)).keepT k tt (by decide) (by decide)
      subst q
      obtain ⟨z1, z2, z3⟩ := z
      rw [← hn] at z1 z3
      rw [← hh] at z2
      exact ⟨z1, z2, z3⟩
end
end Go.Proofs.YtehbpmibllpkhaaGreatDoor
