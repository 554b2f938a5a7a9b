import Derived.Test.YtehbpmibllpkhaaGreatDoorUd13
import Derived.Test.YtehbpmibllpkhaaGreatDoorUd9
import Derived.Test.YtehbpmibllpkhaaGreatDoorUd10
import Derived.Deep.MidRow
set_option linter.all false
namespace Go.Proofs.YtehbpmibllpkhaaGreatDoor
open Go.RowKit Go.QK Go.Maps Go.QM Go.QU
set_option maxRecDepth 100000
def setL : List Value → Nat → List Value → List Value
  | xs, _, [] => xs
  | xs, o, v :: r => setL (xs.set o v) (o + 1) r
theorem grow_setCells {B e size g n c : Nat} : ∀ (vs : List Value) (o : Nat) (w : World) (xs : List Value), GRow w B e size (.slice (some ⟨g, 0, none⟩) n c) n xs → GRow (w.setCells g o vs) B e size (.slice (some ⟨g, 0, none⟩) n c) n (setL xs o vs)
  | [], o, w, xs, h => h
  | v :: r, o, w, xs, h => by
    rw [World.setCells]
    exact grow_setCells r (o + 1) _ _ (World.ownsRow.stored h o v).1
theorem setL_mid : ∀ (vs A V C : List Value), V.length = vs.length → setL (A ++ V ++ C) A.length vs = A ++ vs ++ C
  | [], A, V, C, h => by
    have : V = [] := List.eq_nil_of_length_eq_zero h
    rw [this]; simp [setL]
  | v :: r, A, [], C, h => by simp at h
  | v :: r, A, x :: V, C, h => by
    have e : (A ++ x :: V ++ C).set A.length v = (A ++ [v]) ++ V ++ C := by simp
    have q := setL_mid r (A ++ [v]) V C (by simpa using h)
    rw [setL, e]
    rw [List.length_append] at q
    simp only [List.length_singleton] at q
    rw [q]
    simp
theorem setL_rz {rs : List RZ} {k : Nat} (hk : k < rs.length) (r : RZ) : setL (rzs rs) (k * 17) (rzA r).toList = rzs (rs.set k r) := by
  have e1 : rs = rs.take k ++ [rs[k]] ++ rs.drop (k + 1) := by simp
  have e2 : rzs rs = rzs (rs.take k) ++ (rzA rs[k]).toList ++ rzs (rs.drop (k + 1)) := by
    conv => lhs; rw [e1, rzs_app, rzs_app]
    simp [rzs, rowsC, rzC]
  have e3 : rs.set k r = rs.take k ++ [r] ++ rs.drop (k + 1) := by
    rw [List.set_eq_take_append_cons_drop, if_pos hk]; simp
  have e4 : (rzs (rs.take k)).length = k * 17 := by rw [rzs_len, List.length_take, Nat.min_eq_left (by omega)]
  have q := setL_mid (rzA r).toList (rzs (rs.take k)) (rzA rs[k]).toList (rzs (rs.drop (k + 1))) rfl
  rw [e4] at q
  rw [e2, q, e3, rzs_app, rzs_app]
  simp [rzs, rowsC, rzC]
theorem keep_setCells (b : Nat) : ∀ (vs : List Value) (o : Nat) (w : World), Keep (fun k => k = b) w (w.setCells b o vs)
  | [], o, w => Keep.refl _ w
  | v :: vs, o, w => by
    rw [World.setCells]
    exact ((Keep.refl (fun k => k = b) w).setCell (g := b) (j := o) (fun _ => rfl) v).trans (keep_setCells b vs (o + 1) _) (fun _ _ q => q)
section
variable {ops : Array Oper} {rest : List Oper} {a : Act} {w : World} {Q : Exit → Act → World → Prop} {d : Option Tmp} {ty : TypeId} {ps : String} {af : Array Edge} {x y : Operand}
theorem wpList_stAt {g off : Nat} {cs : Array Value} (ht : w.there g off 17) (hs : cs.size = 17) (h1 : cs.toList.all (·.oneCell') = true) (hx : a.eval x = .pointer (some ⟨g, off, none⟩)) (hy : a.eval y = .agg cs) (h : wpList Tryz.prog ops Q rest (a.put d undef) (w.setCells g off cs.toList)) :
    wpList Tryz.prog ops Q ({ dst := d, op := .store 53 x y, type := ty, pos := ps, after := af, guard := none } :: rest) a w :=
  wpList_store_mid rfl 53 x y rfl g off cs hx hy (by rw [hs]; exact ht) (size53' hs) (by rw [← Array.all_toList]; exact h1) h
end
theorem there_of {w : World} {B n c g : Nat} {xs : List Value} (h : GRow w B 53 17 (.slice (some ⟨g, 0, none⟩) n c) n xs) : w.there g 0 (n * 17) := by
  intro j hj
  have hl := h.1
  rw [Nat.zero_add, World.ownsRow.cellAt h j hj]
  exact ⟨by rw [List.getElem?_eq_getElem (by omega)]; rfl, World.ownsRow.frozenAt h j⟩
theorem there_at {w : World} {g n k : Nat} (h : w.there g 0 (n * 17)) (hk : k < n) : w.there g (k * 17) 17 := by
  intro j hj
  have := h (k * 17 + j) (by have : (k + 1) * 17 ≤ n * 17 := Nat.mul_le_mul_right _ hk; omega)
  rw [Nat.zero_add] at this
  exact this
/-! The document's list of what is held, while the records are gone through. -/
structure Hl (w0 w : World) (tx : Int) (D L : Prs Hd) (n c : Nat) (a : Option Addr) : Prop where
  row : GRow w w0.heap.size 53 17 (.slice a n c) n (rzs (D.map (undZ tx)))
  len : D.length = n
  sim : Sim D L
  up : Up L
  fit : Fits L
section
variable {w0 w w' : World} {tx : Int} {D L : Prs Hd} {n c : Nat} {a : Option Addr}
theorem Hl.nil (w0 w : World) (tx : Int) : Hl w0 w tx [] [] 0 0 none := ⟨World.ownsRow_nil _ _ _ _, rfl, Sim.nil, Up.nil, fun p hp => by cases hp⟩
theorem Hl.below (h : Hl w0 w tx D L n c a) (hk : Below w.heap.size w w') : Hl w0 w' tx D L n c a := ⟨h.row.below hk, h.len, h.sim, h.up, h.fit⟩
theorem Hl.lst (h : Hl w0 w tx D L n c a) : Lst w tx D n a c := by
  obtain ⟨a1, c1, e, q, -⟩ := Lst.of h.row h.len
  cases e
  exact q
theorem Hl.open_ (h : Hl w0 w tx D L n c a) (hn : 0 < n) : ∃ g, a = some ⟨g, 0, none⟩ ∧ w0.heap.size ≤ g ∧ g < w.heap.size := by
  obtain ⟨g, c1, e, -⟩ := grow_open h.row hn
  cases e
  exact ⟨g, rfl, World.ownsRow.lt h.row g rfl⟩
theorem Hl.of {v : Value} (h : GRow w w0.heap.size 53 17 v n (rzs (D.map (undZ tx)))) (hn : D.length = n) (sm : Sim D L) (up : Up L) (fi : Fits L) : ∃ a c, v = .slice a n c ∧ Hl w0 w tx D L n c a := by
  obtain ⟨a, c, rfl, -⟩ := GRow.lies h
  exact ⟨a, c, rfl, h, hn, sm, up, fi⟩
theorem Hl.cell {g : Nat} (h : Hl w0 w tx D L n c (some ⟨g, 0, none⟩)) {i : Nat} (hi : i < D.length) {j : Nat} {v : Value} (hv : (rzA (undZ tx D[i])).toList[j]? = some v) : ∀ wq, Below w.heap.size w wq → wq.cell? ⟨g, i * 17 + j, none⟩ = some v := by
  intro wq hq
  have q := h.lst.rec_ i hi wq hq j v hv
  rw [Nat.zero_add] at q
  exact q
theorem at_D (id : Int) (h : Lst w tx D n a c) (hl : n * 168 ≤ 140737488355328) :
    Calls Tryz.prog 18 #[.slice a n c, .int .i64 id] w fun e w' => ((∃ i : Nat, ∃ h : i < D.length, D[i].1 = id ∧ e = .returned (.int .i64 (i : Int))) ∨ (getM D id = none ∧ e = .returned (.int .i64 (-1)))) ∧ Below w.heap.size w w' := by
  have q := at_any (D.map (undZ tx)) a c id w h.lies (by rw [h.mlen]; exact hl)
  have e0 : Value.slice a (D.map (undZ tx)).length c = Value.slice a n c := by rw [h.mlen]
  rw [e0] at q
  refine q.mono (fun e w' z => ⟨?_, z.2⟩)
  rcases z.1 with ⟨i, hi, e1, e2⟩ | ⟨e1, e2⟩
  · refine .inl ⟨i, by simpa using hi, ?_, e2⟩
    rw [List.getElem_map] at e1
    exact e1
  · refine .inr ⟨at_none (fun i hi => ?_), e2⟩
    have := e1 i (by simpa using hi)
    rw [List.getElem_map] at this
    exact this
theorem Hl.has (h : Hl w0 w tx D L n c a) {i : Nat} (hi : i < D.length) : getM L D[i].1 = some D[i].2 := by rw [← h.sim.eq, getM_nd h.sim.nd hi]
end
end Go.Proofs.YtehbpmibllpkhaaGreatDoor
