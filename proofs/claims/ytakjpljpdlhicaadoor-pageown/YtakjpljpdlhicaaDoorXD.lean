import Derived.Test.YtakjpljpdlhicaaDoorPg46
import Derived.Test.YtakjpljpdlhicaaDoorXB
import Derived.Test.YtakjpljpdlhicaaDoorPg52b
import Derived.Test.YtakjpljpdlhicaaDoorPg52c
import Derived.Test.YtakjpljpdlhicaaDoorPg52d
import Derived.Test.YtakjpljpdlhicaaDoorPg48
import Derived.Test.YtakjpljpdlhicaaDoorPg19
import Derived.Test.YtakjpljpdlhicaaDoorPg22
set_option linter.all false
namespace Go.Proofs.YtakjpljpdlhicaaDoor
open Go.RowKit Go.QK Go.Pg
set_option maxRecDepth 100000
/-! The law of PageOwn: how its things stand ahead of the first 'ask'; values turned by 'xor 5'. -/
def xC (c : CtrM) : CtrM := { c with val := bits .xor .i64 c.val 5 }
def xG (g : GrpM) : GrpM := { g with sum := bits .xor .i64 g.sum 5 }
theorem bits_fit (z : Int) : fit (bits .xor .i64 z 5) := by
  unfold bits fit
  rw [IntKind.wrap_i64]
  omega
def xP (p : PageM) : PageM := ⟨p.num, p.lsn, p.cs.map xC, p.gs.map xG⟩
theorem xP_check {p : PageM} (h : checkE p = 0) : checkE (xP p) = 0 := by
  have e1 : (p.cs.map xC).map ctrE = p.cs.map ctrE := by rw [List.map_map]; exact List.map_congr_left (fun c _ => rfl)
  have e2 : (p.gs.map xG).map grpE = p.gs.map grpE := by rw [List.map_map]; exact List.map_congr_left (fun c _ => rfl)
  have e : checkE (xP p) = checkE p := by
    unfold checkE xP isEmpty slotsE
    simp only [List.length_map, e1, e2]
  rw [e]
  exact h
theorem xP_fit {p : PageM} (h : p.Fit) : (xP p).Fit := by
  obtain ⟨h1, h2, h3, h4⟩ := h
  refine ⟨h1, h2, fun c hc => ?_, fun g hg => ?_⟩
  · obtain ⟨d, hd, rfl⟩ := List.mem_map.1 hc
    obtain ⟨a, b, c, e, _⟩ := h3 d hd
    exact ⟨a, b, c, e, bits_fit _⟩
  · obtain ⟨d, hd, rfl⟩ := List.mem_map.1 hg
    obtain ⟨a, _⟩ := h4 d hd
    exact ⟨a, bits_fit _⟩
theorem cset4 (l : List CtrM) (i : Nat) (v : Int) (h : i < l.length) : (ctrsC l).set (i * 5 + 4) (.int .i64 v) = ctrsC (l.set i { l[i] with val := v }) := by
  induction l generalizing i with
  | nil => cases h
  | cons x r ih =>
    have e : ∀ (d : CtrM) (r : List CtrM), ctrsC (d :: r) = .int .i64 d.id :: .int .i64 d.grp :: .int .i64 d.lo :: .int .i64 d.hi :: .int .i64 d.val :: ctrsC r := fun _ _ => rfl
    cases i with
    | zero => rfl
    | succ i =>
      rw [show (i + 1) * 5 + 4 = i * 5 + 4 + 1 + 1 + 1 + 1 + 1 by omega, e]
      simp only [List.set_cons_succ, List.getElem_cons_succ]
      rw [e, ih i (by simpa using h)]
theorem gset1 (l : List GrpM) (i : Nat) (v : Int) (h : i < l.length) : (grpsC l).set (i * 2 + 1) (.int .i64 v) = grpsC (l.set i { l[i] with sum := v }) := by
  induction l generalizing i with
  | nil => cases h
  | cons x r ih =>
    have e : ∀ (d : GrpM) (r : List GrpM), grpsC (d :: r) = .int .i64 d.id :: .int .i64 d.sum :: grpsC r := fun _ _ => rfl
    cases i with
    | zero => rfl
    | succ i =>
      rw [show (i + 1) * 2 + 1 = i * 2 + 1 + 1 + 1 by omega, e]
      simp only [List.set_cons_succ, List.getElem_cons_succ]
      rw [e, ih i (by simpa using h)]
/-- So many turned. -/
def part {α : Type} (f : α → α) (l : List α) (i : Nat) : List α := (l.take i).map f ++ l.drop i
theorem part_len {α : Type} (f : α → α) (l : List α) (i : Nat) : (part f l i).length = l.length := by simp [part]; omega
theorem part_get {α : Type} (f : α → α) (l : List α) (i : Nat) (h : i < l.length) : (part f l i)[i]? = some l[i] := by
  unfold part
  rw [List.getElem?_append_right (by simp; omega)]
  simp [Nat.min_eq_left (Nat.le_of_lt h), h]
theorem part_set {α : Type} (f : α → α) (l : List α) (i : Nat) (h : i < l.length) : (part f l i).set i (f l[i]) = part f l (i + 1) := by
  unfold part
  have hl : ((l.take i).map f).length = i := by simp; omega
  rw [List.set_append_right _ _ (by omega), hl, Nat.sub_self, List.drop_eq_getElem_cons h, List.set_cons_zero, List.take_succ_eq_append_getElem h, List.map_append]
  simp
theorem part_all {α : Type} (f : α → α) (l : List α) : part f l l.length = l.map f := by simp [part]
section
variable {w0 : World} {B L : Nat} {pl pc : Nat} {I0 : Nat → Option It} {w w' : World} {lab : Nat → Nat} {I : Nat → Option It} {vB vW vP vR : Value} {bs : List (Value × List Nat)} {ws : List (List Nat)} {ps qs : List (PageM × At)} {X : List Nat} {xs : List (Nat × Nat × List Value)}
theorem AS.setx (h : AS w0 B L pl pc I0 w lab I vB vW vP vR bs ws ps qs X xs) {key : Nat} (hk : 1000 < key) {e s n c g : Nat} {zs : List Value} (hi : I key = some ⟨e, s, .slice (some ⟨g, 0, none⟩) n c, n, zs⟩) (j : Nat) (v : Value) :
    AS w0 B L pl pc (put I0 key ⟨e, s, .slice (some ⟨g, 0, none⟩) n c, n, zs.set j v⟩) (w.setCell ⟨g, j, none⟩ v) lab (put I key ⟨e, s, .slice (some ⟨g, 0, none⟩) n c, n, zs.set j v⟩) vB vW vP vR bs ws ps qs X xs := by
  obtain ⟨q1, q2⟩ := h.own.at_ _ _ hi
  have hl := q2 g rfl
  have kk : Keep (fun z => z = g) w (w.setCell ⟨g, j, none⟩ v) := Keep.setCell (S := fun z => z = g) (Keep.refl _ _) (fun _ => rfl) _
  have r1 := (World.ownsRow.stored q1 j v).1
  have bxx : ∀ {M k' : Nat} {vs : List Value}, k' ≠ key → Bx w lab I M k' vs → Bx (w.setCell ⟨g, j, none⟩ v) lab (put I key ⟨e, s, .slice (some ⟨g, 0, none⟩) n c, n, zs.set j v⟩) M k' vs := fun hk z => ⟨z.cells.keep kk (fun e => hk (by rw [← z.lb, e]; exact hl)), z.lb, by rw [put_other _ _ hk]; exact z.no⟩
  refine ⟨⟨fun k it hk' => ?_⟩, bxx (by omega) h.bx, h.ct.put _ _ (by omega) (by have := h.ct.n1; omega) (by have := h.ct.n2; omega) (by have := h.ct.n3; omega), by rw [put_other _ _ (by omega)]; exact h.pl, h.lx, fun k k1 => ?_, fun k k1 k2 => by rw [put_other _ _ (by omega)]; exact h.no k k1 k2, fun x hx => ⟨(h.xs x hx).1, (h.xs x hx).2.1, bxx (by have := (h.xs x hx).2.1; omega) (h.xs x hx).2.2⟩, h.bb.trans (kk.below h.bs (fun z hz e => by have := (World.ownsRow.lt q1 g rfl).1; omega)), by simpa using h.bs, h.bl⟩
  · by_cases e : k = key
    · subst e
      rw [put_same] at hk'
      cases hk'
      exact ⟨r1, q2⟩
    · rw [put_other _ _ e] at hk'
      obtain ⟨p1, p2⟩ := h.own.at_ k it hk'
      exact ⟨GRow.keep p1 kk (fun g hg s => by have := p2 g hg; rw [s] at this; exact e (by omega)), p2⟩
  · by_cases e : k = key
    · subst e; rw [put_same, put_same]
    · rw [put_other _ _ e, put_other _ _ e]; exact h.ot k k1
end
/-- How all stands ahead of the first 'ask'. -/
theorem AS.make {w0 W : World} {B L pl n1 : Nat} {x y : PageM} {t u : At} (bb : Below B w0 W) (bs : B ≤ W.heap.size) (cL : Cells W L [.slice none 0 0, .slice none 0 0, .slice none 0 0, .slice none 0 0]) (hL : B ≤ L) (ow : OwnB W B (.slice (some ⟨pl, 0, none⟩) 1024 1024) (zs 1024)) (h1 : L < pl)
    (x1 : GRow W (pl + 1) 57 5 (vC (x, t)) x.cs.length (ctrsC x.cs)) (x2 : GRow W (pl + 1) 59 2 (vG (x, t)) x.gs.length (grpsC x.gs)) (y1 : GRow W n1 57 5 (vC (y, u)) y.cs.length (ctrsC y.cs)) (y2 : GRow W n1 59 2 (vG (y, u)) y.gs.length (grpsC y.gs)) (hn : pl < n1) (hB : B ≤ pl)
    (lx1 : ∀ g, (vC (x, t)).ownBlock = some g → g < n1) (lx2 : ∀ g, (vG (x, t)).ownBlock = some g → g < n1) (xs : List (Nat × List Value)) (hxs : ∀ z ∈ xs, Cells W z.1 z.2 ∧ z.1 ≠ L ∧ z.1 ≠ pl ∧ (vC (x, t)).ownBlock ≠ some z.1 ∧ (vG (x, t)).ownBlock ≠ some z.1 ∧ (vC (y, u)).ownBlock ≠ some z.1 ∧ (vG (y, u)).ownBlock ≠ some z.1) :
    ∃ lab I I0, AS w0 B L pl 1024 I0 W lab I (.slice none 0 0) (.slice none 0 0) (.slice none 0 0) (.slice none 0 0) [] [] [] [] (zs 1024) (xs.map (fun z => (z.1, 20, z.2))) ∧ I0 1001 = some (itC (x, t)) ∧ I0 1002 = some (itG (x, t)) ∧ I0 1003 = some (itC (y, u)) ∧ I0 1004 = some (itG (y, u)) := by
  let J : Nat → Option It := fun k => if k = 1 then some ⟨22, 1, .slice none 0 0, 0, []⟩ else if k = 2 then some ⟨9, 1, .slice none 0 0, 0, []⟩ else if k = 3 then some ⟨27, 4, .slice none 0 0, 0, []⟩ else if k = 4 then some ⟨38, 4, .slice none 0 0, 0, []⟩ else if k = 1000 then some (itB (.slice (some ⟨pl, 0, none⟩) 1024 1024) (Go.Pg.zs 1024)) else if k = 1001 then some (itC (x, t)) else if k = 1002 then some (itG (x, t)) else if k = 1003 then some (itC (y, u)) else if k = 1004 then some (itG (y, u)) else none
  let lab : Nat → Nat := fun z => if z = L then 0 else if z = pl then 1000 else if z ∈ xs.map (·.1) then 20 else if z < n1 then (if (vG (x, t)).ownBlock = some z then 1002 else 1001) else (if (vG (y, u)).ownBlock = some z then 1004 else 1003)
  have ax := grow_apart x1 x2 (by decide)
  have ay := grow_apart y1 y2 (by decide)
  have nil : ∀ e s, GRow W B e s (.slice none 0 0) 0 [] := fun e s => World.ownsRow_nil _ _ _ _
  have gp : GRow W B 5 1 (.slice (some ⟨pl, 0, none⟩) 1024 1024) 1024 ((ints (Go.Pg.zs 1024)).map (Value.int .u8)) := by
    have q := ow
    unfold OwnB Owns at q
    rw [ints_length, show (Go.Pg.zs 1024).length = 1024 by simp [Go.Pg.zs]] at q
    exact q
  have nx : ∀ z, z ∈ xs.map (·.1) → (vC (x, t)).ownBlock ≠ some z ∧ (vG (x, t)).ownBlock ≠ some z ∧ (vC (y, u)).ownBlock ≠ some z ∧ (vG (y, u)).ownBlock ≠ some z ∧ z ≠ L ∧ z ≠ pl := fun z hz => by
    obtain ⟨q, hq, rfl⟩ := List.mem_map.1 hz
    obtain ⟨_, a, b, c, d, e, f⟩ := hxs q hq
    exact ⟨c, d, e, f, a, b⟩
  refine ⟨lab, J, J, ⟨⟨fun k it hk => ?_⟩, ⟨cL, if_pos rfl, rfl⟩, ⟨rfl, rfl, rfl, rfl, (fun i hi => by cases hi), (fun i hi => by cases hi), (fun i hi => by cases hi), (fun z hz => by cases hz), (fun z hz => by cases hz), by simp, by simp, by simp⟩, rfl, by simp [Go.Pg.zs], fun k k1 => rfl, fun k k1 k2 => ?_, fun z hz => ?_, bb, bs, hL⟩, rfl, rfl, rfl, rfl⟩
  · simp only [J] at hk
    split at hk
    · cases hk; exact ⟨nil _ _, fun g hg => by cases hg⟩
    split at hk
    · cases hk; exact ⟨nil _ _, fun g hg => by cases hg⟩
    split at hk
    · cases hk; exact ⟨nil _ _, fun g hg => by cases hg⟩
    split at hk
    · cases hk; exact ⟨nil _ _, fun g hg => by cases hg⟩
    split at hk
    · rename_i e; cases hk
      refine ⟨gp, fun g hg => ?_⟩
      cases hg
      simp only [lab]
      rw [if_neg (by omega)]
      simp [e]
    split at hk
    · rename_i e; cases hk
      refine ⟨GRow.mono x1 (by omega), fun g hg => ?_⟩
      have h2 := (World.ownsRow.lt x1 g hg).1
      have h3 := lx1 g hg
      simp only [lab]
      rw [if_neg (by omega), if_neg (by omega), if_neg (fun q => (nx g q).1 hg), if_pos h3, if_neg (ax g hg), e]
    split at hk
    · rename_i e; cases hk
      refine ⟨GRow.mono x2 (by omega), fun g hg => ?_⟩
      have h2 := (World.ownsRow.lt x2 g hg).1
      have h3 := lx2 g hg
      simp only [lab]
      rw [if_neg (by omega), if_neg (by omega), if_neg (fun q => (nx g q).2.1 hg), if_pos h3, if_pos hg, e]
    split at hk
    · rename_i e; cases hk
      refine ⟨GRow.mono y1 (by omega), fun g hg => ?_⟩
      have h2 := (World.ownsRow.lt y1 g hg).1
      simp only [lab]
      rw [if_neg (by omega), if_neg (by omega), if_neg (fun q => (nx g q).2.2.1 hg), if_neg (by omega), if_neg (ay g hg), e]
    split at hk
    · rename_i e; cases hk
      refine ⟨GRow.mono y2 (by omega), fun g hg => ?_⟩
      have h2 := (World.ownsRow.lt y2 g hg).1
      simp only [lab]
      rw [if_neg (by omega), if_neg (by omega), if_neg (fun q => (nx g q).2.2.2.1 hg), if_neg (by omega), if_pos hg, e]
    cases hk
  · simp only [J]
    rw [if_neg (by omega), if_neg (by omega), if_neg (by omega), if_neg (by omega), if_neg (by omega), if_neg (by omega), if_neg (by omega), if_neg (by omega), if_neg (by omega)]
  · obtain ⟨q, hq, rfl⟩ := List.mem_map.1 hz
    obtain ⟨c, a, b, _⟩ := hxs q hq
    refine ⟨show 4 < 20 by decide, show 20 < 100 by decide, c, ?_, rfl⟩
    simp only [lab]
    rw [if_neg a, if_neg b, if_pos (List.mem_map.2 ⟨q, hq, rfl⟩)]
end Go.Proofs.YtakjpljpdlhicaaDoor

set_option linter.all false
namespace Go.Proofs.YtakjpljpdlhicaaDoor
open Go.RowKit Go.QK Go.Pg
set_option maxRecDepth 100000
theorem mark_any {w0 w : World} {B L : Nat} {lab : Nat → Nat} {I : Nat → Option It} {vB vW vP vR : Value} {bs : List (Value × List Nat)} {ws : List (List Nat)} {ps qs : List (PageM × At)} (own : Own w B lab I) (bx : Bx w lab I L 0 [vB, vW, vP, vR]) (ct : Ct I vB vW vP vR bs ws ps qs) (lws : ws.length = bs.length) (n8 : I 8 = none) (n9 : I 9 = none) (bb : Below B w0 w) (hB : B ≤ w.heap.size) (bl : B ≤ L) (nb0 : 0 < bs.length) (np0 : 0 < ps.length) :
    Calls Tryd.prog 23 #[.pointer (some ⟨L, 0, none⟩)] w fun e w' => e = .returned (.bool true) ∧ Below B w0 w' :=
  markT.pf ⟨mark_l1⟩ ⟨mark_l2⟩ ⟨mark_l3⟩ w0 w B L lab I vB vW vP vR bs ws ps qs own bx ct lws n8 n9 bb hB bl nb0 np0
end Go.Proofs.YtakjpljpdlhicaaDoor

set_option linter.all false
namespace Go.Proofs.YtakjpljpdlhicaaDoor
open Go.RowKit Go.QK Go.Pg
set_option maxRecDepth 100000
set_option maxHeartbeats 64000000 in
theorem own_law (p : PageM) (t : At) (q : PageM) (u : At) (w : World) (hp : PageIn w p t) (hq : PageIn w q u) (ht : Tab w) :
    Calls Tryd.prog 8 #[pageV p t, pageV q u] w fun e w' => e = .returned (.bool true) ∧ Below w.heap.size w w' := by
  have RP := hide (fun w' (b : Below w.heap.size w w') => right_any p t w' (hp.below b))
  have RQ := hide (fun w' (b : Below w.heap.size w w') => right_any q u w' (hq.below b))
  have HT := hide ht
  clear hp hq ht
  obtain ⟨pn, pl, pc, pg⟩ := p
  obtain ⟨ta, tc, tb, td⟩ := t
  obtain ⟨qn, ql, qc, qg⟩ := q
  obtain ⟨ua, uc, ub, ud⟩ := u
  simp only [pageV] at *
  obtain ⟨w2, hw2⟩ : ∃ w2, w2 = (w.alloc (.cells #[.int .i64 pn, .int .i64 pl, .slice ta pc.length tc, .slice tb pg.length td] 34)).alloc (.cells #[.int .i64 qn, .int .i64 ql, .slice ua qc.length uc, .slice ub qg.length ud] 34) := ⟨_, rfl⟩
  obtain ⟨B, hB⟩ : ∃ z, z = w.heap.size := ⟨_, rfl⟩
  have B2 := hide (show Below B w w2 by rw [hw2, hB]; exact bnext (alloc_below _ _) (alloc_below _ _) (Nat.le_refl _))
  have CP := hide (show Cells w2 B [.int .i64 pn, .int .i64 pl, .slice ta pc.length tc, .slice tb pg.length td] by rw [hw2, hB]; exact (Cells.new w #[.int .i64 pn, .int .i64 pl, .slice ta pc.length tc, .slice tb pg.length td] 34).below (alloc_below _ _))
  have CQ := hide (show Cells w2 (B + 1) [.int .i64 qn, .int .i64 ql, .slice ua qc.length uc, .slice ub qg.length ud] by
    rw [hw2, hB]
    have h := Cells.new (w.alloc (.cells #[.int .i64 pn, .int .i64 pl, .slice ta pc.length tc, .slice tb pg.length td] 34)) #[.int .i64 qn, .int .i64 ql, .slice ua qc.length uc, .slice ub qg.length ud] 34
    rw [World.size_alloc] at h
    exact h)
  rw [← hB]
  go_enter Tryd.func8, Tryd.ntmps8
  go_upto_region 1 with fail
  rw [← hw2, ← hB]
  rw [← hB] at RP RQ
  have S2 := hide (show B + 2 ≤ w2.heap.size by rw [hw2, hB]; simp)
  clear hw2
  have HB := hide hB
  clear hB
  go_wp2_with fail
  refine (first_any w2 (HT.out.below (by rw [← HB.out]; exact B2.out))).mono ?_
  rintro e w3 ⟨rfl, b3⟩
  have B3 := hide (B2.out.trans (b3.mono (by have := S2.out; omega)))
  have CP3 := hide (CP.out.below b3)
  have CQ3 := hide (CQ.out.below b3)
  have S3 := hide (show B + 2 ≤ w3.heap.size by have := S2.out; have := b3.size; omega)
  clear CP CQ B2 S2 b3
  go_upto_region 4 with fail
  refine named (P := Code.wp _ _ _ _) ?_
  intro w4 hw4
  obtain ⟨L, hL⟩ : ∃ z, z = w3.heap.size := ⟨_, rfl⟩
  rw [← hL]
  have b4 : Below w3.heap.size w3 w4 := by rw [hw4]; exact alloc_below _ _
  have CL4 := hide (show Cells w4 L [nilS, nilS, nilS, nilS] by rw [hw4, hL]; exact Cells.new w3 #[nilS, nilS, nilS, nilS] 52)
  have CP4 := hide (CP3.out.below b4)
  have CQ4 := hide (CQ3.out.below b4)
  have B4 := hide (B3.out.trans (b4.mono (by have := S3.out; omega)))
  have SL := hide (show B + 2 ≤ L by have := S3.out; omega)
  clear hw4 b4 CP3 CQ3 B3 S3 hL
  obtain ⟨w5, mk5, ow5, b5, s5⟩ := makeB w4 1024 (by decide)
  have mk5 : (Instr.makeSlice 22 (.int .i64 1024) (.int .i64 1024)).run Tryd.prog w4 = .ok (.slice (some ⟨w4.heap.size, 0, none⟩) 1024 1024) w5 := mk5
  obtain ⟨pla, hpl⟩ : ∃ z, z = w4.heap.size := ⟨_, rfl⟩
  have OW5 := hide (show OwnB w5 pla (.slice (some ⟨pla, 0, none⟩) 1024 1024) (zs 1024) by rw [hpl]; exact ow5)
  have CL5 := hide (CL4.out.below b5)
  have CP5 := hide (CP4.out.below b5)
  have CQ5 := hide (CQ4.out.below b5)
  have LP := hide (show L < pla by have := CL4.out.1; omega)
  have SP5 := hide (show pla < w5.heap.size by omega)
  have B5 := hide (B4.out.trans (b5.mono (by have := LP.out; have := SL.out; omega)))
  rw [← hpl] at mk5
  clear ow5 b5 s5 CL4 CP4 CQ4 B4 hpl
  go_upto_region 5 with fail
  clear mk5
  obtain ⟨g0, -⟩ := CP5.out.get 0 _ rfl
  obtain ⟨g1, -⟩ := CP5.out.get 1 _ rfl
  obtain ⟨g2, -⟩ := CP5.out.get 2 _ rfl
  obtain ⟨g3, -⟩ := CP5.out.get 3 _ rfl
  go_wp2_with fail
  clear g0 g1 g2 g3
  refine (RP.out w5 B5.out).mono ?_
  rintro e w6 ⟨x, v, rfl, hck, hfit, ho, b6⟩
  obtain ⟨v1, v2, rfl, r1, r2⟩ := ho
  obtain ⟨xa, xc, e1, -⟩ := GRow.lies r1
  subst e1
  obtain ⟨xb, xd, e1, -⟩ := GRow.lies r2
  subst e1
  have CX := hide (And.intro hck hfit)
  have RX1 := hide r1
  have RX2 := hide r2
  have CL6 := hide (CL5.out.below b6)
  have CQ6 := hide (CQ5.out.below b6)
  have OW6 := hide (Owns.below OW5.out b6)
  have B6 := hide (B5.out.trans (b6.mono (by have := LP.out; have := SL.out; have := SP5.out; omega)))
  have S6 := hide (show w5.heap.size ≤ w6.heap.size from b6.size)
  clear hck hfit r1 r2 b6 CL5 CQ5 OW5 B5 CP5 RP
  obtain ⟨xn, xl, xcs, xgs⟩ := x
  simp only at RX1 RX2
  go_upto_region 6 with fail
  refine named (P := Code.wp _ _ _ _) ?_
  intro w7 hw7
  obtain ⟨P7, hP7⟩ : ∃ z, z = w6.heap.size := ⟨_, rfl⟩
  rw [← hP7]
  have b7 : Below w6.heap.size w6 w7 := by rw [hw7]; exact alloc_below _ _
  obtain ⟨n, hn⟩ : ∃ z, z = xcs.length := ⟨_, rfl⟩
  obtain ⟨m, hm⟩ : ∃ z, z = xgs.length := ⟨_, rfl⟩
  rw [← hn, ← hm] at hw7
  rw [← hn] at RX1
  rw [← hm] at RX2
  rw [← hn, ← hm]
  have CX7 := hide (show Cells w7 P7 [.int .i64 xn, .int .i64 xl, .slice xa n xc, .slice xb m xd] by rw [hw7, hP7]; exact Cells.new w6 #[.int .i64 xn, .int .i64 xl, .slice xa n xc, .slice xb m xd] 27)
  have BD := hide (show (∀ g, (Value.slice xa n xc).ownBlock = some g → w5.heap.size ≤ g ∧ g < P7) ∧ (∀ g, (Value.slice xb m xd).ownBlock = some g → w5.heap.size ≤ g ∧ g < P7) from ⟨fun g hg => by rw [hP7]; exact World.ownsRow.lt RX1.out g hg, fun g hg => by rw [hP7]; exact World.ownsRow.lt RX2.out g hg⟩)
  have RX1b := hide (GRow.below RX1.out b7)
  have RX2b := hide (GRow.below RX2.out b7)
  have CL7 := hide (CL6.out.below b7)
  have CQ7 := hide (CQ6.out.below b7)
  have OW7 := hide (Owns.below OW6.out b7)
  have S7 := hide (show P7 < w7.heap.size ∧ w5.heap.size ≤ P7 by have := CX7.out.1; have := S6.out; omega)
  have B7 := hide (B6.out.trans (b7.mono (by have := LP.out; have := SL.out; have := SP5.out; have := S6.out; omega)))
  have HN := hide hn
  have HM := hide hm
  clear hw7 hP7 b7 hn hm RX1 RX2 CL6 CQ6 OW6 B6 S6
  obtain ⟨g0, -⟩ := CQ7.out.get 0 _ rfl
  obtain ⟨g1, -⟩ := CQ7.out.get 1 _ rfl
  obtain ⟨g2, -⟩ := CQ7.out.get 2 _ rfl
  obtain ⟨g3, -⟩ := CQ7.out.get 3 _ rfl
  go_wp2_with fail
  clear g0 g1 g2 g3
  refine (RQ.out w7 B7.out).mono ?_
  rintro e w8 ⟨y, v, rfl, hck, hfit, ho, b8⟩
  obtain ⟨v1, v2, rfl, r1, r2⟩ := ho
  obtain ⟨ya, yc, e1, -⟩ := GRow.lies r1
  subst e1
  obtain ⟨yb, yd, e1, -⟩ := GRow.lies r2
  subst e1
  have CY := hide (And.intro hck hfit)
  obtain ⟨yn, yl, ycs, ygs⟩ := y
  simp only at r1 r2
  go_upto_region 7 with fail
  refine named (P := Code.wp _ _ _ _) ?_
  intro w9 hw9
  obtain ⟨P9, hP9⟩ : ∃ z, z = w8.heap.size := ⟨_, rfl⟩
  rw [← hP9]
  have b9 : Below w8.heap.size w8 w9 := by rw [hw9]; exact alloc_below _ _
  obtain ⟨n2, hn2⟩ : ∃ z, z = ycs.length := ⟨_, rfl⟩
  obtain ⟨m2, hm2⟩ : ∃ z, z = ygs.length := ⟨_, rfl⟩
  rw [← hn2, ← hm2] at hw9
  rw [← hn2] at r1
  rw [← hm2] at r2
  rw [← hn2, ← hm2]
  have CY9 := hide (show Cells w9 P9 [.int .i64 yn, .int .i64 yl, .slice ya n2 yc, .slice yb m2 yd] by rw [hw9, hP9]; exact Cells.new w8 #[.int .i64 yn, .int .i64 yl, .slice ya n2 yc, .slice yb m2 yd] 27)
  have BY := hide (show (∀ g, (Value.slice ya n2 yc).ownBlock = some g → w7.heap.size ≤ g ∧ g < P9) ∧ (∀ g, (Value.slice yb m2 yd).ownBlock = some g → w7.heap.size ≤ g ∧ g < P9) from ⟨fun g hg => by rw [hP9]; exact World.ownsRow.lt r1 g hg, fun g hg => by rw [hP9]; exact World.ownsRow.lt r2 g hg⟩)
  have b79 := b8.trans (b9.mono b8.size)
  have B9 := hide (B7.out.trans (b79.mono (by have := LP.out; have := SL.out; have := SP5.out; have := S7.out; omega)))
  have S9 := hide (show P9 < w9.heap.size ∧ w7.heap.size ≤ P9 by have := CY9.out.1; have := b8.size; omega)
  obtain ⟨lab, I, I0, hA, i1, i2, i3, i4⟩ := AS.make (w0 := w) (B := B) (L := L) (pl := pla) (n1 := w7.heap.size) (x := ⟨xn, xl, xcs, xgs⟩) (y := ⟨yn, yl, ycs, ygs⟩) (t := ⟨xa, xc, xb, xd⟩) (u := ⟨ya, yc, yb, yd⟩) B9.out (by have := SL.out; have := LP.out; have := SP5.out; have := S7.out; have := S9.out; omega) (CL7.out.below b79) (by have := SL.out; omega) (by
      have q := Owns.below OW7.out b79
      exact GRow.mono (show GRow w9 pla 5 1 (.slice (some ⟨pla, 0, none⟩) 1024 1024) (ints (zs 1024)).length ((ints (zs 1024)).map (Value.int .u8)) from q) (by have := SL.out; have := LP.out; omega)) LP.out
    (by simp only [vC, ← HN.out]; exact GRow.mono (GRow.below RX1b.out b79) SP5.out) (by simp only [vG, ← HM.out]; exact GRow.mono (GRow.below RX2b.out b79) SP5.out) (by simp only [vC, ← hn2]; exact GRow.below r1 b9) (by simp only [vG, ← hm2]; exact GRow.below r2 b9) (by have := SP5.out; have := S7.out; omega) (by have := SL.out; have := LP.out; omega)
    (fun g hg => by simp only [vC, ← HN.out] at hg; have := (BD.out.1 g hg).2; have := S7.out; omega) (fun g hg => by simp only [vG, ← HM.out] at hg; have := (BD.out.2 g hg).2; have := S7.out; omega)
    [(P7, [.int .i64 xn, .int .i64 xl, .slice xa n xc, .slice xb m xd]), (P9, [.int .i64 yn, .int .i64 yl, .slice ya n2 yc, .slice yb m2 yd])] (fun z hz => by
      have s1 := S7.out
      have s2 := S9.out
      have s3 := LP.out
      have s4 := SP5.out
      simp only [vC, vG, ← HN.out, ← HM.out, ← hn2, ← hm2]
      rcases List.mem_cons.1 hz with rfl | hz
      · exact ⟨CX7.out.below b79, by show P7 ≠ L; omega, by show P7 ≠ pla; omega, fun e => by have := (BD.out.1 _ e).2; simp only at this; omega, fun e => by have := (BD.out.2 _ e).2; simp only at this; omega, fun e => by have := (BY.out.1 _ e).1; simp only at this; omega, fun e => by have := (BY.out.2 _ e).1; simp only at this; omega⟩
      · rcases List.mem_cons.1 hz with rfl | hz
        · exact ⟨CY9.out, by show P9 ≠ L; omega, by show P9 ≠ pla; omega, fun e => by have := (BD.out.1 _ e).2; simp only at this; omega, fun e => by have := (BD.out.2 _ e).2; simp only at this; omega, fun e => by have := (BY.out.1 _ e).2; simp only at this; omega, fun e => by have := (BY.out.2 _ e).2; simp only at this; omega⟩
        · cases hz)
  simp only [List.map_cons, List.map_nil] at hA
  have A0 := hide hA
  have K0 := hide (And.intro i1 (And.intro i2 (And.intro i3 i4)))
  have HN2 := hide hn2
  have HM2 := hide hm2
  have TT := hide (show ∀ wz, Below B w wz → Tab wz from fun wz hz => HT.out.below (by rw [← HB.out]; exact hz))
  clear hA i1 i2 i3 i4 hn2 hm2 hck hfit r1 r2 b8 b9 b79 hw9 hP9 RQ CL7 CQ7 OW7 B7 B9 RX1b RX2b CX7 CY9 BD BY S7 S9 SL LP SP5
  obtain ⟨nX, hnX⟩ : ∃ z : List (Nat × Nat × List Value), z = [(P7, 20, [.int .i64 xn, .int .i64 xl, .slice xa n xc, .slice xb m xd]), (P9, 20, [.int .i64 yn, .int .i64 yl, .slice ya n2 yc, .slice yb m2 yd])] := ⟨_, rfl⟩
  have MX := hide (show (P7, 20, [.int .i64 xn, .int .i64 xl, .slice xa n xc, .slice xb m xd]) ∈ nX ∧ (P9, 20, [.int .i64 yn, .int .i64 yl, .slice ya n2 yc, .slice yb m2 yd]) ∈ nX by rw [hnX]; simp)
  rw [← hnX] at A0
  clear hnX
  have AX1 := ask_any 0 (by decide) (kq := 1001) ⟨xn, xl, xcs, xgs⟩ ⟨xa, xc, xb, xd⟩ A0.out rfl rfl rfl rfl K0.out.1 K0.out.2.1 (by decide) CX.out.1 CX.out.2 TT.out
  simp only [pageV, ← HN.out, ← HM.out] at AX1
  have cc := A0.out.got MX.out.1
  obtain ⟨g0, -⟩ := cc.get 0 _ rfl
  obtain ⟨g1, -⟩ := cc.get 1 _ rfl
  obtain ⟨g2, -⟩ := cc.get 2 _ rfl
  obtain ⟨g3, -⟩ := cc.get 3 _ rfl
  clear cc
  go_wp2_with fail
  clear g0 g1 g2 g3
  refine AX1.mono ?_
  clear AX1 A0
  rintro e w10 ⟨rfl, lab1, I1, vB1, vW1, vP1, vR1, bs1, ws1, ps1, qs1, X1, hA, l1, l2, l3, l4⟩
  have A1 := hide hA
  have AX2 := ask_any 1 (by decide) (kq := 1003) ⟨yn, yl, ycs, ygs⟩ ⟨ya, yc, yb, yd⟩ A1.out l1 l2 l3 l4 K0.out.2.2.1 K0.out.2.2.2 (by decide) CY.out.1 CY.out.2 TT.out
  simp only [pageV, ← HN2.out, ← HM2.out] at AX2
  have cc := A1.out.got MX.out.2
  obtain ⟨g0, -⟩ := cc.get 0 _ rfl
  obtain ⟨g1, -⟩ := cc.get 1 _ rfl
  obtain ⟨g2, -⟩ := cc.get 2 _ rfl
  obtain ⟨g3, -⟩ := cc.get 3 _ rfl
  clear cc hA
  go_wp2_with fail
  clear g0 g1 g2 g3
  refine AX2.mono ?_
  clear AX2 A1 l1 l2 l3 l4 lab1 I1 vB1 vW1 vP1 vR1 bs1 ws1 ps1 qs1 X1
  rintro e w11 ⟨rfl, lab1, I1, vB1, vW1, vP1, vR1, bs1, ws1, ps1, qs1, X1, hA, l1, l2, l3, l4⟩
  have A1 := hide hA
  have LL := hide (And.intro l1 (And.intro l2 (And.intro l3 l4)))
  clear hA l1 l2 l3 l4
  have hn3 : n ≤ 1000 := by have q : xcs.length ≤ 31 := (checkE_zero CX.out.1).2.2.1; have := HN.out; omega
  have hm3 : m ≤ 1000 := by have q : xgs.length ≤ 84 := (checkE_zero CX.out.1).2.2.2.1; have := HM.out; omega
  go_wp2_with fail
  go_loopw [10] (fun v wz => ∃ (i : Nat) (I J : Nat → Option It), v = .int .i64 (i : Int) ∧ i ≤ n ∧ AS w B L pla 1024 J wz lab1 I vB1 vW1 vP1 vR1 bs1 ws1 ps1 qs1 X1 nX ∧ J 1001 = some ⟨57, 5, .slice xa n xc, n, ctrsC (part xC xcs i)⟩ ∧ J 1002 = I0 1002) (fun v _ => n + 1 - (intOf v).toNat)
  case atStart => exact ⟨0, I1, I0, rfl, Nat.zero_le _, A1.out, by rw [K0.out.1, HN.out]; simp [part], rfl⟩
  case round =>
    clear A1
    obtain ⟨i, I, J, rfl, hi, hA, j1, j2⟩ := hrel
    have A2 := hide hA
    have J1 := hide j1
    have J2 := hide j2
    clear hA j1 j2
    have cc := A2.out.got MX.out.1
    obtain ⟨y2, -⟩ := cc.get 2 _ rfl
    clear cc
    by_cases hlt : i < n
    · have d1 : decide ((i : Int) < (n : Int)) = true := decide_eq_true (by omega)
      have d2 : (i : Int) < (n : Int) := by omega
      have hix : i < xcs.length := by have := HN.out; omega
      have ik := A2.out.ot 1001 (by decide)
      rw [J1.out] at ik
      obtain ⟨g, c, eg, -⟩ := grow_open (A2.out.own.at_ _ _ ik).1 (by show 0 < n; omega)
      have eg : Value.slice xa n xc = .slice (some ⟨g, 0, none⟩) n c := eg
      cases eg
      have IK := hide ik
      have zc := (A2.out.own.at_ _ _ ik).1
      have hA3 := A2.out.drew.setx (key := 1001) (by decide) ik (i * 5 + 4) (.int .i64 (bits .xor .i64 xcs[i].val 5))
      have hpl : i < (part xC xcs i).length := by rw [part_len]; exact hix
      have hpg : (part xC xcs i)[i] = xcs[i] := by have := part_get xC xcs i hix; rw [List.getElem?_eq_getElem hpl] at this; exact Option.some.inj this
      have es := cset4 (part xC xcs i) i (bits .xor .i64 xcs[i].val 5) hpl
      rw [hpg, show ({ xcs[i] with val := bits .xor .i64 xcs[i].val 5 } : CtrM) = xC xcs[i] from rfl, part_set xC xcs i hix] at es
      rw [es] at hA3
      have HA3 := hide hA3
      obtain ⟨z0, z1⟩ : wr.cell? ⟨g, i * 5 + 4, none⟩ = some (.int .i64 xcs[i].val) ∧ wr.frozen? ⟨g, i * 5 + 4, none⟩ = false := by
        obtain ⟨_, _, e1, li, _, _, _, h0⟩ := GRow.lies zc
        cases e1
        obtain ⟨b, off, e2, hb, hc⟩ := Lies.rowAt ctrC 5 ctrC_length li i hpl (by decide)
        cases e2
        have := hc 4 _ rfl
        rw [hpg, Nat.zero_add] at this
        exact ⟨this, World.ownsRow.frozenAt zc _⟩
      have hfv : fit xcs[i].val := (CX.out.2.2.2.1 _ (List.getElem_mem hix)).2.2.2.2
      clear hA3 es hpg hpl zc ik
      obtain ⟨vv, hvv⟩ : ∃ z, z = xcs[i].val := ⟨_, rfl⟩
      rw [← hvv] at z0 HA3
      clear hvv hfv
      go_upto_region 13 with fail
      have SX := hide (show (wr.drew.cell? ⟨P7, 2, none⟩ = some (.slice (some ⟨g, 0, none⟩) n xc)) ∧ ((wr.drew.setCell ⟨g, i * 5 + 4, none⟩ (.int .i64 (bits .xor .i64 vv 5))).cell? ⟨P7, 2, none⟩ = some (.slice (some ⟨g, 0, none⟩) n xc)) from ⟨((A2.out.drew.got MX.out.1).get 2 _ rfl).1, ((HA3.out.got MX.out.1).get 2 _ rfl).1⟩)
      have ZD := hide (show wr.drew.cell? ⟨g, i * 5 + 4, none⟩ = some (.int .i64 vv) ∧ wr.drew.frozen? ⟨g, i * 5 + 4, none⟩ = false from ⟨z0, z1⟩)
      clear z0 z1
      refine wp_region_held_drew (S := fun wq : World => wq.cell? ⟨P7, 2, none⟩ = some (.slice (some ⟨g, 0, none⟩) n xc)) (by kernel_rfl) SX.out.1 (fun hS => ?_)
      generalize wr.drew = we at *
      refine take_at 0 (some 41) (v := ?_) rfl rfl (by kernel_rfl) (by kernel_rfl) (by kernel_rfl) (fun _ _ _ h => h) ⟨by rfl, ?_⟩ hS ?_
      rotate_left
      · intro wq hSw; go_simp; try rfl
      simp only [Act.put, List.setIfInBounds_toArray, List.set_cons_zero, List.set_cons_succ]
      refine take_at 1 (some 42) (v := ?_) rfl rfl (by kernel_rfl) (by kernel_rfl) (by kernel_rfl) (fun _ _ _ h => h) ⟨by rfl, ?_⟩ hS ?_
      rotate_left
      · intro wq hSw; have q0 := hSw; go_simp; try rfl
      simp only [Act.put, List.setIfInBounds_toArray, List.set_cons_zero, List.set_cons_succ]
      refine take_at 2 (some 43) (v := ?_) rfl rfl (by kernel_rfl) (by kernel_rfl) (by kernel_rfl) (fun _ _ _ h => h) ⟨by rfl, ?_⟩ hS ?_
      rotate_left
      · intro wq hSw; go_simp; try rfl
      simp only [Act.put, List.setIfInBounds_toArray, List.set_cons_zero, List.set_cons_succ]
      refine take_at 3 (some 44) (v := ?_) rfl rfl (by kernel_rfl) (by kernel_rfl) (by kernel_rfl) (fun _ _ _ h => h) ⟨by rfl, ?_⟩ hS ?_
      rotate_left
      · intro wq hSw; go_simp; try rfl
      simp only [Act.put, List.setIfInBounds_toArray, List.set_cons_zero, List.set_cons_succ]
      refine take_at 4 (some 45) (v := ?_) rfl rfl (by kernel_rfl) (by kernel_rfl) (by kernel_rfl) (fun _ _ _ h => h) ⟨by rfl, ?_⟩ hS ?_
      rotate_left
      · intro wq hSw; have q0 := hSw; go_simp; try rfl
      simp only [Act.put, List.setIfInBounds_toArray, List.set_cons_zero, List.set_cons_succ]
      refine take_at 5 (some 46) (v := ?_) rfl rfl (by kernel_rfl) (by kernel_rfl) (by kernel_rfl) (fun _ _ _ h => h) ⟨by rfl, ?_⟩ hS ?_
      rotate_left
      · intro wq hSw; go_simp; try rfl
      simp only [Act.put, List.setIfInBounds_toArray, List.set_cons_zero, List.set_cons_succ]
      refine take_at 6 (some 47) (v := ?_) rfl rfl (by kernel_rfl) (by kernel_rfl) (by kernel_rfl) (fun _ _ _ h => h) ⟨by rfl, ?_⟩ hS ?_
      rotate_left
      · intro wq hSw; go_simp; try rfl
      simp only [Act.put, List.setIfInBounds_toArray, List.set_cons_zero, List.set_cons_succ]
      refine take_at 7 (some 48) (v := ?_) rfl rfl (by kernel_rfl) (by kernel_rfl) (by kernel_rfl) (fun _ _ _ h => h) ⟨by rfl, ?_⟩ hS ?_
      rotate_left
      · intro wq hSw; go_simp; try rfl
      simp only [Act.put, List.setIfInBounds_toArray, List.set_cons_zero, List.set_cons_succ]
      refine wpAnyH_ready (rs := [8]) (by kernel_rfl) (by simp) ?_
      refine AllReadyH.cons rfl (fun K hK => ?_) AllReadyH.nil
      have z0 := ZD.out.1
      go_simp
      go_wp2_with fail
      refine hK.out _ _ SX.out.1 (fun hS => ?_)
      clear hK K
      (try simp only [Act.put, List.setIfInBounds_toArray, List.set_cons_zero, List.set_cons_succ])
      clear z0
      refine take_at 9 (some 50) (v := ?_) rfl rfl (by kernel_rfl) (by kernel_rfl) (by kernel_rfl) (fun _ _ _ h => h) ⟨by rfl, ?_⟩ hS ?_
      rotate_left
      · intro wq hSw; go_simp; try rfl
      simp only [Act.put, List.setIfInBounds_toArray, List.set_cons_zero, List.set_cons_succ]
      refine take_at 10 (some 51) (v := ?_) rfl rfl (by kernel_rfl) (by kernel_rfl) (by kernel_rfl) (fun _ _ _ h => h) ⟨by rfl, ?_⟩ hS ?_
      rotate_left
      · intro wq hSw; go_simp; try rfl
      simp only [Act.put, List.setIfInBounds_toArray, List.set_cons_zero, List.set_cons_succ]
      refine take_at 11 (some 52) (v := ?_) rfl rfl (by kernel_rfl) (by kernel_rfl) (by kernel_rfl) (fun _ _ _ h => h) ⟨by rfl, ?_⟩ hS ?_
      rotate_left
      · intro wq hSw; go_simp; try rfl
      simp only [Act.put, List.setIfInBounds_toArray, List.set_cons_zero, List.set_cons_succ]
      refine wpAnyH_ready (rs := [12]) (by kernel_rfl) (by simp) ?_
      refine AllReadyH.cons rfl (fun K hK => ?_) AllReadyH.nil
      have z0 := ZD.out.1
      have z1 := ZD.out.2
      go_simp
      go_wp2_with fail
      refine hK.out _ _ SX.out.2 (fun hS => ?_)
      clear hK K
      (try simp only [Act.put, List.setIfInBounds_toArray, List.set_cons_zero, List.set_cons_succ])
      refine wpAnyH_done (by kernel_rfl) ?_ _
      go_wp2_with fail
      go_roundw
      case rel => exact ⟨i + 1, _, _, by go_num, by omega, HA3.out, put_same _ _ _, by rw [put_other _ _ (by decide)]; exact J2.out⟩
      case measure => simp [intOf]; omega
    · obtain rfl : n = i := by omega
      have d1 : decide ((n : Int) < (n : Int)) = false := decide_eq_false (by omega)
      have JC := hide (show J 1001 = some ⟨57, 5, .slice xa n xc, n, ctrsC (xcs.map xC)⟩ by rw [J1.out, HN.out, part_all])
      clear J1
      go_wp2_with fail
      clear y2 d1
      obtain ⟨wx, hwx⟩ : ∃ x, x = wr := ⟨_, rfl⟩
      subst hwx
      go_loopw [11] (fun v wz => ∃ (i : Nat) (I K : Nat → Option It), v = .int .i64 (i : Int) ∧ i ≤ m ∧ AS w B L pla 1024 K wz lab1 I vB1 vW1 vP1 vR1 bs1 ws1 ps1 qs1 X1 nX ∧ K 1002 = some ⟨59, 2, .slice xb m xd, m, grpsC (part xG xgs i)⟩ ∧ K 1001 = some ⟨57, 5, .slice xa n xc, n, ctrsC (xcs.map xC)⟩) (fun v _ => m + 1 - (intOf v).toNat)
      case atStart => exact ⟨0, I, J, rfl, Nat.zero_le _, A2.out, by rw [J2.out, K0.out.2.1, HM.out]; simp [part], JC.out⟩
      case round =>
        clear A2 JC J2 I J
        obtain ⟨i, I, J, rfl, hi, hA, j1, j2⟩ := hrel
        have A2 := hide hA
        have J1 := hide j1
        have J2 := hide j2
        clear hA j1 j2
        have cc := A2.out.got MX.out.1
        obtain ⟨y2, -⟩ := cc.get 3 _ rfl
        clear cc
        by_cases hlt : i < m
        · have d1 : decide ((i : Int) < (m : Int)) = true := decide_eq_true (by omega)
          have d2 : (i : Int) < (m : Int) := by omega
          have hix : i < xgs.length := by have := HM.out; omega
          have ik := A2.out.ot 1002 (by decide)
          rw [J1.out] at ik
          obtain ⟨g, c, eg, -⟩ := grow_open (A2.out.own.at_ _ _ ik).1 (by show 0 < m; omega)
          have eg : Value.slice xb m xd = .slice (some ⟨g, 0, none⟩) m c := eg
          cases eg
          have IK := hide ik
          have zc := (A2.out.own.at_ _ _ ik).1
          have hA3 := A2.out.drew.setx (key := 1002) (by decide) ik (i * 2 + 1) (.int .i64 (bits .xor .i64 xgs[i].sum 5))
          have hpl : i < (part xG xgs i).length := by rw [part_len]; exact hix
          have hpg : (part xG xgs i)[i] = xgs[i] := by have := part_get xG xgs i hix; rw [List.getElem?_eq_getElem hpl] at this; exact Option.some.inj this
          have es := gset1 (part xG xgs i) i (bits .xor .i64 xgs[i].sum 5) hpl
          rw [hpg, show ({ xgs[i] with sum := bits .xor .i64 xgs[i].sum 5 } : GrpM) = xG xgs[i] from rfl, part_set xG xgs i hix] at es
          rw [es] at hA3
          have HA3 := hide hA3
          obtain ⟨z0, z1⟩ : wr.cell? ⟨g, i * 2 + 1, none⟩ = some (.int .i64 xgs[i].sum) ∧ wr.frozen? ⟨g, i * 2 + 1, none⟩ = false := by
            obtain ⟨_, _, e1, li, _, _, _, h0⟩ := GRow.lies zc
            cases e1
            obtain ⟨b, off, e2, hb, hc⟩ := Lies.rowAt grpC 2 grpC_length li i hpl (by decide)
            cases e2
            have := hc 1 _ rfl
            rw [hpg, Nat.zero_add] at this
            exact ⟨this, World.ownsRow.frozenAt zc _⟩
          clear hA3 es hpg hpl zc ik
          obtain ⟨vv, hvv⟩ : ∃ z, z = xgs[i].sum := ⟨_, rfl⟩
          rw [← hvv] at z0 HA3
          clear hvv
          go_upto_region 17 with fail
          have SX := hide (show (wr.drew.cell? ⟨P7, 3, none⟩ = some (.slice (some ⟨g, 0, none⟩) m xd)) ∧ ((wr.drew.setCell ⟨g, i * 2 + 1, none⟩ (.int .i64 (bits .xor .i64 vv 5))).cell? ⟨P7, 3, none⟩ = some (.slice (some ⟨g, 0, none⟩) m xd)) from ⟨((A2.out.drew.got MX.out.1).get 3 _ rfl).1, ((HA3.out.got MX.out.1).get 3 _ rfl).1⟩)
          have ZD := hide (show wr.drew.cell? ⟨g, i * 2 + 1, none⟩ = some (.int .i64 vv) ∧ wr.drew.frozen? ⟨g, i * 2 + 1, none⟩ = false from ⟨z0, z1⟩)
          clear z0 z1
          refine wp_region_held_drew (S := fun wq : World => wq.cell? ⟨P7, 3, none⟩ = some (.slice (some ⟨g, 0, none⟩) m xd)) (by kernel_rfl) SX.out.1 (fun hS => ?_)
          generalize wr.drew = we at *
          refine take_at 0 (some 60) (v := ?_) rfl rfl (by kernel_rfl) (by kernel_rfl) (by kernel_rfl) (fun _ _ _ h => h) ⟨by rfl, ?_⟩ hS ?_
          rotate_left
          · intro wq hSw; go_simp; try rfl
          simp only [Act.put, List.setIfInBounds_toArray, List.set_cons_zero, List.set_cons_succ]
          refine take_at 1 (some 61) (v := ?_) rfl rfl (by kernel_rfl) (by kernel_rfl) (by kernel_rfl) (fun _ _ _ h => h) ⟨by rfl, ?_⟩ hS ?_
          rotate_left
          · intro wq hSw; have q0 := hSw; go_simp; try rfl
          simp only [Act.put, List.setIfInBounds_toArray, List.set_cons_zero, List.set_cons_succ]
          refine take_at 2 (some 62) (v := ?_) rfl rfl (by kernel_rfl) (by kernel_rfl) (by kernel_rfl) (fun _ _ _ h => h) ⟨by rfl, ?_⟩ hS ?_
          rotate_left
          · intro wq hSw; go_simp; try rfl
          simp only [Act.put, List.setIfInBounds_toArray, List.set_cons_zero, List.set_cons_succ]
          refine take_at 3 (some 63) (v := ?_) rfl rfl (by kernel_rfl) (by kernel_rfl) (by kernel_rfl) (fun _ _ _ h => h) ⟨by rfl, ?_⟩ hS ?_
          rotate_left
          · intro wq hSw; go_simp; try rfl
          simp only [Act.put, List.setIfInBounds_toArray, List.set_cons_zero, List.set_cons_succ]
          refine take_at 4 (some 64) (v := ?_) rfl rfl (by kernel_rfl) (by kernel_rfl) (by kernel_rfl) (fun _ _ _ h => h) ⟨by rfl, ?_⟩ hS ?_
          rotate_left
          · intro wq hSw; have q0 := hSw; go_simp; try rfl
          simp only [Act.put, List.setIfInBounds_toArray, List.set_cons_zero, List.set_cons_succ]
          refine take_at 5 (some 65) (v := ?_) rfl rfl (by kernel_rfl) (by kernel_rfl) (by kernel_rfl) (fun _ _ _ h => h) ⟨by rfl, ?_⟩ hS ?_
          rotate_left
          · intro wq hSw; go_simp; try rfl
          simp only [Act.put, List.setIfInBounds_toArray, List.set_cons_zero, List.set_cons_succ]
          refine take_at 6 (some 66) (v := ?_) rfl rfl (by kernel_rfl) (by kernel_rfl) (by kernel_rfl) (fun _ _ _ h => h) ⟨by rfl, ?_⟩ hS ?_
          rotate_left
          · intro wq hSw; go_simp; try rfl
          simp only [Act.put, List.setIfInBounds_toArray, List.set_cons_zero, List.set_cons_succ]
          refine take_at 7 (some 67) (v := ?_) rfl rfl (by kernel_rfl) (by kernel_rfl) (by kernel_rfl) (fun _ _ _ h => h) ⟨by rfl, ?_⟩ hS ?_
          rotate_left
          · intro wq hSw; go_simp; try rfl
          simp only [Act.put, List.setIfInBounds_toArray, List.set_cons_zero, List.set_cons_succ]
          refine wpAnyH_ready (rs := [8]) (by kernel_rfl) (by simp) ?_
          refine AllReadyH.cons rfl (fun K hK => ?_) AllReadyH.nil
          have z0 := ZD.out.1
          go_simp
          go_wp2_with fail
          refine hK.out _ _ SX.out.1 (fun hS => ?_)
          clear hK K
          (try simp only [Act.put, List.setIfInBounds_toArray, List.set_cons_zero, List.set_cons_succ])
          clear z0
          refine take_at 9 (some 69) (v := ?_) rfl rfl (by kernel_rfl) (by kernel_rfl) (by kernel_rfl) (fun _ _ _ h => h) ⟨by rfl, ?_⟩ hS ?_
          rotate_left
          · intro wq hSw; go_simp; try rfl
          simp only [Act.put, List.setIfInBounds_toArray, List.set_cons_zero, List.set_cons_succ]
          refine take_at 10 (some 70) (v := ?_) rfl rfl (by kernel_rfl) (by kernel_rfl) (by kernel_rfl) (fun _ _ _ h => h) ⟨by rfl, ?_⟩ hS ?_
          rotate_left
          · intro wq hSw; go_simp; try rfl
          simp only [Act.put, List.setIfInBounds_toArray, List.set_cons_zero, List.set_cons_succ]
          refine take_at 11 (some 71) (v := ?_) rfl rfl (by kernel_rfl) (by kernel_rfl) (by kernel_rfl) (fun _ _ _ h => h) ⟨by rfl, ?_⟩ hS ?_
          rotate_left
          · intro wq hSw; go_simp; try rfl
          simp only [Act.put, List.setIfInBounds_toArray, List.set_cons_zero, List.set_cons_succ]
          refine wpAnyH_ready (rs := [12]) (by kernel_rfl) (by simp) ?_
          refine AllReadyH.cons rfl (fun K hK => ?_) AllReadyH.nil
          have z0 := ZD.out.1
          have z1 := ZD.out.2
          go_simp
          go_wp2_with fail
          refine hK.out _ _ SX.out.2 (fun hS => ?_)
          clear hK K
          (try simp only [Act.put, List.setIfInBounds_toArray, List.set_cons_zero, List.set_cons_succ])
          refine wpAnyH_done (by kernel_rfl) ?_ _
          go_wp2_with fail
          go_roundw
          case rel => exact ⟨i + 1, _, _, by go_num, by omega, HA3.out, put_same _ _ _, by rw [put_other _ _ (by decide)]; exact J2.out⟩
          case measure => simp [intOf]; omega
        · obtain rfl : m = i := by omega
          have d1 : decide ((m : Int) < (m : Int)) = false := decide_eq_false (by omega)
          have JG := hide (show J 1002 = some ⟨59, 2, .slice xb m xd, m, grpsC (xgs.map xG)⟩ by rw [J1.out, HM.out, part_all])
          clear J1
          have AX3 := ask_any 2 (by decide) (kq := 1001) (xP ⟨xn, xl, xcs, xgs⟩) ⟨xa, xc, xb, xd⟩ A2.out LL.out.1 LL.out.2.1 LL.out.2.2.1 LL.out.2.2.2 (by rw [J2.out]; simp only [itC, vC, xP, List.length_map, ← HN.out]) (by rw [show 1001 + 1 = 1002 from rfl, JG.out]; simp only [itG, vG, xP, List.length_map, ← HM.out]) (by decide) (xP_check CX.out.1) (xP_fit CX.out.2) TT.out
          simp only [pageV, xP, List.length_map, ← HN.out, ← HM.out] at AX3
          have cc := A2.out.got MX.out.1
          obtain ⟨g0, -⟩ := cc.get 0 _ rfl
          obtain ⟨g1, -⟩ := cc.get 1 _ rfl
          obtain ⟨g2, -⟩ := cc.get 2 _ rfl
          clear cc
          go_wp2_with fail
          clear g0 g1 g2 y2 d1
          refine AX3.mono ?_
          clear AX3 A2 JG J2 LL
          rintro e w12 ⟨rfl, lab2, I2, vB2, vW2, vP2, vR2, bs2, ws2, ps2, qs2, X2, hA, l1, l2, l3, l4⟩
          have A3 := hide hA
          have LL := hide (And.intro l1 (And.intro l2 (And.intro l3 l4)))
          clear hA l1 l2 l3 l4
          go_wp2_with fail
          go_loopw [12] (fun v wz => ∃ (i : Nat) (I : Nat → Option It) (X : List Nat), v = .int .i64 (i : Int) ∧ i ≤ 1024 ∧ AS w B L pla 1024 J wz lab2 I vB2 vW2 vP2 vR2 bs2 ws2 ps2 qs2 X nX) (fun v _ => 1025 - (intOf v).toNat)
          case atStart => exact ⟨0, _, _, rfl, Nat.zero_le _, A3.out⟩
          case round =>
            clear A3
            obtain ⟨k, I3, X3, rfl, hk, hA⟩ := hrel
            have A4 := hide hA
            clear hA
            by_cases hlt3 : k < 1024
            · have d1 : decide ((k : Int) < 1024) = true := decide_eq_true (by omega)
              have d2 : (k : Int) < 1024 := by omega
              obtain ⟨vz, z0, z1⟩ := A4.out.place.2.2 k hlt3
              have hA5 := A4.out.lay k 85
              have HA5 := hide (show AS w B L pla 1024 J (wr.setCell ⟨pla, k, none⟩ (.int .u8 85)) lab2 _ vB2 vW2 vP2 vR2 bs2 ws2 ps2 qs2 _ nX from hA5)
              clear hA5
              go_wp2_with fail
              go_roundw
              case rel => exact ⟨k + 1, _, _, by go_num, by omega, HA5.out⟩
              case measure => simp [intOf]; omega
            · obtain rfl : k = 1024 := by omega
              have d1 : decide ((1024 : Int) < 1024) = false := by decide
              have SY := stay_any A4.out.own A4.out.bx A4.out.ct LL.out.2.1 LL.out.2.2.2
              go_wp2_with fail
              refine SY.mono ?_
              clear SY
              rintro e w13 ⟨rfl, hh⟩
              have A5 := hide (A4.out.below hh)
              clear hh A4
              have MK := mark_any A5.out.own A5.out.bx A5.out.ct (by rw [LL.out.2.1, List.length_map]) (A5.out.no 8 (by decide) (by decide)) (A5.out.no 9 (by decide) (by decide)) A5.out.bb A5.out.bs A5.out.bl (by have := LL.out.1; omega) (by have := LL.out.2.2.1; omega)
              go_wp2_with fail
              refine MK.mono ?_
              clear MK
              rintro e w14 ⟨rfl, hh⟩
              go_wp2_with fail
              go_ret
              exact ⟨rfl, hh⟩
end Go.Proofs.YtakjpljpdlhicaaDoor
