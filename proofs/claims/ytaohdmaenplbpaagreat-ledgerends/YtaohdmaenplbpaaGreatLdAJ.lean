import Derived.Test.YtaohdmaenplbpaaGreatLdAI
set_option linter.all false
namespace Go.Proofs.YtaohdmaenplbpaaGreat
open Go.RowKit Go.QK Quota Go.Maps Go.QM
set_option maxRecDepth 100000
/-! Between two deeds. -/
theorem below_drewN {B : Nat} {w w1 : World} (h : Below B w w1) (q : Nat) : Below B w (w1.drewN q) := ⟨h.os, h.tape, h.output, h.size, h.block⟩
structure Dd where
  kd : Int
  tx : Int
  ct : Int
  d : Int
def ddC (x : Dd) : List Value := [.int .i64 x.kd, .int .i64 x.tx, .int .i64 x.ct, .int .i64 x.d]
theorem ddC_len (x : Dd) : (ddC x).length = 4 := rfl
structure Btw (w wr : World) (sb : Nat) (T : Nat → Prop) (es : List SE) (H : Helds) : Prop where
  sto : Sto T wr sb es H
  low : ∀ z, T z → w.heap.size ≤ z
  bel : Below w.heap.size w wr
theorem Btw.below {w wr w' : World} {sb : Nat} {T : Nat → Prop} {es : List SE} {H : Helds} (h : Btw w wr sb T es H) (k : Below wr.heap.size wr w') : Btw w w' sb T es H := ⟨h.sto.below k, h.low, h.bel.trans (k.mono h.bel.size)⟩
theorem Btw.does {w wr w' : World} {sb : Nat} {T : Nat → Prop} {es : List SE} {H : Helds} (h : Btw w wr sb T es H) {r : Ending} (q : DoesPost T wr sb r w') : r = .returned (.bool true) ∧ ∃ T' es' H', Btw w w' sb T' es' H' := by
  obtain ⟨e, T', es', H', hs, hg⟩ := q
  obtain ⟨b1, b2⟩ := hg.below h.bel.size h.low
  exact ⟨e, T', es', H', hs, b2, h.bel.trans b1⟩
theorem Btw.call {w wr : World} {sb : Nat} {T : Nat → Prop} {es : List SE} {H : Helds} (h : Btw w wr sb T es H) (x : Dd) (hx : I64 x.d) : Calls Tryz.prog 11 #[ptr sb, .agg #[.int .i64 x.kd, .int .i64 x.tx, .int .i64 x.ct, .int .i64 x.d]] wr fun r w' => r = .returned (.bool true) ∧ ∃ T' es' H', Btw w w' sb T' es' H' :=
  (does_any h.sto x.kd x.tx x.ct x.d hx).mono (fun _ _ q => h.does q)
/-- What stands of one counter. -/
structure See (w : World) (sb lb cb co eb eo k n1 c1 n2 c2 : Nat) (x : SE) : Prop where
  m0 : w.cell? ⟨sb, 0, none⟩ = some (ptr lb)
  m1 : w.cell? ⟨sb, 1, none⟩ = some (.slice (some ⟨cb, co, none⟩) n1 c1)
  m2 : w.cell? ⟨sb, 2, none⟩ = some (.slice (some ⟨eb, eo, none⟩) n2 c2)
  x0 : w.cell? ⟨cb, co + k * 5, none⟩ = some (.int .i64 x.id)
  x1 : w.cell? ⟨cb, co + k * 5 + 1, none⟩ = some (.int .i64 x.grp)
  x2 : w.cell? ⟨cb, co + k * 5 + 2, none⟩ = some (.int .i64 x.e.lo)
  x3 : w.cell? ⟨cb, co + k * 5 + 3, none⟩ = some (.int .i64 x.e.hi)
  x4 : w.cell? ⟨cb, co + k * 5 + 4, none⟩ = some (.int .i64 x.v0)
  xe : w.cell? ⟨eb, eo + k, none⟩ = some (ptr x.eb)
theorem St.see {lab : Nat → Nat} {T : Nat → Prop} {w : World} {sb lb : Nat} {a1 a2 : Option Addr} {n1 c1 n2 c2 : Nat} {es : List SE} {C : Ctrs} {H : Helds} (h : St lab T w sb lb (.slice a1 n1 c1) (.slice a2 n2 c2) es C H) {k : Nat} (hk : k < es.length) : ∃ cb co eb eo, a1 = some ⟨cb, co, none⟩ ∧ a2 = some ⟨eb, eo, none⟩ ∧ ∀ wz, Below w.heap.size w wz → See wz sb lb cb co eb eo k n1 c1 n2 c2 es[k] := by
  obtain ⟨a', c', e, hl, -⟩ := GRow.lies h.rc
  cases e
  obtain ⟨cb, co, q1, -, -⟩ := hl.rowAt seC 5 seC_len k hk (by decide)
  obtain ⟨eb, eo, q2, -, -, -⟩ := h.ptrAt hk
  subst q1
  subst q2
  refine ⟨cb, co, eb, eo, rfl, rfl, fun wz hz => ?_⟩
  have g := h.below hz
  obtain ⟨cb', co', e1, -, sel⟩ := (hl.below hz).rowAt seC 5 seC_len k hk (by decide)
  cases e1
  obtain ⟨eb', eo', e2, q3, -, -⟩ := g.ptrAt hk
  cases e2
  exact ⟨(g.box.get 0 _ rfl).1, (g.box.get 1 _ rfl).1, (g.box.get 2 _ rfl).1, sel 0 _ rfl, sel 1 _ rfl, sel 2 _ rfl, sel 3 _ rfl, sel 4 _ rfl, q3⟩
theorem ctrs_len (es : List SE) : (ctrsOf es).length = es.length := List.length_map _
structure Told (w : World) (ab ao k : Nat) (x : SE) : Prop where
  y0 : w.cell? ⟨ab, ao + k * 5, none⟩ = some (.int .i64 x.id)
  y1 : w.cell? ⟨ab, ao + k * 5 + 1, none⟩ = some (.int .i64 x.grp)
  y2 : w.cell? ⟨ab, ao + k * 5 + 2, none⟩ = some (.int .i64 x.e.lo)
  y3 : w.cell? ⟨ab, ao + k * 5 + 3, none⟩ = some (.int .i64 x.e.hi)
  y4 : w.cell? ⟨ab, ao + k * 5 + 4, none⟩ = some (.int .i64 x.e.val)
theorem rows_see {w : World} {B e : Nat} {v : Value} {es : List SE} (h : GRow w B e 5 v (ctrsOf es).length (rowsC kR (ctrsOf es))) : ∃ aa ca, v = .slice aa es.length ca ∧ ∀ k (hk : k < es.length), ∃ ab ao, aa = some ⟨ab, ao, none⟩ ∧ ∀ wz, Below w.heap.size w wz → Told wz ab ao k es[k] := by
  rw [ctrs_len] at h
  obtain ⟨aa, ca, rfl, hl, -⟩ := GRow.lies h
  refine ⟨aa, ca, rfl, fun k hk => ?_⟩
  have hk' : k < (ctrsOf es).length := by rw [ctrs_len]; exact hk
  obtain ⟨ab, ao, q1, -, -⟩ := hl.rowAt kR 5 (fun _ => rfl) k hk' (by decide)
  subst q1
  refine ⟨ab, ao, rfl, fun wz hz => ?_⟩
  obtain ⟨ab', ao', q2, -, sel⟩ := (hl.below hz).rowAt kR 5 (fun _ => rfl) k hk' (by decide)
  cases q2
  have e : (ctrsOf es)[k] = es[k].ctr := by simp [ctrsOf]
  rw [e] at sel
  exact ⟨sel 0 _ rfl, sel 1 _ rfl, sel 2 _ rfl, sel 3 _ rfl, sel 4 _ rfl⟩
/-- The holdings, in the order of the counters. -/
theorem held_perm {es : List SE} {H : Helds} (hu : Up (ctrsOf es)) (hok : HOk (ctrsOf es) H) (t : Int) : (idsOf H t).Perm ((es.filter (fun x => holdB x.e.nets t)).map SE.id) := by
  have n2 : ((es.filter (fun x => holdB x.e.nets t)).map SE.id).Nodup := (ids_nodup hu).sublist (List.Sublist.map _ List.filter_sublist)
  refine (List.perm_ext_iff_of_nodup (hok.nodup t) n2).2 (fun id => ?_)
  rw [hok.iff]
  constructor
  · rintro ⟨c, hc, hh⟩
    obtain ⟨x, hx, rfl, rfl⟩ := mem_of_get hc
    exact List.mem_map.2 ⟨x, List.mem_filter.2 ⟨hx, hh⟩, rfl⟩
  · intro hm
    obtain ⟨x, hx, rfl⟩ := List.mem_map.1 hm
    obtain ⟨hx, hh⟩ := List.mem_filter.1 hx
    exact ⟨_, getM_ctrs hu hx, hh⟩
theorem held_row {es : List SE} {H : Helds} (hu : Up (ctrsOf es)) (hok : HOk (ctrsOf es) H) (t : Int) : heldR H t = (es.filter (fun x => holdB x.e.nets t)).map SE.id := by
  have p1 : (heldR H t).Perm ((es.filter (fun x => holdB x.e.nets t)).map SE.id) := (List.mergeSort_perm _ _).trans (held_perm hu hok t)
  have s1 : (heldR H t).Pairwise (fun x y => x ≤ y) := (List.pairwise_mergeSort (fun a b c h1 h2 => by simp at h1 h2 ⊢; omega) (fun a b => by simp; omega) (idsOf H t)).imp (fun h => by simpa using h)
  have s0 : (es.map SE.id).Pairwise (fun x y => x < y) := by
    have : (ctrsOf es).Pairwise (fun p q => p.1 < q.1) := hu
    rw [List.pairwise_map] at this ⊢
    exact this
  have s2 : ((es.filter (fun x => holdB x.e.nets t)).map SE.id).Pairwise (fun x y => x ≤ y) := (s0.sublist (List.Sublist.map _ List.filter_sublist)).imp (fun h => Int.le_of_lt h)
  exact p1.eq_of_pairwise (fun a b _ _ h1 h2 => Int.le_antisymm h1 h2) s1 s2
theorem filter_at {α : Type} (p : α → Bool) (l : List α) (k : Nat) (hk : k < l.length) (hp : p l[k] = true) : ∃ h : ((l.take k).filter p).length < (l.filter p).length, (l.filter p)[((l.take k).filter p).length] = l[k] := by
  have e : l.filter p = (l.take k).filter p ++ l[k] :: (l.drop (k + 1)).filter p := by
    have q : l = l.take k ++ (l[k] :: l.drop (k + 1)) := by
      rw [← List.drop_eq_getElem_cons hk, List.take_append_drop]
    conv => lhs; rw [q]
    rw [List.filter_append, List.filter_cons, if_pos hp]
  refine ⟨by rw [e]; simp, ?_⟩
  simp only [e]
  rw [List.getElem_append_right (Nat.le_refl _)]
  simp
theorem cnt_mono (t : Int) {es : List SE} (k : Nat) : cntS t k es ≤ cntS t es.length es := by
  unfold cntS
  exact List.Sublist.length_le ((List.Sublist.filter _ (by rw [List.take_length]; exact List.take_sublist _ _)))
/-- The row of holdings that the ledger tells. -/
structure Held1 (w : World) (ab ao m : Nat) (t id v : Int) : Prop where
  h0 : w.cell? ⟨ab, ao + m * 3, none⟩ = some (.int .i64 t)
  h1 : w.cell? ⟨ab, ao + m * 3 + 1, none⟩ = some (.int .i64 id)
  h2 : w.cell? ⟨ab, ao + m * 3 + 2, none⟩ = some (.int .i64 v)
theorem held_see {w : World} {B e : Nat} {v : Value} {es : List SE} {H : Helds} {t : Int} (hu : Up (ctrsOf es)) (hok : HOk (ctrsOf es) H) (h : GRow w B e 3 v (heldR H t).length (rowsC (hdR (ctrsOf es) t) (heldR H t))) : ∃ aa ca, v = .slice aa (cntS t es.length es) ca ∧ ∀ k (hk : k < es.length), holdB es[k].e.nets t = true → cntS t k es < cntS t es.length es ∧ ∃ ab ao, aa = some ⟨ab, ao, none⟩ ∧ ∀ wz, Below w.heap.size w wz → Held1 wz ab ao (cntS t k es) t es[k].id (netV es[k].e.nets t) := by
  have er := held_row hu hok t
  have el : (heldR H t).length = cntS t es.length es := by
    rw [er]; unfold cntS; rw [List.take_length, List.length_map]
  obtain ⟨aa, ca, e1, hl, -⟩ := GRow.lies h
  refine ⟨aa, ca, by rw [e1, el], fun k hk hh => ?_⟩
  obtain ⟨f1, f2⟩ := filter_at (fun x => holdB x.e.nets t) es k hk hh
  have hc : cntS t k es < (heldR H t).length := by rw [er, List.length_map]; exact f1
  obtain ⟨ab, ao, q1, -, -⟩ := hl.rowAt (hdR (ctrsOf es) t) 3 (fun _ => rfl) (cntS t k es) hc (by decide)
  subst q1
  refine ⟨by rw [← el]; exact hc, ab, ao, rfl, fun wz hz => ?_⟩
  obtain ⟨ab', ao', q2, -, sel⟩ := (hl.below hz).rowAt (hdR (ctrsOf es) t) 3 (fun _ => rfl) (cntS t k es) hc (by decide)
  cases q2
  have ei : (heldR H t)[cntS t k es] = es[k].id := by
    simp only [er, List.getElem_map]
    exact congrArg SE.id f2
  have en : netC (ctrsOf es) t es[k].id = netV es[k].e.nets t := by
    unfold netC
    rw [getM_ctrs hu (List.getElem_mem hk)]
  rw [ei] at sel
  unfold hdR at sel
  rw [en] at sel
  exact ⟨sel 0 _ rfl, sel 1 _ rfl, sel 2 _ rfl⟩
theorem read_at {es : List SE} (hu : Up (ctrsOf es)) {k : Nat} (hk : k < es.length) : readA (ctrsOf es) es[k].id = rng es[k].e.low es[k].e.high ∧ readF (ctrsOf es) es[k].id = 0 := by
  unfold readA readF
  rw [getM_ctrs hu (List.getElem_mem hk)]
  exact ⟨rfl, rfl⟩
end Go.Proofs.YtaohdmaenplbpaaGreat
