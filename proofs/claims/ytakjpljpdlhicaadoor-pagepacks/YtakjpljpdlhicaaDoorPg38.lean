import Derived.Test.YtakjpljpdlhicaaDoorPg37
import Derived.Test.YtakjpljpdlhicaaDoorTake
import Derived.Test.YtakjpljpdlhicaaDoorHold
set_option linter.all false
namespace Go.Proofs.YtakjpljpdlhicaaDoor
open Go.RowKit Go.QK Go.Pg
set_option maxRecDepth 100000
/-! What is lent: lists with a mark behind. -/
abbrev mkC : CtrM := ⟨-71, -72, 0, 0, 73⟩
abbrev mkG : GrpM := ⟨-74, 75⟩
structure Mks (w : World) : Prop where
  c : Lies w (some ⟨0, 0, none⟩) (ctrC mkC)
  g : Lies w (some ⟨1, 0, none⟩) (grpC mkG)
theorem Mks.below {w w' : World} (h : Mks w) (hb : Below w.heap.size w w') : Mks w' := ⟨h.c.below hb, h.g.below hb⟩
theorem lies_at {w : World} {b : Nat} {cs : List Value} (h : Lies w (some ⟨b, 0, none⟩) cs) {i : Nat} {v : Value} (hv : cs[i]? = some v) : w.cell? ⟨b, i, none⟩ = some v := by
  obtain ⟨b', off, e, _, hc⟩ := h.cellAt i v hv
  cases e
  rw [Nat.zero_add] at hc
  exact hc
theorem Mks.ctr {w : World} (h : Mks w) : w.cell? ⟨0, 0, none⟩ = some (.int .i64 (-71)) ∧ w.cell? ⟨0, 1, none⟩ = some (.int .i64 (-72)) ∧ w.cell? ⟨0, 2, none⟩ = some (.int .i64 0) ∧ w.cell? ⟨0, 3, none⟩ = some (.int .i64 0) ∧ w.cell? ⟨0, 4, none⟩ = some (.int .i64 73) :=
  ⟨lies_at h.c rfl, lies_at h.c rfl, lies_at h.c rfl, lies_at h.c rfl, lies_at h.c rfl⟩
theorem Mks.grp {w : World} (h : Mks w) : w.cell? ⟨1, 0, none⟩ = some (.int .i64 (-74)) ∧ w.cell? ⟨1, 1, none⟩ = some (.int .i64 75) :=
  ⟨lies_at h.g rfl, lies_at h.g rfl⟩
theorem lies_new (w : World) (l : List Value) (t : TypeId) : Lies (w.alloc (.cells l.toArray t)) (some ⟨w.heap.size, 0, none⟩) l := by
  have h := Cells.new w l.toArray t
  refine .inr ⟨w.heap.size, 0, rfl, h.1, fun i hi => ?_⟩
  have q := (h.2 i hi).1
  rw [Nat.zero_add]
  exact q
theorem Lies.front {w : World} {a : Option Addr} {xs ys : List Value} (h : Lies w a (xs ++ ys)) : Lies w a xs := by
  rcases h with h | ⟨b, off, e, hb, hc⟩
  · exact .inl (List.append_eq_nil_iff.1 h).1
  · refine .inr ⟨b, off, e, hb, fun i hi => ?_⟩
    have := hc i (by simp; omega)
    rw [this, List.getElem_append_left hi]
theorem grow_open {w : World} {B e size n : Nat} {v : Value} {xs : List Value} (h : GRow w B e size v n xs) (hn : 0 < n) : ∃ g c, v = .slice (some ⟨g, 0, none⟩) n c ∧ n ≤ c ∧ B ≤ g ∧ g < w.heap.size ∧ Lies w (some ⟨g, 0, none⟩) xs := by
  have hlt := World.ownsRow.lt h
  obtain ⟨a', c', e1, hl, hc, _⟩ := GRow.lies h
  rcases h.2 with ⟨_, q⟩ | ⟨g', cap, cur, q, h1, _, h3, _⟩
  · omega
  · rw [q] at e1 hlt
    cases e1
    exact ⟨g', _, q, h3, h1, (hlt g' rfl).2, hl⟩
structure Lent (w : World) (B : Nat) (p : PageM) (t : At) (g1 g2 : Nat) : Prop where
  ta : t.a = some ⟨g1, 0, none⟩
  tb : t.b = some ⟨g2, 0, none⟩
  r1 : GRow w B 57 5 (.slice t.a (p.cs.length + 1) t.c) (p.cs.length + 1) (ctrsC p.cs ++ ctrC mkC)
  r2 : GRow w B 59 2 (.slice t.b (p.gs.length + 1) t.d) (p.gs.length + 1) (grpsC p.gs ++ grpC mkG)
theorem Lent.below {w w' : World} {B : Nat} {p : PageM} {t : At} {g1 g2 : Nat} (h : Lent w B p t g1 g2) (hb : Below w.heap.size w w') : Lent w' B p t g1 g2 := ⟨h.ta, h.tb, GRow.below h.r1 hb, GRow.below h.r2 hb⟩
theorem Lent.lies {w : World} {B : Nat} {p : PageM} {t : At} {g1 g2 : Nat} (h : Lent w B p t g1 g2) : Lies w t.a (ctrsC p.cs) ∧ Lies w t.b (grpsC p.gs) ∧ p.cs.length + 1 ≤ t.c ∧ p.gs.length + 1 ≤ t.d := by
  obtain ⟨a, c, e1, l1, m1, _⟩ := GRow.lies h.r1
  obtain ⟨b, d, e2, l2, m2, _⟩ := GRow.lies h.r2
  simp only [Value.slice.injEq] at e1 e2
  obtain ⟨rfl, -, rfl⟩ := e1
  obtain ⟨rfl, -, rfl⟩ := e2
  exact ⟨l1.front, l2.front, m1, m2⟩
theorem mark_at {α : Type} {f : α → List Value} {sz : Nat} (hf : ∀ x, (f x).length = sz) (xs : List α) (m : α) (j : Nat) (v : Value) (hm : (f m)[j]? = some v) : (rowsC f xs ++ f m)[xs.length * sz + j]? = some v := by
  have hl : (rowsC f xs).length = xs.length * sz := by
    induction xs with
    | nil => simp [rowsC]
    | cons x xs ih => simp only [rowsC, List.flatMap_cons, List.length_append, List.length_cons] at *; rw [ih, hf, Nat.succ_mul, Nat.add_comm]
  rw [List.getElem?_append_right (by omega), hl, Nat.add_sub_cancel_left, hm]
theorem Lent.marks {w : World} {B : Nat} {p : PageM} {t : At} {g1 g2 : Nat} (h : Lent w B p t g1 g2) : (∀ j v, (ctrC mkC)[j]? = some v → w.cell? ⟨g1, p.cs.length * 5 + j, none⟩ = some v) ∧ (∀ j v, (grpC mkG)[j]? = some v → w.cell? ⟨g2, p.gs.length * 2 + j, none⟩ = some v) ∧ g1 < w.heap.size ∧ g2 < w.heap.size := by
  obtain ⟨x1, c1, e1, -, -, z1, l1⟩ := grow_open h.r1 (Nat.succ_pos _)
  obtain ⟨x2, c2, e2, -, -, z2, l2⟩ := grow_open h.r2 (Nat.succ_pos _)
  rw [h.ta] at e1
  rw [h.tb] at e2
  simp only [Value.slice.injEq, Option.some.injEq, Addr.mk.injEq] at e1 e2
  obtain ⟨⟨rfl, -⟩, -⟩ := e1
  obtain ⟨⟨rfl, -⟩, -⟩ := e2
  exact ⟨fun j v hv => lies_at l1 (mark_at (sz := 5) (fun _ => rfl) p.cs mkC j v hv), fun j v hv => lies_at l2 (mark_at (sz := 2) (fun _ => rfl) p.gs mkG j v hv), z1, z2⟩
theorem slice24 {a : Option Addr} {n cap : Nat} (k : Nat) (w : World) (h : k ≤ cap) (h4 : a = none → cap = 0) : (Instr.slice 24 (.slice a n cap) none (some (.int .i64 k)) none).run Tryd.prog w = .ok (.slice a k cap) w := by
  cases a with
  | none =>
    obtain rfl := h4 rfl
    obtain rfl : k = 0 := by omega
    go_simp
  | some ad =>
    obtain ⟨b, off, sp⟩ := ad
    go_simp
theorem slice25 {a : Option Addr} {n cap : Nat} (k : Nat) (w : World) (h : k ≤ cap) (h4 : a = none → cap = 0) : (Instr.slice 25 (.slice a n cap) none (some (.int .i64 k)) none).run Tryd.prog w = .ok (.slice a k cap) w := by
  cases a with
  | none =>
    obtain rfl := h4 rfl
    obtain rfl : k = 0 := by omega
    go_simp
  | some ad =>
    obtain ⟨b, off, sp⟩ := ad
    go_simp
set_option maxHeartbeats 8000000 in
theorem lent_any (p : PageM) (t : At) (w : World) (hm : Mks w) (hcs : Lies w t.a (ctrsC p.cs)) (hgs : Lies w t.b (grpsC p.gs)) (hna : t.a = none → t.c = 0 ∧ p.cs.length = 0) (hnb : t.b = none → t.d = 0 ∧ p.gs.length = 0) (hl1 : p.cs.length * 40 + 40 ≤ 140737488355328) (hl2 : p.gs.length * 16 + 16 ≤ 140737488355328) :
    Calls Tryd.prog 15 #[pageV p t] w fun e w' => ∃ u g1 g2, e = .returned (pageV p u) ∧ Lent w' w.heap.size p u g1 g2 ∧ Below w.heap.size w w' := by
  obtain ⟨num, lsn, cs, gs⟩ := p
  obtain ⟨ta, tc, tb, td⟩ := t
  simp only [pageV] at *
  have HCS := hide hcs
  have HGS := hide hgs
  have HNA := hide hna
  have HNB := hide hnb
  have MK := hide hm
  clear hcs hgs hna hnb hm
  go_enter Tryd.func15, Tryd.ntmps15
  go_upto_region 1 with fail
  refine named (P := Code.wp _ _ _ _) ?_
  intro w2 hw2
  obtain ⟨N, hN⟩ : ∃ N, N = w.heap.size := ⟨_, rfl⟩
  have b2 : Below w.heap.size w w2 := by rw [hw2]; exact bnext (alloc_below _ _) (alloc_below _ _) (Nat.le_refl _)
  have z2 : w2.heap.size = N + 2 := by rw [hw2, hN]; simp
  have c2 : Cells w2 N [.int .i64 num, .int .i64 lsn, .slice ta cs.length tc, .slice tb gs.length td] := by rw [hw2, hN]; exact (Cells.new w #[.int .i64 num, .int .i64 lsn, .slice ta cs.length tc, .slice tb gs.length td] 34).below (alloc_below _ _)
  have d2 : Cells w2 (N + 1) [.int .i64 0, .int .i64 0, .slice none 0 0, .slice none 0 0] := by
    rw [hw2, hN]
    have q := Cells.new (w.alloc (.cells #[.int .i64 num, .int .i64 lsn, .slice ta cs.length tc, .slice tb gs.length td] 34)) #[.int .i64 0, .int .i64 0, .slice none 0 0, .slice none 0 0] 27
    rw [World.size_alloc] at q
    exact q
  have Z2 := hide z2
  have B2 := hide b2
  have C2 := hide c2
  have D2 := hide d2
  have HN := hide hN
  rw [← hN]
  obtain ⟨g2, x2⟩ := c2.get 2 _ rfl
  clear hw2 z2 b2 c2 d2 hN
  go_upto_region 4 with (at_builtin; first
    | (refine wpList_appW Tryd.underlying24 info57 rfl (by decide) (by decide) rfl (.tmp 5) (.tmp 7) rfl (N + 2) (.slice none 0 0) 0 [] rfl (World.ownsRow_nil _ _ _ _) ta cs.length tc (ctrsC cs) rfl (ctrsC_length cs) (HCS.out.below B2.out) (ctrsC_one cs) HNA.out (by omega) (by have := Z2.out; omega) ?_; intro v3 w3 q1 q2 q3; obtain ⟨a1, c1, e1, -⟩ := GRow.lies q1; subst e1; rw [Nat.zero_add, List.nil_append] at q1; have b3 : Below w2.heap.size w2 w3 := (Below.refl _ _).grown q2 (Nat.le_refl _) (by nofun); obtain ⟨n0, n1, n2, n3, n4⟩ := ((MK.out.below B2.out).below b3).ctr; clear g2 x2)
    | (refine wpList_appW Tryd.underlying24 info57 rfl (by decide) (by decide) rfl (.tmp 9) (.tmp 11) rfl (N + 2) (.slice a1 cs.length c1) cs.length (ctrsC cs) (by simp [go_sem]) (GRow.below q1 (alloc_below _ _)) (some ⟨w3.heap.size, 0, none⟩) 1 1 (ctrC mkC) rfl rfl (lies_new w3 _ 57) (fun u hu => ctrsC_one [mkC] u (by simpa [rowsC] using hu)) nofun (by omega) (by have := Z2.out; have := b3.size; simp; omega) ?_; intro v4 w4 r1 r2 r3; clear n0 n1 n2 n3 n4))
  obtain ⟨h1, c4, e4, lc4, -⟩ := grow_open r1 (Nat.succ_pos _)
  subst e4
  have hb4 : Below (N + 2) w2 w4 := by
    have u := Z2.out
    have u3 := b3.size
    have b3' : Below (N + 2) w2 (w3.alloc (.cells (ctrC mkC).toArray 57)) := (b3.mono (by omega)).trans ((alloc_below w3 _).mono (by omega))
    exact b3'.grown r2 (by simp; omega) (fun k hk => (World.ownsRow.lt q1 k hk).1)
  have u2 := Z2.out
  have BW4 := hide (B2.out.trans (hb4.mono (by have := HN.out; omega)))
  have C4 := hide (C2.out.under (by omega) hb4)
  have D4 := hide (D2.out.under (by omega) hb4)
  have Z4 := hide (show N + 2 ≤ w4.heap.size by have := hb4.size; omega)
  have LC := hide (show cs.length ≤ c4 by omega)
  have R4 := hide r1
  obtain ⟨g2, x2⟩ := C4.out.get 3 _ rfl
  clear hb4 u2 q1 q2 q3 b3 r1 r2 r3 C2 D2 Z2 B2 lc4
  go_upto_region 7 with (at_builtin; first
    | (refine wpList_appW Tryd.underlying25 info59 rfl (by decide) (by decide) rfl (.tmp 13) (.tmp 15) rfl w4.heap.size (.slice none 0 0) 0 [] rfl (World.ownsRow_nil _ _ _ _) tb gs.length td (grpsC gs) rfl (grpsC_length gs) (HGS.out.below BW4.out) (grpsC_one gs) HNB.out (by omega) (Nat.le_refl _) ?_; intro v5 w5 q1 q2 q3; obtain ⟨a2, c2, e1, -⟩ := GRow.lies q1; subst e1; rw [Nat.zero_add, List.nil_append] at q1; have b5 : Below w4.heap.size w4 w5 := (Below.refl _ _).grown q2 (Nat.le_refl _) (by nofun); obtain ⟨n0, n1⟩ := ((MK.out.below BW4.out).below b5).grp; clear g2 x2)
    | (refine wpList_appW Tryd.underlying25 info59 rfl (by decide) (by decide) rfl (.tmp 17) (.tmp 19) rfl w4.heap.size (.slice a2 gs.length c2) gs.length (grpsC gs) (by simp [go_sem]) (GRow.below q1 (alloc_below _ _)) (some ⟨w5.heap.size, 0, none⟩) 1 1 (grpC mkG) rfl rfl (lies_new w5 _ 59) (fun u hu => grpsC_one [mkG] u (by simpa [rowsC] using hu)) nofun (by omega) (by have := b5.size; simp; omega) ?_; intro v6 w6 r1 r2 r3; clear n0 n1))
  obtain ⟨h2, c6, e6, lc6, -⟩ := grow_open r1 (Nat.succ_pos _)
  subst e6
  have hb6 : Below w4.heap.size w4 w6 := by
    have u3 := b5.size
    have b5' : Below w4.heap.size w4 (w5.alloc (.cells (grpC mkG).toArray 59)) := b5.trans ((alloc_below w5 _).mono u3)
    exact b5'.grown r2 (by simp; omega) (fun k hk => (World.ownsRow.lt q1 k hk).1)
  have BW6 := hide (BW4.out.trans (hb6.mono BW4.out.size))
  have C6 := hide (C4.out.below hb6)
  have D6 := hide (D4.out.below hb6)
  have LG := hide (show gs.length ≤ c6 by omega)
  have S6 := hide (GRow.below R4.out hb6)
  have R6 := hide (GRow.mono r1 Z4.out)
  clear hb6 q1 q2 q3 b5 r1 r2 r3 C4 D4 BW4 R4 HCS HGS HNA HNB lc6
  have lc := LC.out
  have lg := LG.out
  have s1 := fun wq => slice24 (a := some ⟨h1, 0, none⟩) (n := cs.length + 1) (cap := c4) cs.length wq lc nofun
  have s2 := fun wq => slice25 (a := some ⟨h2, 0, none⟩) (n := gs.length + 1) (cap := c6) gs.length wq lg nofun
  refine wp_region_held_drew (S := fun wq => Cells wq N [.int .i64 num, .int .i64 lsn, .slice ta cs.length tc, .slice tb gs.length td]) (by kernel_rfl) (C6.out.below (Below.refl _ _).drew) (fun hS => ?_)
  have D0 := hide ((Below.refl w6.heap.size w6).drew)
  have E6 := hide (D6.out.below D0.out)
  have B7 := hide (BW6.out.trans (D0.out.mono BW6.out.size))
  have S7 := hide (GRow.below S6.out D0.out)
  have R7 := hide (GRow.below R6.out D0.out)
  clear D0 D6 BW6 S6 R6 C6
  generalize w6.drew = x0 at *
  refine take_at 0 (some 21) (v := ?_) rfl rfl (by kernel_rfl) (by kernel_rfl) (by kernel_rfl) (fun _ _ _ h => h) ⟨by rfl, ?_⟩ hS ?_
  rotate_left
  · intro wq hSw; go_simp; try rfl
  simp only [Act.put, List.setIfInBounds_toArray, List.set_cons_zero, List.set_cons_succ]
  refine take_at 1 (some 22) (v := ?_) rfl rfl (by kernel_rfl) (by kernel_rfl) (by kernel_rfl) (fun _ _ _ h => h) ⟨by rfl, ?_⟩ hS ?_
  rotate_left
  · intro wq hSw; obtain ⟨q0, _⟩ := hSw.get 0 _ rfl; go_simp; try rfl
  simp only [Act.put, List.setIfInBounds_toArray, List.set_cons_zero, List.set_cons_succ]
  refine take_at 2 (some 23) (v := ?_) rfl rfl (by kernel_rfl) (by kernel_rfl) (by kernel_rfl) (fun _ _ _ h => h) ⟨by rfl, ?_⟩ hS ?_
  rotate_left
  · intro wq hSw; go_simp; try rfl
  simp only [Act.put, List.setIfInBounds_toArray, List.set_cons_zero, List.set_cons_succ]
  refine take_at 3 (some 24) (v := ?_) rfl rfl (by kernel_rfl) (by kernel_rfl) (by kernel_rfl) (fun _ _ _ h => h) ⟨by rfl, ?_⟩ hS ?_
  rotate_left
  · intro wq hSw; obtain ⟨q1, _⟩ := hSw.get 1 _ rfl; go_simp; try rfl
  simp only [Act.put, List.setIfInBounds_toArray, List.set_cons_zero, List.set_cons_succ]
  refine take_at 4 (some 25) (v := ?_) rfl rfl (by kernel_rfl) (by kernel_rfl) (by kernel_rfl) (fun _ _ _ h => h) ⟨by rfl, ?_⟩ hS ?_
  rotate_left
  · intro wq hSw; go_simp; try rfl
  simp only [Act.put, List.setIfInBounds_toArray, List.set_cons_zero, List.set_cons_succ]
  refine take_at 5 (some 26) (v := ?_) rfl rfl (by kernel_rfl) (by kernel_rfl) (by kernel_rfl) (fun _ _ _ h => h) ⟨by rfl, ?_⟩ hS ?_
  rotate_left
  · intro wq hSw; go_simp; try rfl
  simp only [Act.put, List.setIfInBounds_toArray, List.set_cons_zero, List.set_cons_succ]
  refine take_at 6 (some 27) (v := ?_) rfl rfl (by kernel_rfl) (by kernel_rfl) (by kernel_rfl) (fun _ _ _ h => h) ⟨by rfl, ?_⟩ hS ?_
  rotate_left
  · intro wq hSw; obtain ⟨q2, _⟩ := hSw.get 2 _ rfl; go_simp; try rfl
  simp only [Act.put, List.setIfInBounds_toArray, List.set_cons_zero, List.set_cons_succ]
  refine take_at 7 (some 28) (v := ?_) rfl rfl (by kernel_rfl) (by kernel_rfl) (by kernel_rfl) (fun _ _ _ h => h) ⟨by rfl, ?_⟩ hS ?_
  rotate_left
  · intro wq hSw; go_simp; try rfl
  simp only [Act.put, List.setIfInBounds_toArray, List.set_cons_zero, List.set_cons_succ]
  refine take_at 8 (some 29) (v := ?_) rfl rfl (by kernel_rfl) (by kernel_rfl) (by kernel_rfl) (fun _ _ _ h => h) ⟨by rfl, ?_⟩ hS ?_
  rotate_left
  · intro wq hSw; go_simp; try rfl
  simp only [Act.put, List.setIfInBounds_toArray, List.set_cons_zero, List.set_cons_succ]
  refine take_at 9 (some 30) (v := ?_) rfl rfl (by kernel_rfl) (by kernel_rfl) (by kernel_rfl) (fun _ _ _ h => h) ⟨by rfl, ?_⟩ hS ?_
  rotate_left
  · intro wq hSw; go_simp; try rfl
  simp only [Act.put, List.setIfInBounds_toArray, List.set_cons_zero, List.set_cons_succ]
  refine take_at 10 (some 31) (v := ?_) rfl rfl (by kernel_rfl) (by kernel_rfl) (by kernel_rfl) (fun _ _ _ h => h) ⟨by rfl, ?_⟩ hS ?_
  rotate_left
  · intro wq hSw; go_simp; try rfl
  simp only [Act.put, List.setIfInBounds_toArray, List.set_cons_zero, List.set_cons_succ]
  refine take_at 11 (some 32) (v := ?_) rfl rfl (by kernel_rfl) (by kernel_rfl) (by kernel_rfl) (fun _ _ _ h => h) ⟨by rfl, ?_⟩ hS ?_
  rotate_left
  · intro wq hSw; obtain ⟨q3, _⟩ := hSw.get 3 _ rfl; go_simp; try rfl
  simp only [Act.put, List.setIfInBounds_toArray, List.set_cons_zero, List.set_cons_succ]
  refine take_at 12 (some 33) (v := ?_) rfl rfl (by kernel_rfl) (by kernel_rfl) (by kernel_rfl) (fun _ _ _ h => h) ⟨by rfl, ?_⟩ hS ?_
  rotate_left
  · intro wq hSw; go_simp; try rfl
  simp only [Act.put, List.setIfInBounds_toArray, List.set_cons_zero, List.set_cons_succ]
  refine take_at 13 (some 34) (v := ?_) rfl rfl (by kernel_rfl) (by kernel_rfl) (by kernel_rfl) (fun _ _ _ h => h) ⟨by rfl, ?_⟩ hS ?_
  rotate_left
  · intro wq hSw; go_simp; try rfl
  simp only [Act.put, List.setIfInBounds_toArray, List.set_cons_zero, List.set_cons_succ]
  refine take_at 14 (some 35) (v := ?_) rfl rfl (by kernel_rfl) (by kernel_rfl) (by kernel_rfl) (fun _ _ _ h => h) ⟨by rfl, ?_⟩ hS ?_
  rotate_left
  · intro wq hSw; go_simp; try rfl
  simp only [Act.put, List.setIfInBounds_toArray, List.set_cons_zero, List.set_cons_succ]
  have K8 := hide (((((Keep.refl (fun i => i = N + 1) x0).setCell (g := N + 1) (j := 0) (fun _ => rfl) (.int .i64 num)).setCell (g := N + 1) (j := 1) (fun _ => rfl) (.int .i64 lsn)).setCell (g := N + 1) (j := 2) (fun _ => rfl) (.slice (some ⟨h1, 0, none⟩) cs.length c4)).setCell (g := N + 1) (j := 3) (fun _ => rfl) (.slice (some ⟨h2, 0, none⟩) gs.length c6))
  have C8 := hide ((((E6.out.stored (j := 0) (by simp) (.int .i64 num)).stored (j := 1) (by simp) (.int .i64 lsn)).stored (j := 2) (by simp) (.slice (some ⟨h1, 0, none⟩) cs.length c4)).stored (j := 3) (by simp) (.slice (some ⟨h2, 0, none⟩) gs.length c6))
  obtain ⟨y0, z0⟩ := E6.out.get 0 _ rfl
  obtain ⟨y1, z1⟩ := E6.out.get 1 _ rfl
  obtain ⟨y2, z2⟩ := E6.out.get 2 _ rfl
  obtain ⟨y3, z3⟩ := E6.out.get 3 _ rfl
  have SK := hide (hS.keep K8.out (by omega))
  clear hS
  refine wpAnyH_ready (rs := [15]) (by kernel_rfl) (by simp) ?_
  refine AllReadyH.cons rfl (fun K hK => ?_) AllReadyH.nil
  go_simp
  go_wp2_with fail
  refine hK.out _ _ SK.out (fun hS => ?_)
  clear hK K
  (try simp only [Act.put, List.setIfInBounds_toArray, List.set_cons_zero, List.set_cons_succ])
  refine wpAnyH_done (by kernel_rfl) ?_ _
  clear hS y0 y1 y2 y3 z0 z1 z2 z3
  obtain ⟨k0, _⟩ := C8.out.get 0 _ rfl
  obtain ⟨k1, _⟩ := C8.out.get 1 _ rfl
  obtain ⟨k2, _⟩ := C8.out.get 2 _ rfl
  obtain ⟨k3, _⟩ := C8.out.get 3 _ rfl
  have F1 := hide (GRow.keep S7.out K8.out (fun k hk q => by have := (World.ownsRow.lt S7.out k hk).1; omega))
  have F2 := hide (GRow.keep R7.out K8.out (fun k hk q => by have := (World.ownsRow.lt R7.out k hk).1; omega))
  have FB := hide (B7.out.trans (K8.out.below B7.out.size (fun i hi q => by have := HN.out; omega)))
  go_wp2_with fail
  refine bodyPost_ret (v := .agg #[.int .i64 num, .int .i64 lsn, .slice (some ⟨h1, 0, none⟩) cs.length c4, .slice (some ⟨h2, 0, none⟩) gs.length c6]) (by simp only [results, Tryd.results15]; simp [go_sem, k0, k1, k2, k3]) rfl ?_
  exact ⟨⟨some ⟨h1, 0, none⟩, c4, some ⟨h2, 0, none⟩, c6⟩, h1, h2, rfl, ⟨rfl, rfl, GRow.mono F1.out (by have := HN.out; omega), GRow.mono F2.out (by have := HN.out; omega)⟩, FB.out⟩
end Go.Proofs.YtakjpljpdlhicaaDoor
