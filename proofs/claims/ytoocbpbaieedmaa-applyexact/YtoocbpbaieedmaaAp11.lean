import Derived.Test.YtoocbpbaieedmaaAp10
namespace Go.Proofs.Ytoocbpbaieedmaa
open Go.RowKit Go.QK Quota
set_option maxRecDepth 100000
def cutP (p : Pg) : Pg := ⟨p.num, p.lsn, p.cs.take 200, p.gs.take 200⟩
theorem rowsC_take {α : Type} (f : α → List Value) (n : Nat) (hf : ∀ x, (f x).length = n) (ls : List α) (k : Nat) : rowsC f (ls.take k) = (rowsC f ls).take (k * n) := by
  induction ls generalizing k with
  | nil => simp [rowsC]
  | cons l ls ih =>
    cases k with
    | zero => simp [rowsC]
    | succ k =>
      have := ih k
      simp only [rowsC, List.take_succ_cons, List.flatMap_cons] at *
      rw [this, Nat.succ_mul, List.take_append, hf l, Nat.add_sub_cancel, List.take_of_length_le (l := f l) (by rw [hf l]; omega)]
theorem Lies.take {w : World} {a : Option Addr} {cs : List Value} (h : Lies w a cs) (k : Nat) : Lies w a (cs.take k) := by
  rcases h with h | ⟨b, off, e, lt, q⟩
  · exact .inl (by rw [h]; simp)
  · refine .inr ⟨b, off, e, lt, fun i hi => ?_⟩
    rw [q i (by simp at hi; omega)]
    simp
theorem PIn.cut {w : World} {p : Pg} {t : At} (h : PIn w p t) : PIn w (cutP p) t := by
  refine ⟨?_, ?_, fun e => ⟨(h.nc e).1, ?_⟩, fun e => ⟨(h.ng e).1, ?_⟩, ?_, ?_⟩
  · show Lies w t.a (rowsC ctrC (p.cs.take 200))
    rw [rowsC_take ctrC 5 (fun _ => rfl)]
    exact Lies.take h.lc _
  · show Lies w t.b (rowsC grpC (p.gs.take 200))
    rw [rowsC_take grpC 2 (fun _ => rfl)]
    exact Lies.take h.lg _
  · have := (h.nc e).2
    show (p.cs.take 200).length = 0
    rw [List.length_take]
    omega
  · have := (h.ng e).2
    show (p.gs.take 200).length = 0
    rw [List.length_take]
    omega
  · have := h.cc
    simp [cutP]
    omega
  · have := h.cg
    simp [cutP]
    omega
/-- Numbers of a page that comes in. -/
structure Pg.Num (p : Pg) : Prop where
  c : ∀ x ∈ p.cs, I64 x.val
  g : ∀ x ∈ p.gs, I64 x.sum
theorem Pg.Num.cut {p : Pg} (h : p.Num) : (cutP p).Fit := ⟨fun x hx => h.c x (List.mem_of_mem_take hx), fun x hx => h.g x (List.mem_of_mem_take hx), by simp [cutP]; omega, by simp [cutP]; omega⟩
set_option maxHeartbeats 4000000 in
theorem cut_tt (num lsn : Int) (cs : List Ctr) (gs : List Grp) (ta : Option Addr) (tc : Nat) (tb : Option Addr) (td : Nat) (w : World) (_hc : cs.length ≤ tc) (_hg : gs.length ≤ td) (h1 : decide (200 < (cs.length : Int)) = true) (h2 : decide (200 < (gs.length : Int)) = true) : Calls Try.prog 11 #[.agg #[.int .i64 num, .int .i64 lsn, .slice ta cs.length tc, .slice tb gs.length td]] w fun e w' => e = .returned (.agg #[.int .i64 num, .int .i64 lsn, .slice ta 200 tc, .slice tb 200 td]) ∧ Below w.heap.size w w' := by
  have q1 : 200 ≤ tc := by have := of_decide_eq_true h1; omega
  have q2 : 200 ≤ td := by have := of_decide_eq_true h2; omega
  go_enter Try.func11, Try.ntmps11
  go_wp2_with fail
  exact bodyPost_ret (v := .agg #[.int .i64 num, .int .i64 lsn, .slice ta 200 tc, .slice tb 200 td]) (by simp [results, Try.results11, go_sem]) rfl ⟨rfl, (by repeat first | exact bnext (alloc_below _ _) (alloc_below _ _) (Nat.le_refl _) | exact alloc_below _ _ | refine Below.setCell ?_ (by simp) _ | refine Below.alloc ?_ (by simp) _)⟩
set_option maxHeartbeats 4000000 in
theorem cut_tf (num lsn : Int) (cs : List Ctr) (gs : List Grp) (ta : Option Addr) (tc : Nat) (tb : Option Addr) (td : Nat) (w : World) (_hc : cs.length ≤ tc) (_hg : gs.length ≤ td) (h1 : decide (200 < (cs.length : Int)) = true) (h2 : decide (200 < (gs.length : Int)) = false) : Calls Try.prog 11 #[.agg #[.int .i64 num, .int .i64 lsn, .slice ta cs.length tc, .slice tb gs.length td]] w fun e w' => e = .returned (.agg #[.int .i64 num, .int .i64 lsn, .slice ta 200 tc, .slice tb gs.length td]) ∧ Below w.heap.size w w' := by
  have q1 : 200 ≤ tc := by have := of_decide_eq_true h1; omega
  skip
  go_enter Try.func11, Try.ntmps11
  go_wp2_with fail
  exact bodyPost_ret (v := .agg #[.int .i64 num, .int .i64 lsn, .slice ta 200 tc, .slice tb gs.length td]) (by simp [results, Try.results11, go_sem]) rfl ⟨rfl, (by repeat first | exact bnext (alloc_below _ _) (alloc_below _ _) (Nat.le_refl _) | exact alloc_below _ _ | refine Below.setCell ?_ (by simp) _ | refine Below.alloc ?_ (by simp) _)⟩
set_option maxHeartbeats 4000000 in
theorem cut_ft (num lsn : Int) (cs : List Ctr) (gs : List Grp) (ta : Option Addr) (tc : Nat) (tb : Option Addr) (td : Nat) (w : World) (_hc : cs.length ≤ tc) (_hg : gs.length ≤ td) (h1 : decide (200 < (cs.length : Int)) = false) (h2 : decide (200 < (gs.length : Int)) = true) : Calls Try.prog 11 #[.agg #[.int .i64 num, .int .i64 lsn, .slice ta cs.length tc, .slice tb gs.length td]] w fun e w' => e = .returned (.agg #[.int .i64 num, .int .i64 lsn, .slice ta cs.length tc, .slice tb 200 td]) ∧ Below w.heap.size w w' := by
  skip
  have q2 : 200 ≤ td := by have := of_decide_eq_true h2; omega
  go_enter Try.func11, Try.ntmps11
  go_wp2_with fail
  exact bodyPost_ret (v := .agg #[.int .i64 num, .int .i64 lsn, .slice ta cs.length tc, .slice tb 200 td]) (by simp [results, Try.results11, go_sem]) rfl ⟨rfl, (by repeat first | exact bnext (alloc_below _ _) (alloc_below _ _) (Nat.le_refl _) | exact alloc_below _ _ | refine Below.setCell ?_ (by simp) _ | refine Below.alloc ?_ (by simp) _)⟩
set_option maxHeartbeats 4000000 in
theorem cut_ff (num lsn : Int) (cs : List Ctr) (gs : List Grp) (ta : Option Addr) (tc : Nat) (tb : Option Addr) (td : Nat) (w : World) (_hc : cs.length ≤ tc) (_hg : gs.length ≤ td) (h1 : decide (200 < (cs.length : Int)) = false) (h2 : decide (200 < (gs.length : Int)) = false) : Calls Try.prog 11 #[.agg #[.int .i64 num, .int .i64 lsn, .slice ta cs.length tc, .slice tb gs.length td]] w fun e w' => e = .returned (.agg #[.int .i64 num, .int .i64 lsn, .slice ta cs.length tc, .slice tb gs.length td]) ∧ Below w.heap.size w w' := by
  skip
  skip
  go_enter Try.func11, Try.ntmps11
  go_wp2_with fail
  exact bodyPost_ret (v := .agg #[.int .i64 num, .int .i64 lsn, .slice ta cs.length tc, .slice tb gs.length td]) (by simp [results, Try.results11, go_sem]) rfl ⟨rfl, (by repeat first | exact bnext (alloc_below _ _) (alloc_below _ _) (Nat.le_refl _) | exact alloc_below _ _ | refine Below.setCell ?_ (by simp) _ | refine Below.alloc ?_ (by simp) _)⟩
theorem cut_any (p : Pg) (t : At) (w : World) (h : PIn w p t) : Calls Try.prog 11 #[pgV p t] w fun e w' => e = .returned (pgV (cutP p) t) ∧ Below w.heap.size w w' := by
  obtain ⟨num, lsn, cs, gs⟩ := p
  obtain ⟨ta, tc, tb, td⟩ := t
  have hc := h.cc
  have hg := h.cg
  simp only [pgV, pgA, cutP] at *
  by_cases h1 : 200 < cs.length
  · rw [show (cs.take 200).length = 200 by simp; omega]
    by_cases h2 : 200 < gs.length
    · rw [show (gs.take 200).length = 200 by simp; omega]
      exact cut_tt num lsn cs gs ta tc tb td w hc hg (decide_eq_true (by omega)) (decide_eq_true (by omega))
    · rw [show (gs.take 200).length = gs.length by simp; omega]
      exact cut_tf num lsn cs gs ta tc tb td w hc hg (decide_eq_true (by omega)) (decide_eq_false (by omega))
  · rw [show (cs.take 200).length = cs.length by simp; omega]
    by_cases h2 : 200 < gs.length
    · rw [show (gs.take 200).length = 200 by simp; omega]
      exact cut_ft num lsn cs gs ta tc tb td w hc hg (decide_eq_false (by omega)) (decide_eq_true (by omega))
    · rw [show (gs.take 200).length = gs.length by simp; omega]
      exact cut_ff num lsn cs gs ta tc tb td w hc hg (decide_eq_false (by omega)) (decide_eq_false (by omega))
/-- A page whose lists are the law's own, a mark behind each. -/
structure Lent (w : World) (B : Nat) (p : Pg) (t : At) (g1 g2 : Nat) : Prop where
  ta : t.a = some ⟨g1, 0, none⟩
  tb : t.b = some ⟨g2, 0, none⟩
  r1 : GRow w B 32 5 (.slice t.a (p.cs.length + 1) t.c) (p.cs.length + 1) (rowsC ctrC p.cs ++ ctrC ⟨23130, 0, 0, 0, 0⟩)
  r2 : GRow w B 69 2 (.slice t.b (p.gs.length + 1) t.d) (p.gs.length + 1) (rowsC grpC p.gs ++ grpC ⟨23130, 0⟩)
  ne : g1 ≠ g2
theorem Lies.front {w : World} {a : Option Addr} {cs ds : List Value} (h : Lies w a (cs ++ ds)) : Lies w a cs := by
  have := Lies.take h cs.length
  rwa [List.take_left] at this
theorem Lent.in_ {w : World} {B : Nat} {p : Pg} {t : At} {g1 g2 : Nat} (h : Lent w B p t g1 g2) : PIn w p t := by
  obtain ⟨a, c, e1, l1, m1, _⟩ := GRow.lies h.r1
  obtain ⟨b, d, e2, l2, m2, _⟩ := GRow.lies h.r2
  simp only [Value.slice.injEq] at e1 e2
  obtain ⟨rfl, -, rfl⟩ := e1
  obtain ⟨rfl, -, rfl⟩ := e2
  exact ⟨Lies.front l1, Lies.front l2, fun e => (by rw [h.ta] at e; cases e), fun e => (by rw [h.tb] at e; cases e), by omega, by omega⟩
set_option maxHeartbeats 8000000 in
theorem lent_any (p : Pg) (t : At) (w : World) (h : PIn w p t) (hl1 : p.cs.length ≤ 1000) (hl2 : p.gs.length ≤ 1000) :
    Calls Try.prog 10 #[pgV p t] w fun e w' => ∃ u g1 g2, e = .returned (pgV p u) ∧ Lent w' w.heap.size p u g1 g2 ∧ Below w.heap.size w w' := by
  obtain ⟨num, lsn, cs, gs⟩ := p
  obtain ⟨ta, tc, tb, td⟩ := t
  obtain ⟨hcs, hgs, hna, hnb, -, -⟩ := h
  simp only [pgV, pgA] at *
  have HCS := hide hcs
  have HGS := hide hgs
  have HNA := hide hna
  have HNB := hide hnb
  clear hcs hgs hna hnb
  go_enter Try.func10, Try.ntmps10
  go_upto_region 1 with fail
  refine named (P := Code.wp _ _ _ _) ?_
  intro w2 hw2
  obtain ⟨N, hN⟩ : ∃ N, N = w.heap.size := ⟨_, rfl⟩
  have b2 : Below w.heap.size w w2 := by rw [hw2]; exact bnext (alloc_below _ _) (alloc_below _ _) (Nat.le_refl _)
  have z2 : w2.heap.size = N + 2 := by rw [hw2, hN]; simp
  have c2 : Cells w2 N [.int .i64 num, .int .i64 lsn, .slice ta cs.length tc, .slice tb gs.length td] := by rw [hw2, hN]; exact (Cells.new w #[.int .i64 num, .int .i64 lsn, .slice ta cs.length tc, .slice tb gs.length td] 25).below (alloc_below _ _)
  have d2 : Cells w2 (N + 1) [.int .i64 0, .int .i64 0, .slice none 0 0, .slice none 0 0] := by
    rw [hw2, hN]
    have q := Cells.new (w.alloc (.cells #[.int .i64 num, .int .i64 lsn, .slice ta cs.length tc, .slice tb gs.length td] 25)) #[.int .i64 0, .int .i64 0, .slice none 0 0, .slice none 0 0] 40
    rw [World.size_alloc] at q
    exact q
  have Z2 := hide z2
  have B2 := hide b2
  have C2 := hide c2
  have D2 := hide d2
  have HN := hide hN
  rw [← hN]
  obtain ⟨g2, x2⟩ := c2.get 2 _ rfl
  clear hw2 z2 b2 c2 d2 hN
  go_upto_region 2 with (at_builtin; first
    | (refine wpList_appR Try.underlying22 info32 rfl (by decide) (by decide) rfl (.const (.slice none 0 0)) (.tmp _) rfl (N + 2) (.slice none 0 0) 0 [] rfl (World.ownsRow_nil _ _ _ _) ta cs.length tc (rowsC ctrC cs) rfl (rowsC_len ctrC 5 (fun _ => rfl) cs) (HCS.out.below B2.out) (ctr_one cs) HNA.out (by omega) (by have := Z2.out; omega) ?_; intro v3 w3 q1 q2 q3; obtain ⟨a1, c1, e1, -⟩ := GRow.lies q1; subst e1; rw [Nat.zero_add, List.nil_append] at q1; have b3 : Below w2.heap.size w2 w3 := (Below.refl _ _).grown q2 (Nat.le_refl _) (by nofun); clear g2 x2)
    | (refine wpList_appR Try.underlying22 info32 rfl (by decide) (by decide) rfl (.tmp _) (.tmp _) rfl (N + 2) (.slice a1 cs.length c1) cs.length (rowsC ctrC cs) (by simp [go_sem]) (GRow.below q1 (alloc_below _ _)) (some ⟨w3.heap.size, 0, none⟩) 1 1 (ctrC ⟨23130, 0, 0, 0, 0⟩) rfl rfl (lies_new w3 _ 32) (ctrC_one _) nofun (by omega) (by have := Z2.out; have := b3.size; simp; omega) ?_; intro v4 w4 r1 r2 r3))
  obtain ⟨h1, c4, e4⟩ := grow_form r1 (Nat.succ_pos _)
  subst e4
  have hb4 : Below (N + 2) w2 w4 := by
    have u := Z2.out
    have u3 := b3.size
    have b3' : Below (N + 2) w2 (w3.alloc (.cells (ctrC ⟨23130, 0, 0, 0, 0⟩).toArray 32)) := (b3.mono (by omega)).trans ((alloc_below w3 _).mono (by omega))
    exact b3'.grown r2 (by simp; omega) (fun k hk => (World.ownsRow.lt q1 k hk).1)
  have u2 := Z2.out
  have BW4 := hide (B2.out.trans (hb4.mono (by have := HN.out; omega)))
  have C4 := hide (C2.out.under (by omega) hb4)
  have D4 := hide (D2.out.under (by omega) hb4)
  have Z4 := hide (show N + 2 ≤ w4.heap.size by have := hb4.size; omega)
  have LC := hide (show cs.length ≤ c4 by obtain ⟨_, _, e, _, m, _⟩ := GRow.lies r1; cases e; omega)
  have R4 := hide r1
  obtain ⟨g2, x2⟩ := C4.out.get 3 _ rfl
  clear hb4 u2 q1 q2 q3 b3 r1 r2 r3 C2 D2 Z2 B2
  go_upto_region 3 with (at_builtin; first
    | (refine wpList_appR Try.underlying23 info69 rfl (by decide) (by decide) rfl (.const (.slice none 0 0)) (.tmp _) rfl w4.heap.size (.slice none 0 0) 0 [] rfl (World.ownsRow_nil _ _ _ _) tb gs.length td (rowsC grpC gs) rfl (rowsC_len grpC 2 (fun _ => rfl) gs) (HGS.out.below BW4.out) (grp_one gs) HNB.out (by omega) (Nat.le_refl _) ?_; intro v5 w5 q1 q2 q3; obtain ⟨a2, c2, e1, -⟩ := GRow.lies q1; subst e1; rw [Nat.zero_add, List.nil_append] at q1; have b5 : Below w4.heap.size w4 w5 := (Below.refl _ _).grown q2 (Nat.le_refl _) (by nofun); clear g2 x2)
    | (refine wpList_appR Try.underlying23 info69 rfl (by decide) (by decide) rfl (.tmp _) (.tmp _) rfl w4.heap.size (.slice a2 gs.length c2) gs.length (rowsC grpC gs) (by simp [go_sem]) (GRow.below q1 (alloc_below _ _)) (some ⟨w5.heap.size, 0, none⟩) 1 1 (grpC ⟨23130, 0⟩) rfl rfl (lies_new w5 _ 69) (grpC_one _) nofun (by omega) (by have := b5.size; simp; omega) ?_; intro v6 w6 r1 r2 r3))
  obtain ⟨h2, c6, e6⟩ := grow_form r1 (Nat.succ_pos _)
  subst e6
  have hb6 : Below w4.heap.size w4 w6 := by
    have u3 := b5.size
    have b5' : Below w4.heap.size w4 (w5.alloc (.cells (grpC ⟨23130, 0⟩).toArray 69)) := b5.trans ((alloc_below w5 _).mono u3)
    exact b5'.grown r2 (by simp; omega) (fun k hk => (World.ownsRow.lt q1 k hk).1)
  have BW6 := hide (BW4.out.trans (hb6.mono BW4.out.size))
  have C6 := hide (C4.out.below hb6)
  have D6 := hide (D4.out.below hb6)
  have LG := hide (show gs.length ≤ c6 by obtain ⟨_, _, e, _, m, _⟩ := GRow.lies r1; cases e; omega)
  have S6 := hide (GRow.below R4.out hb6)
  have NE := hide (show h1 ≠ h2 by have u1 := (World.ownsRow.lt R4.out h1 rfl).2; have u2 := (World.ownsRow.lt r1 h2 rfl).1; omega)
  have R6 := hide (GRow.mono r1 Z4.out)
  clear hb6 q1 q2 q3 b5 r1 r2 r3 C4 D4 BW4 R4 HCS HGS HNA HNB
  have lc := LC.out
  have lg := LG.out
  refine wp_region_held_drew (S := fun wq => Cells wq N [.int .i64 num, .int .i64 lsn, .slice ta cs.length tc, .slice tb gs.length td]) (by kernel_rfl) (C6.out.below (Below.refl _ _).drew) (fun hS => ?_)
  have D0 := hide ((Below.refl w6.heap.size w6).drew)
  have E6 := hide (D6.out.below D0.out)
  have B7 := hide (BW6.out.trans (D0.out.mono BW6.out.size))
  have S7 := hide (GRow.below S6.out D0.out)
  have R7 := hide (GRow.below R6.out D0.out)
  clear D0 D6 BW6 S6 R6 C6
  generalize w6.drew = x0 at *
  refine take_at 0 (some 17) (v := ?_) rfl rfl (by kernel_rfl) (by kernel_rfl) (by kernel_rfl) (fun _ _ _ h => h) ⟨by rfl, ?_⟩ hS ?_
  rotate_left
  · intro wq hSw; go_simp; try rfl
  simp only [Act.put, List.setIfInBounds_toArray, List.set_cons_zero, List.set_cons_succ]
  refine take_at 1 (some 18) (v := ?_) rfl rfl (by kernel_rfl) (by kernel_rfl) (by kernel_rfl) (fun _ _ _ h => h) ⟨by rfl, ?_⟩ hS ?_
  rotate_left
  · intro wq hSw; obtain ⟨q0, _⟩ := hSw.get 0 _ rfl; go_simp; try rfl
  simp only [Act.put, List.setIfInBounds_toArray, List.set_cons_zero, List.set_cons_succ]
  refine take_at 2 (some 19) (v := ?_) rfl rfl (by kernel_rfl) (by kernel_rfl) (by kernel_rfl) (fun _ _ _ h => h) ⟨by rfl, ?_⟩ hS ?_
  rotate_left
  · intro wq hSw; go_simp; try rfl
  simp only [Act.put, List.setIfInBounds_toArray, List.set_cons_zero, List.set_cons_succ]
  refine take_at 3 (some 20) (v := ?_) rfl rfl (by kernel_rfl) (by kernel_rfl) (by kernel_rfl) (fun _ _ _ h => h) ⟨by rfl, ?_⟩ hS ?_
  rotate_left
  · intro wq hSw; obtain ⟨q1, _⟩ := hSw.get 1 _ rfl; go_simp; try rfl
  simp only [Act.put, List.setIfInBounds_toArray, List.set_cons_zero, List.set_cons_succ]
  refine take_at 4 (some 21) (v := ?_) rfl rfl (by kernel_rfl) (by kernel_rfl) (by kernel_rfl) (fun _ _ _ h => h) ⟨by rfl, ?_⟩ hS ?_
  rotate_left
  · intro wq hSw; go_simp; try rfl
  simp only [Act.put, List.setIfInBounds_toArray, List.set_cons_zero, List.set_cons_succ]
  refine take_at 5 (some 22) (v := ?_) rfl rfl (by kernel_rfl) (by kernel_rfl) (by kernel_rfl) (fun _ _ _ h => h) ⟨by rfl, ?_⟩ hS ?_
  rotate_left
  · intro wq hSw; go_simp; try rfl
  simp only [Act.put, List.setIfInBounds_toArray, List.set_cons_zero, List.set_cons_succ]
  refine take_at 6 (some 23) (v := ?_) rfl rfl (by kernel_rfl) (by kernel_rfl) (by kernel_rfl) (fun _ _ _ h => h) ⟨by rfl, ?_⟩ hS ?_
  rotate_left
  · intro wq hSw; obtain ⟨q2, _⟩ := hSw.get 2 _ rfl; go_simp; try rfl
  simp only [Act.put, List.setIfInBounds_toArray, List.set_cons_zero, List.set_cons_succ]
  refine take_at 7 (some 24) (v := ?_) rfl rfl (by kernel_rfl) (by kernel_rfl) (by kernel_rfl) (fun _ _ _ h => h) ⟨by rfl, ?_⟩ hS ?_
  rotate_left
  · intro wq hSw; go_simp; try rfl
  simp only [Act.put, List.setIfInBounds_toArray, List.set_cons_zero, List.set_cons_succ]
  refine take_at 8 (some 25) (v := ?_) rfl rfl (by kernel_rfl) (by kernel_rfl) (by kernel_rfl) (fun _ _ _ h => h) ⟨by rfl, ?_⟩ hS ?_
  rotate_left
  · intro wq hSw; go_simp; try rfl
  simp only [Act.put, List.setIfInBounds_toArray, List.set_cons_zero, List.set_cons_succ]
  refine take_at 9 (some 26) (v := ?_) rfl rfl (by kernel_rfl) (by kernel_rfl) (by kernel_rfl) (fun _ _ _ h => h) ⟨by rfl, ?_⟩ hS ?_
  rotate_left
  · intro wq hSw; go_simp; try rfl
  simp only [Act.put, List.setIfInBounds_toArray, List.set_cons_zero, List.set_cons_succ]
  refine take_at 10 (some 27) (v := ?_) rfl rfl (by kernel_rfl) (by kernel_rfl) (by kernel_rfl) (fun _ _ _ h => h) ⟨by rfl, ?_⟩ hS ?_
  rotate_left
  · intro wq hSw; go_simp; try rfl
  simp only [Act.put, List.setIfInBounds_toArray, List.set_cons_zero, List.set_cons_succ]
  refine take_at 11 (some 28) (v := ?_) rfl rfl (by kernel_rfl) (by kernel_rfl) (by kernel_rfl) (fun _ _ _ h => h) ⟨by rfl, ?_⟩ hS ?_
  rotate_left
  · intro wq hSw; obtain ⟨q3, _⟩ := hSw.get 3 _ rfl; go_simp; try rfl
  simp only [Act.put, List.setIfInBounds_toArray, List.set_cons_zero, List.set_cons_succ]
  refine take_at 12 (some 29) (v := ?_) rfl rfl (by kernel_rfl) (by kernel_rfl) (by kernel_rfl) (fun _ _ _ h => h) ⟨by rfl, ?_⟩ hS ?_
  rotate_left
  · intro wq hSw; go_simp; try rfl
  simp only [Act.put, List.setIfInBounds_toArray, List.set_cons_zero, List.set_cons_succ]
  refine take_at 13 (some 30) (v := ?_) rfl rfl (by kernel_rfl) (by kernel_rfl) (by kernel_rfl) (fun _ _ _ h => h) ⟨by rfl, ?_⟩ hS ?_
  rotate_left
  · intro wq hSw; go_simp; try rfl
  simp only [Act.put, List.setIfInBounds_toArray, List.set_cons_zero, List.set_cons_succ]
  refine take_at 14 (some 31) (v := ?_) rfl rfl (by kernel_rfl) (by kernel_rfl) (by kernel_rfl) (fun _ _ _ h => h) ⟨by rfl, ?_⟩ hS ?_
  rotate_left
  · intro wq hSw; go_simp; try rfl
  simp only [Act.put, List.setIfInBounds_toArray, List.set_cons_zero, List.set_cons_succ]
  have K8 := ((((Keep.refl (fun i => i = N + 1) x0).setCell (g := N + 1) (j := 0) (fun _ => rfl) (.int .i64 num)).setCell (g := N + 1) (j := 1) (fun _ => rfl) (.int .i64 lsn)).setCell (g := N + 1) (j := 2) (fun _ => rfl) (.slice (some ⟨h1, 0, none⟩) cs.length c4)).setCell (g := N + 1) (j := 3) (fun _ => rfl) (.slice (some ⟨h2, 0, none⟩) gs.length c6)
  have C8 := (((E6.out.stored (j := 0) (by simp) (.int .i64 num)).stored (j := 1) (by simp) (.int .i64 lsn)).stored (j := 2) (by simp) (.slice (some ⟨h1, 0, none⟩) cs.length c4)).stored (j := 3) (by simp) (.slice (some ⟨h2, 0, none⟩) gs.length c6)
  obtain ⟨k0, _⟩ := C8.get 0 _ rfl
  obtain ⟨k1, _⟩ := C8.get 1 _ rfl
  obtain ⟨k2, _⟩ := C8.get 2 _ rfl
  obtain ⟨k3, _⟩ := C8.get 3 _ rfl
  obtain ⟨y0, u0⟩ := E6.out.get 0 _ rfl
  obtain ⟨y1, u1⟩ := E6.out.get 1 _ rfl
  obtain ⟨y2, u2⟩ := E6.out.get 2 _ rfl
  obtain ⟨y3, u3⟩ := E6.out.get 3 _ rfl
  have HK8 := hide K8
  clear K8 C8
  have S9 := hide (hS.keep HK8.out (by omega))
  clear hS
  refine wpAnyH_ready (rs := [15]) (by kernel_rfl) (by simp) ?_
  refine AllReadyH.cons rfl (fun K hK => ?_) AllReadyH.nil
  go_simp
  go_wp2_with fail
  refine hK.out _ _ S9.out (fun hS => ?_)
  clear hK K hS
  (try simp only [Act.put])
  refine wpAnyH_done (by kernel_rfl) ?_ _
  go_wp2_with fail
  refine bodyPost_ret (v := .agg #[.int .i64 num, .int .i64 lsn, .slice (some ⟨h1, 0, none⟩) cs.length c4, .slice (some ⟨h2, 0, none⟩) gs.length c6]) (by simp only [results, Try.results10]; simp [go_sem, k0, k1, k2, k3]) rfl ?_
  have hn := HN.out
  have bf := B7.out.trans (HK8.out.below B7.out.size (fun i hi q => by omega))
  have j1 := GRow.keep S7.out HK8.out (fun g hg q => by have := (World.ownsRow.lt S7.out g hg).1; omega)
  have j2 := GRow.keep R7.out HK8.out (fun g hg q => by have := (World.ownsRow.lt R7.out g hg).1; omega)
  clear HN
  subst hn
  exact ⟨⟨some ⟨h1, 0, none⟩, c4, some ⟨h2, 0, none⟩, c6⟩, h1, h2, rfl, ⟨rfl, rfl, GRow.mono j1 (by omega), GRow.mono j2 (by omega), NE.out⟩, bf⟩
end Go.Proofs.Ytoocbpbaieedmaa
