import Derived.Test.YtaohdmaenplbpaaGreatLdQ
set_option linter.all false
namespace Go.Proofs.YtaohdmaenplbpaaGreat
open Go.RowKit Go.QK Quota Go.Maps Go.QM
set_option maxRecDepth 100000

theorem plUnder {lab : Nat → Nat} {B T : Nat} {w w' : World} {l : Led} (h : PL lab B w l) (k : Below T w w') (hn : l.lb < T ∧ l.mc < T ∧ l.mg < T ∧ l.mh < T ∧ (∀ p ∈ l.K, p.2.b < T ∧ p.2.m < T) ∧ (∀ p ∈ l.D, ∀ g, p.2.1.ownBlock = some g → g < T)) : PL lab B w' l := by
  obtain ⟨n1, n2, n3, n4, n5, n6⟩ := hn
  have kk : Keep (fun z => T ≤ z) w w' := ⟨k.os, k.tape, k.output, k.size, fun z hz q => k.block z (by omega)⟩
  exact ⟨h.box.keep kk (by omega), anyAt_keep h.cm kk (by omega), anyAt_keep h.gm kk (by omega), anyAt_keep h.hm kk (by omega), fun p hp => (h.esc p hp).keep kk (by have := (n5 p hp).1; omega) (by have := (n5 p hp).2; omega), fun p hp => ⟨(h.own p hp).1.keep kk (fun g hg => by have := n6 p hp g hg; omega), (h.own p hp).2⟩, h.ok, h.hok, h.gup, h.grp, h.l1, h.l2, h.l3, h.l4, h.l5, h.l6, h.low⟩
theorem lt_more {l : Led} {n T : Nat} (h : l.lb < n ∧ l.mc < n ∧ l.mg < n ∧ l.mh < n ∧ (∀ p ∈ l.K, p.2.b < n ∧ p.2.m < n) ∧ (∀ p ∈ l.D, ∀ g, p.2.1.ownBlock = some g → g < n)) (q : n ≤ T) : l.lb < T ∧ l.mc < T ∧ l.mg < T ∧ l.mh < T ∧ (∀ p ∈ l.K, p.2.b < T ∧ p.2.m < T) ∧ (∀ p ∈ l.D, ∀ g, p.2.1.ownBlock = some g → g < T) :=
  ⟨by omega, by omega, by omega, by omega, fun p hp => by have := h.2.2.2.2.1 p hp; omega, fun p hp g hg => by have := h.2.2.2.2.2 p hp g hg; omega⟩
theorem newL_chL (l : Led) (id grp lo hi v : Int) : newL l.ctrs id grp lo hi v = if chL l.K id grp lo hi v = 0 then (if fitB (lowG l.ctrs grp + v) && fitB (highG l.ctrs grp + v) then 0 else 10) else chL l.K id grp lo hi v := by
  unfold newL chL
  rw [hasM_get, getC]
  by_cases h1 : id < 1 ∨ 1048576 < id ∨ grp < 1 ∨ 1048576 < grp
  · simp [h1]
  · rw [if_neg h1, if_neg h1]
    cases getM l.K id with
    | none => simp
    | some x => simp
/-- What check answers. -/
theorem check_err (lb mc : Nat) (KK : Prs Lm) (id grp lo hi v : Int) (w : World) (hlt : lb < w.heap.size) (k1 : w.cell? ⟨lb, 0, none⟩ = some (.map (some mc))) (hm : AnyAt Tryz.prog 3 w mc (KK.map (fun p => (p.1, entV p.2)))) (hE : chL KK id grp lo hi v ≠ 0) :
    Calls Tryz.prog 59 #[ptr lb, cV id grp lo hi v] w fun r w' => r = .returned (.tuple #[.agg #[.int .i64 0, .pointer none], .int .i64 (chL KK id grp lo hi v)]) ∧ Below w.heap.size w w' := by
  unfold chL at hE ⊢
  by_cases h1 : id < 1 ∨ 1048576 < id ∨ grp < 1 ∨ 1048576 < grp
  · rw [if_pos h1]; exact check_place lb id grp lo hi v w h1
  · rw [if_neg h1] at hE ⊢
    cases hk : (getM KK id).isSome
    · rw [hk] at hE
      simp only [Bool.false_eq_true, if_false] at hE ⊢
      exact check_no lb mc KK id grp lo hi v w h1 hlt k1 hm (by simpa using hk) hE
    · simp only [if_true]
      exact check_twice lb mc KK id grp lo hi v w h1 hlt k1 hm hk
theorem chL_yes {KK : Prs Lm} {id grp lo hi v : Int} (h : chL KK id grp lo hi v = 0) : ¬ (id < 1 ∨ 1048576 < id ∨ grp < 1 ∨ 1048576 < grp) ∧ getM KK id = none ∧ newE lo hi v = 0 := by
  unfold chL at h
  split at h
  · cases h
  · rename_i q
    split at h
    · cases h
    · rename_i q2
      exact ⟨q, by simpa using q2, h⟩
set_option maxHeartbeats 4000000 in
theorem create_bad (lab : Nat → Nat) (B : Nat) (l : Led) (id grp lo hi v : Int) (w : World) (h : PL lab B w l) (hE : chL l.K id grp lo hi v ≠ 0) :
    Calls Tryz.prog 22 #[ptr l.lb, cV id grp lo hi v] w fun r w' => r = .returned (.int .i64 (chL l.K id grp lo hi v)) ∧ Below w.heap.size w w' := by
  have KC := fun w' (h : PL lab B w' l) => check_err l.lb l.mc l.K id grp lo hi v w' h.box.1 (h.box.get 0 _ rfl).1 h.cm hE
  have HP := hide h
  have hE2 : (chL l.K id grp lo hi v != 0) = true := by simpa using hE
  generalize chL l.K id grp lo hi v = EE at *
  clear h hE
  go_enter Tryz.func22, Tryz.ntmps22
  go_wp2_with fail
  refine (KC _ (HP.out.below (alloc_below _ _))).mono ?_
  rintro r x1 ⟨rfl, h1⟩
  have B1 := hide (below1 h1)
  clear h1 KC HP
  go_wp2_with fail
  go_ret
  exact ⟨rfl, B1.out.alloc B1.out.size _⟩
set_option maxHeartbeats 4000000 in
theorem create_full (lab : Nat → Nat) (B : Nat) (l : Led) (id grp lo hi v : Int) (w : World) (h : PL lab B w l) (i1 : I64 lo) (i2 : I64 hi) (i3 : I64 v) (hE : chL l.K id grp lo hi v = 0) (hF : (fitB (lowG l.ctrs grp + v) && fitB (highG l.ctrs grp + v)) = false) :
    Calls Tryz.prog 22 #[ptr l.lb, cV id grp lo hi v] w fun r w' => r = .returned (.int .i64 10) ∧ Below w.heap.size w w' := by
  obtain ⟨g1, g2, g3⟩ := chL_yes hE
  have hid : I64 id := by unfold I64; omega
  have hgI : I64 grp := by unfold I64; omega
  have KC := fun w' (h : PL lab B w' l) => check_yes l.lb l.mc l.K id grp lo hi v w' g1 h.box.1 (h.box.get 0 _ rfl).1 h.cm g2 g3 i1 i2
  have HP := hide h
  have HAT := hide (h.totD grp)
  have hlt0 := h.lt
  have NN := fun (T : Nat) (q : w.heap.size ≤ T) => lt_more hlt0 q
  have dd : l.lb ≠ l.mc ∧ l.lb ≠ l.mg ∧ l.mc ≠ l.mg := ⟨fun q => by have := h.l1; rw [q, h.l2] at this; omega, fun q => by have := h.l1; rw [q, h.l3] at this; omega, fun q => by have := h.l2; rw [q, h.l3] at this; omega⟩
  obtain ⟨dd1, dd2, dd3⟩ := dd
  have lt1 := hlt0.1
  have lt2 := hlt0.2.1
  have lt3 := hlt0.2.2.1
  have KG := fun w' => grown_any (sumG l.ctrs grp) (lowG l.ctrs grp) (highG l.ctrs grp) v w' (h.ok.lo grp) (h.ok.hi grp) i3 (sumG_in l.ctrs grp).1 (sumG_in l.ctrs grp).2
  generalize sumG l.ctrs grp = s0 at *
  generalize lowG l.ctrs grp = s1 at *
  generalize highG l.ctrs grp = s2 at *
  clear h hE g1 g2 g3 hlt0
  have eg : grV s0 s1 s2 v = tot 0 0 0 := by unfold grV shE; rw [hF]; rfl
  have ee : shE s1 s2 v v = 10 := by unfold shE; rw [hF]; rfl
  rw [eg, ee] at KG
  clear eg ee hF
  go_enter Tryz.func22, Tryz.ntmps22
  go_wp2_with fail
  refine (KC _ (HP.out.below (alloc_below _ _))).mono ?_
  rintro r x1 ⟨b, m, rfl, h1, hpe, hb1, hm1⟩
  have B1 := hide (below1 h1)
  have C1 := hide (show Cells x1 w.heap.size [.int .i64 id, .int .i64 grp, .int .i64 lo, .int .i64 hi, .int .i64 v] from (Cells.new w #[.int .i64 id, .int .i64 grp, .int .i64 lo, .int .i64 hi, .int .i64 v] 43).below h1)
  have P1 := hide ((HP.out.below (alloc_below w (.cells #[.int .i64 id, .int .i64 grp, .int .i64 lo, .int .i64 hi, .int .i64 v] 43))).below h1)
  have Q1 := hide hpe
  have hb0 : w.heap.size ≤ b := by simp at hb1; omega
  have hm0 : w.heap.size ≤ m := by simp at hm1; omega
  have c3 : w.heap.size < x1.heap.size := C1.out.1
  have ltb := Q1.out.lt
  clear h1 hpe hb1 hm1 KC HP
  go_upto_region 4 with fail
  refine named (P := Code.wp _ _ _ _) ?_
  intro x2 hx2
  have b2 : Below x1.heap.size x1 x2 := by rw [hx2]; exact alloc_below _ _
  have E2 : Cells x2 x1.heap.size [.int .i64 grp, ptr b] := by rw [hx2]; exact Cells.new x1 #[.int .i64 grp, ptr b] 110
  have P2 := P1.out.below b2
  have C2 := C1.out.below b2
  have Q2 := Q1.out.below b2
  have B2 := B1.out.trans (b2.mono B1.out.size)
  have hs2 : x2.heap.size = x1.heap.size + 1 := by rw [hx2]; simp
  generalize x1.heap.size = eb at *
  clear B1 C1 P1 Q1 b2 hx2
  refine wp_region_held_drew (S := fun wq => Cells wq l.lb [.map (some l.mc), .map (some l.mg), .map (some l.mh)] ∧ Cells wq w.heap.size [.int .i64 id, .int .i64 grp, .int .i64 lo, .int .i64 hi, .int .i64 v] ∧ AnyAt Tryz.prog 3 wq l.mg (l.G.map (fun (p : Int × Int × Int × Int) => (p.1, totV p.2)))) (by kernel_rfl) ⟨P2.box, C2, P2.gm⟩ (fun hS => ?_)
  have P3 := hide (P2.below (Below.refl _ _).drew)
  have C3 := hide (C2.below (Below.refl _ _).drew)
  have E3 := hide (E2.below (Below.refl _ _).drew)
  have Q3 := hide (Q2.below (Below.refl _ _).drew)
  have B3 := hide B2.drew
  have hs3 : x2.drew.heap.size = eb + 1 := hs2
  clear P2 C2 E2 Q2 B2 hs2
  generalize x2.drew = x3 at *
  clear x2
  refine take_at 0 (some 18) (v := ?_) rfl rfl (by kernel_rfl) (by kernel_rfl) (by kernel_rfl) (fun _ _ _ h => h) ⟨by rfl, ?_⟩ hS ?_
  rotate_left
  · intro wq hSw; go_simp; try rfl
  simp only [Act.put, List.setIfInBounds_toArray, List.set_cons_zero, List.set_cons_succ]
  refine take_at 1 (some 19) (v := ?_) rfl rfl (by kernel_rfl) (by kernel_rfl) (by kernel_rfl) (fun _ _ _ h => h) ⟨by rfl, ?_⟩ hS ?_
  rotate_left
  · intro wq hSw; go_simp; try rfl
  simp only [Act.put, List.setIfInBounds_toArray, List.set_cons_zero, List.set_cons_succ]
  refine take_at 2 (some 20) (v := ?_) rfl rfl (by kernel_rfl) (by kernel_rfl) (by kernel_rfl) (fun _ _ _ h => h) ⟨by rfl, ?_⟩ hS ?_
  rotate_left
  · intro wq hSw; go_simp; try rfl
  simp only [Act.put, List.setIfInBounds_toArray, List.set_cons_zero, List.set_cons_succ]
  refine take_at 3 (some 21) (v := ?_) rfl rfl (by kernel_rfl) (by kernel_rfl) (by kernel_rfl) (fun _ _ _ h => h) ⟨by rfl, ?_⟩ hS ?_
  rotate_left
  · intro wq hSw; obtain ⟨r0, r1, r2⟩ := hSw; have q := (r0.get 1 _ rfl).1; go_simp; try rfl
  simp only [Act.put, List.setIfInBounds_toArray, List.set_cons_zero, List.set_cons_succ]
  refine take_at 4 (some 22) (v := ?_) rfl rfl (by kernel_rfl) (by kernel_rfl) (by kernel_rfl) (fun _ _ _ h => h) ⟨by rfl, ?_⟩ hS ?_
  rotate_left
  · intro wq hSw; go_simp; try rfl
  simp only [Act.put, List.setIfInBounds_toArray, List.set_cons_zero, List.set_cons_succ]
  refine take_at 5 (some 23) (v := ?_) rfl rfl (by kernel_rfl) (by kernel_rfl) (by kernel_rfl) (fun _ _ _ h => h) ⟨by rfl, ?_⟩ hS ?_
  rotate_left
  · intro wq hSw; obtain ⟨r0, r1, r2⟩ := hSw; have q := (r1.get 1 _ rfl).1; go_simp; try rfl
  simp only [Act.put, List.setIfInBounds_toArray, List.set_cons_zero, List.set_cons_succ]
  refine take_at 6 (some 24) (v := ?_) rfl rfl (by kernel_rfl) (by kernel_rfl) (by kernel_rfl) (fun _ _ _ h => h) ⟨by rfl, ?_⟩ hS ?_
  rotate_left
  · intro wq hSw; obtain ⟨r0, r1, r2⟩ := hSw; have hr := any_run lawK Tryz.underlying105 zeroT r2 (keyI hgI); rw [HAT.out] at hr; go_simp; try rfl
  simp only [Act.put, List.setIfInBounds_toArray, List.set_cons_zero, List.set_cons_succ]
  refine take_at 7 (some 25) (v := ?_) rfl rfl (by kernel_rfl) (by kernel_rfl) (by kernel_rfl) (fun _ _ _ h => h) ⟨by rfl, ?_⟩ hS ?_
  rotate_left
  · intro wq hSw; go_simp; try rfl
  simp only [Act.put, List.setIfInBounds_toArray, List.set_cons_zero, List.set_cons_succ]
  refine take_at 8 (some 26) (v := ?_) rfl rfl (by kernel_rfl) (by kernel_rfl) (by kernel_rfl) (fun _ _ _ h => h) ⟨by rfl, ?_⟩ hS ?_
  rotate_left
  · intro wq hSw; obtain ⟨r0, r1, r2⟩ := hSw; have q := (r1.get 4 _ rfl).1; go_simp; try rfl
  simp only [Act.put, List.setIfInBounds_toArray, List.set_cons_zero, List.set_cons_succ]
  refine wpAnyH_ready (rs := [9, 13]) (by kernel_rfl) (by simp) ?_
  refine AllReadyH.cons rfl (fun K hK => ?_) (AllReadyH.cons rfl (fun K hK => ?_) AllReadyH.nil)
  · go_simp
    go_wp2_with fail
    refine (KG _).mono ?_
    rintro r x7 ⟨rfl, hh⟩
    have P7 := hide (P3.out.below hh)
    have C7 := hide (C3.out.below hh)
    have E7 := hide (E3.out.below hh)
    have Q7 := hide (Q3.out.below hh)
    have B7 := hide (B3.out.trans (hh.mono B3.out.size))
    have hz7 : eb + 1 ≤ x7.heap.size := by have := hh.size; omega
    clear hh P3 C3 E3 Q3 B3 KG hS
    go_wp2_with fail
    refine hK.out _ _ ⟨P7.out.box, C7.out, P7.out.gm⟩ (fun hS => ?_)
    clear hK K
    (try simp only [Act.put, List.setIfInBounds_toArray, List.set_cons_zero, List.set_cons_succ])
    refine take_at 10 (some 17) (v := ?_) rfl rfl (by kernel_rfl) (by kernel_rfl) (by kernel_rfl) (fun _ _ _ h => h) ⟨by rfl, ?_⟩ hS ?_
    rotate_left
    · intro wq hSw; go_simp; try rfl
    simp only [Act.put, List.setIfInBounds_toArray, List.set_cons_zero, List.set_cons_succ]
    refine take_at 11 (some 28) (v := ?_) rfl rfl (by kernel_rfl) (by kernel_rfl) (by kernel_rfl) (fun _ _ _ h => h) ⟨by rfl, ?_⟩ hS ?_
    rotate_left
    · intro wq hSw; go_simp; try rfl
    simp only [Act.put, List.setIfInBounds_toArray, List.set_cons_zero, List.set_cons_succ]
    refine take_at 12 (some 29) (v := ?_) rfl rfl (by kernel_rfl) (by kernel_rfl) (by kernel_rfl) (fun _ _ _ h => h) ⟨by rfl, ?_⟩ hS ?_
    rotate_left
    · intro wq hSw; go_simp; try rfl
    simp only [Act.put, List.setIfInBounds_toArray, List.set_cons_zero, List.set_cons_succ]
    have a8 := alloc_below x7 (.cells #[.int .i64 0, .int .i64 0, .int .i64 0] 125)
    have P8 := hide (P7.out.below a8)
    have C8 := hide (C7.out.below a8)
    have E8 := hide (E7.out.below a8)
    have Q8 := hide (Q7.out.below a8)
    have B8 := hide (B7.out.trans (a8.mono B7.out.size))
    have T8 := hide (Cells.new x7 #[.int .i64 0, .int .i64 0, .int .i64 0] 125)
    refine wpAnyH_ready (rs := [13]) (by kernel_rfl) (by simp) ?_
    refine AllReadyH.cons rfl (fun K hK => ?_) AllReadyH.nil
    go_simp
    go_wp2_with fail
    refine hK.out _ _ ⟨P8.out.box, C8.out, P8.out.gm⟩ (fun hS => ?_)
    clear hK K
    (try simp only [Act.put, List.setIfInBounds_toArray, List.set_cons_zero, List.set_cons_succ])
    clear a8 P7 C7 E7 Q7 B7
    generalize x7.alloc (.cells #[.int .i64 0, .int .i64 0, .int .i64 0] 125) = x8 at *
    generalize x7.heap.size = tb at *
    have hlt := NN tb (by omega)
    clear NN
    obtain ⟨t0, t0f⟩ := T8.out.get 0 _ rfl
    obtain ⟨t1, t1f⟩ := T8.out.get 1 _ rfl
    obtain ⟨t2, t2f⟩ := T8.out.get 2 _ rfl
    refine wpAnyH_ready (rs := [14]) (by kernel_rfl) (by simp) ?_
    refine AllReadyH.cons rfl (fun K hK => ?_) AllReadyH.nil
    go_simp
    go_wp2_with fail
    have K8 := (((Keep.refl (fun z => z = tb) x8).setCell (g := tb) (j := 0) (fun _ => rfl) (.int .i64 0)).setCell (g := tb) (j := 1) (fun _ => rfl) (.int .i64 0)).setCell (g := tb) (j := 2) (fun _ => rfl) (.int .i64 0)
    have Px : Below tb x8 (((x8.setCell ⟨tb, 0, none⟩ (.int .i64 0)).setCell ⟨tb, 1, none⟩ (.int .i64 0)).setCell ⟨tb, 2, none⟩ (.int .i64 0)) := K8.below (by have := T8.out.1; omega) (fun z hz q => by omega)
    have P9 := hide (plUnder P8.out Px hlt)
    have C9 := hide (C8.out.under (by omega) Px)
    have E9 := hide (E8.out.under (by omega) Px)
    have Q9 := hide (Q8.out.keep K8 (by omega) (by omega))
    have B9 := hide (B8.out.trans (Px.mono (by omega)))
    have T9 := hide (((T8.out.stored (j := 0) (by decide) (.int .i64 0)).stored (j := 1) (by simp) (.int .i64 0)).stored (j := 2) (by simp) (.int .i64 0))
    simp only [List.set_cons_zero, List.set_cons_succ] at T9
    refine hK.out _ _ ⟨P9.out.box, C9.out, P9.out.gm⟩ (fun hS => ?_)
    clear hK K
    (try simp only [Act.put, List.setIfInBounds_toArray, List.set_cons_zero, List.set_cons_succ])
    clear K8 Px P8 C8 E8 Q8 B8 T8 t0 t1 t2 t0f t1f t2f
    generalize ((x8.setCell ⟨tb, 0, none⟩ (.int .i64 0)).setCell ⟨tb, 1, none⟩ (.int .i64 0)).setCell ⟨tb, 2, none⟩ (.int .i64 0) = x9 at *
    refine take_at 15 (some 6) (v := ?_) rfl rfl (by kernel_rfl) (by kernel_rfl) (by kernel_rfl) (fun _ _ _ h => h) ⟨by rfl, ?_⟩ hS ?_
    rotate_left
    · intro wq hSw; go_simp; try rfl
    simp only [Act.put, List.setIfInBounds_toArray, List.set_cons_zero, List.set_cons_succ]
    refine wpAnyH_done (by kernel_rfl) ?_ _
    clear hS
    go_wp2_with fail
    go_ret
    exact ⟨rfl, B9.out⟩
  · have a7 := alloc_below x3 (.cells #[.int .i64 0, .int .i64 0, .int .i64 0] 125)
    have P7 := hide (P3.out.below a7)
    have C7 := hide (C3.out.below a7)
    have E7 := hide (E3.out.below a7)
    have Q7 := hide (Q3.out.below a7)
    have B7 := hide (B3.out.trans (a7.mono B3.out.size))
    have t7 := Cells.new x3 #[.int .i64 0, .int .i64 0, .int .i64 0] 125
    rw [hs3] at t7
    have T7 := hide t7
    clear t7
    go_simp
    go_wp2_with fail
    refine hK.out _ _ ⟨P7.out.box, C7.out, P7.out.gm⟩ (fun hS => ?_)
    clear hK K
    (try simp only [Act.put, List.setIfInBounds_toArray, List.set_cons_zero, List.set_cons_succ])
    clear a7 P3 C3 E3 Q3 B3
    generalize x3.alloc (.cells #[.int .i64 0, .int .i64 0, .int .i64 0] 125) = x7 at *
    generalize htb : eb + 1 = tb at *
    have hz7 : eb + 1 ≤ tb := by omega
    clear htb hs3
    refine wpAnyH_ready (rs := [9]) (by kernel_rfl) (by simp) ?_
    refine AllReadyH.cons rfl (fun K hK => ?_) AllReadyH.nil
    go_simp
    go_wp2_with fail
    refine (KG _).mono ?_
    rintro r x8 ⟨rfl, hh⟩
    have P8 := hide (P7.out.below hh)
    have C8 := hide (C7.out.below hh)
    have E8 := hide (E7.out.below hh)
    have Q8 := hide (Q7.out.below hh)
    have B8 := hide (B7.out.trans (hh.mono B7.out.size))
    have T8 := hide (T7.out.below hh)
    clear hh P7 C7 E7 Q7 B7 T7 KG hS
    go_wp2_with fail
    refine hK.out _ _ ⟨P8.out.box, C8.out, P8.out.gm⟩ (fun hS => ?_)
    clear hK K
    (try simp only [Act.put, List.setIfInBounds_toArray, List.set_cons_zero, List.set_cons_succ])
    refine take_at 10 (some 17) (v := ?_) rfl rfl (by kernel_rfl) (by kernel_rfl) (by kernel_rfl) (fun _ _ _ h => h) ⟨by rfl, ?_⟩ hS ?_
    rotate_left
    · intro wq hSw; go_simp; try rfl
    simp only [Act.put, List.setIfInBounds_toArray, List.set_cons_zero, List.set_cons_succ]
    refine take_at 11 (some 28) (v := ?_) rfl rfl (by kernel_rfl) (by kernel_rfl) (by kernel_rfl) (fun _ _ _ h => h) ⟨by rfl, ?_⟩ hS ?_
    rotate_left
    · intro wq hSw; go_simp; try rfl
    simp only [Act.put, List.setIfInBounds_toArray, List.set_cons_zero, List.set_cons_succ]
    refine take_at 12 (some 29) (v := ?_) rfl rfl (by kernel_rfl) (by kernel_rfl) (by kernel_rfl) (fun _ _ _ h => h) ⟨by rfl, ?_⟩ hS ?_
    rotate_left
    · intro wq hSw; go_simp; try rfl
    simp only [Act.put, List.setIfInBounds_toArray, List.set_cons_zero, List.set_cons_succ]
    have hlt := NN tb (by omega)
    clear NN
    obtain ⟨t0, t0f⟩ := T8.out.get 0 _ rfl
    obtain ⟨t1, t1f⟩ := T8.out.get 1 _ rfl
    obtain ⟨t2, t2f⟩ := T8.out.get 2 _ rfl
    refine wpAnyH_ready (rs := [14]) (by kernel_rfl) (by simp) ?_
    refine AllReadyH.cons rfl (fun K hK => ?_) AllReadyH.nil
    go_simp
    go_wp2_with fail
    have K8 := (((Keep.refl (fun z => z = tb) x8).setCell (g := tb) (j := 0) (fun _ => rfl) (.int .i64 0)).setCell (g := tb) (j := 1) (fun _ => rfl) (.int .i64 0)).setCell (g := tb) (j := 2) (fun _ => rfl) (.int .i64 0)
    have Px : Below tb x8 (((x8.setCell ⟨tb, 0, none⟩ (.int .i64 0)).setCell ⟨tb, 1, none⟩ (.int .i64 0)).setCell ⟨tb, 2, none⟩ (.int .i64 0)) := K8.below (by have := T8.out.1; omega) (fun z hz q => by omega)
    have P9 := hide (plUnder P8.out Px hlt)
    have C9 := hide (C8.out.under (by omega) Px)
    have E9 := hide (E8.out.under (by omega) Px)
    have Q9 := hide (Q8.out.keep K8 (by omega) (by omega))
    have B9 := hide (B8.out.trans (Px.mono (by omega)))
    have T9 := hide (((T8.out.stored (j := 0) (by decide) (.int .i64 0)).stored (j := 1) (by simp) (.int .i64 0)).stored (j := 2) (by simp) (.int .i64 0))
    simp only [List.set_cons_zero, List.set_cons_succ] at T9
    refine hK.out _ _ ⟨P9.out.box, C9.out, P9.out.gm⟩ (fun hS => ?_)
    clear hK K
    (try simp only [Act.put, List.setIfInBounds_toArray, List.set_cons_zero, List.set_cons_succ])
    clear K8 Px P8 C8 E8 Q8 B8 T8 t0 t1 t2 t0f t1f t2f
    generalize ((x8.setCell ⟨tb, 0, none⟩ (.int .i64 0)).setCell ⟨tb, 1, none⟩ (.int .i64 0)).setCell ⟨tb, 2, none⟩ (.int .i64 0) = x9 at *
    refine take_at 15 (some 6) (v := ?_) rfl rfl (by kernel_rfl) (by kernel_rfl) (by kernel_rfl) (fun _ _ _ h => h) ⟨by rfl, ?_⟩ hS ?_
    rotate_left
    · intro wq hSw; go_simp; try rfl
    simp only [Act.put, List.setIfInBounds_toArray, List.set_cons_zero, List.set_cons_succ]
    refine wpAnyH_done (by kernel_rfl) ?_ _
    clear hS
    go_wp2_with fail
    go_ret
    exact ⟨rfl, B9.out⟩
set_option maxHeartbeats 8000000 in
theorem create_yes (lab : Nat → Nat) (B : Nat) (l : Led) (id grp lo hi v : Int) (w : World) (h : PL lab B w l) (i1 : I64 lo) (i2 : I64 hi) (i3 : I64 v) (e0 : newL l.ctrs id grp lo hi v = 0) (hE : chL l.K id grp lo hi v = 0) (hF : (fitB (lowG l.ctrs grp + v) && fitB (highG l.ctrs grp + v)) = true) :
    Calls Tryz.prog 22 #[ptr l.lb, cV id grp lo hi v] w fun r w' => r = .returned (.int .i64 0) ∧ ∃ b m, PL (labN lab w.heap.size id) B w' (l.made id grp lo hi v b m) ∧ Keep (fun z => z = l.mc ∨ z = l.mg) w w' ∧ w.heap.size ≤ b ∧ w.heap.size ≤ m := by
  have LTW := hide h.lt
  have hBn : B ≤ w.heap.size := by have := h.low.1; have := h.lt.1; omega
  have PM := fun (x y : World) (b m : Nat) (h0 : PL lab B x l) => PL.make (y := y) (b := b) (m := m) h0 LTW.out hBn e0 i1 i2
  obtain ⟨g1, g2, g3⟩ := chL_yes hE
  have hid : I64 id := by unfold I64; omega
  have hgI : I64 grp := by unfold I64; omega
  have KC := fun w' (h : PL lab B w' l) => check_yes l.lb l.mc l.K id grp lo hi v w' g1 h.box.1 (h.box.get 0 _ rfl).1 h.cm g2 g3 i1 i2
  have HP := hide h
  have HAT := hide (h.totD grp)
  have hlt0 := h.lt
  have NN := fun (T : Nat) (q : w.heap.size ≤ T) => lt_more hlt0 q
  have dd : l.lb ≠ l.mc ∧ l.lb ≠ l.mg ∧ l.mc ≠ l.mg := ⟨fun q => by have := h.l1; rw [q, h.l2] at this; omega, fun q => by have := h.l1; rw [q, h.l3] at this; omega, fun q => by have := h.l2; rw [q, h.l3] at this; omega⟩
  obtain ⟨dd1, dd2, dd3⟩ := dd
  have lt1 := hlt0.1
  have lt2 := hlt0.2.1
  have lt3 := hlt0.2.2.1
  have KG := fun w' => grown_any (sumG l.ctrs grp) (lowG l.ctrs grp) (highG l.ctrs grp) v w' (h.ok.lo grp) (h.ok.hi grp) i3 (sumG_in l.ctrs grp).1 (sumG_in l.ctrs grp).2
  generalize sumG l.ctrs grp = s0 at *
  generalize lowG l.ctrs grp = s1 at *
  generalize highG l.ctrs grp = s2 at *
  clear h hE g1 g2 g3 hlt0
  have eg : grV s0 s1 s2 v = tot (s0 + v) (s1 + v) (s2 + v) := by unfold grV shE; rw [hF]; rfl
  have ee : shE s1 s2 v v = 0 := by unfold shE; rw [hF]; rfl
  rw [eg, ee] at KG
  clear eg ee hF
  go_enter Tryz.func22, Tryz.ntmps22
  go_wp2_with fail
  refine (KC _ (HP.out.below (alloc_below _ _))).mono ?_
  rintro r x1 ⟨b, m, rfl, h1, hpe, hb1, hm1⟩
  have B1 := hide (below1 h1)
  have C1 := hide (show Cells x1 w.heap.size [.int .i64 id, .int .i64 grp, .int .i64 lo, .int .i64 hi, .int .i64 v] from (Cells.new w #[.int .i64 id, .int .i64 grp, .int .i64 lo, .int .i64 hi, .int .i64 v] 43).below h1)
  have P1 := hide ((HP.out.below (alloc_below w (.cells #[.int .i64 id, .int .i64 grp, .int .i64 lo, .int .i64 hi, .int .i64 v] 43))).below h1)
  have Q1 := hide hpe
  have hb0 : w.heap.size ≤ b := by simp at hb1; omega
  have hm0 : w.heap.size ≤ m := by simp at hm1; omega
  have c3 : w.heap.size < x1.heap.size := C1.out.1
  have ltb := Q1.out.lt
  clear h1 hpe hb1 hm1 KC HP
  go_upto_region 4 with fail
  refine named (P := Code.wp _ _ _ _) ?_
  intro x2 hx2
  have b2 : Below x1.heap.size x1 x2 := by rw [hx2]; exact alloc_below _ _
  have E2 : Cells x2 x1.heap.size [.int .i64 grp, ptr b] := by rw [hx2]; exact Cells.new x1 #[.int .i64 grp, ptr b] 110
  have P2 := P1.out.below b2
  have C2 := C1.out.below b2
  have Q2 := Q1.out.below b2
  have B2 := B1.out.trans (b2.mono B1.out.size)
  have hs2 : x2.heap.size = x1.heap.size + 1 := by rw [hx2]; simp
  generalize x1.heap.size = eb at *
  clear B1 C1 P1 Q1 b2 hx2
  refine wp_region_held_drew (S := fun wq => Cells wq l.lb [.map (some l.mc), .map (some l.mg), .map (some l.mh)] ∧ Cells wq w.heap.size [.int .i64 id, .int .i64 grp, .int .i64 lo, .int .i64 hi, .int .i64 v] ∧ AnyAt Tryz.prog 3 wq l.mg (l.G.map (fun (p : Int × Int × Int × Int) => (p.1, totV p.2)))) (by kernel_rfl) ⟨P2.box, C2, P2.gm⟩ (fun hS => ?_)
  have P3 := hide (P2.below (Below.refl _ _).drew)
  have C3 := hide (C2.below (Below.refl _ _).drew)
  have E3 := hide (E2.below (Below.refl _ _).drew)
  have Q3 := hide (Q2.below (Below.refl _ _).drew)
  have B3 := hide B2.drew
  have hs3 : x2.drew.heap.size = eb + 1 := hs2
  clear P2 C2 E2 Q2 B2 hs2
  generalize x2.drew = x3 at *
  clear x2
  refine take_at 0 (some 18) (v := ?_) rfl rfl (by kernel_rfl) (by kernel_rfl) (by kernel_rfl) (fun _ _ _ h => h) ⟨by rfl, ?_⟩ hS ?_
  rotate_left
  · intro wq hSw; go_simp; try rfl
  simp only [Act.put, List.setIfInBounds_toArray, List.set_cons_zero, List.set_cons_succ]
  refine take_at 1 (some 19) (v := ?_) rfl rfl (by kernel_rfl) (by kernel_rfl) (by kernel_rfl) (fun _ _ _ h => h) ⟨by rfl, ?_⟩ hS ?_
  rotate_left
  · intro wq hSw; go_simp; try rfl
  simp only [Act.put, List.setIfInBounds_toArray, List.set_cons_zero, List.set_cons_succ]
  refine take_at 2 (some 20) (v := ?_) rfl rfl (by kernel_rfl) (by kernel_rfl) (by kernel_rfl) (fun _ _ _ h => h) ⟨by rfl, ?_⟩ hS ?_
  rotate_left
  · intro wq hSw; go_simp; try rfl
  simp only [Act.put, List.setIfInBounds_toArray, List.set_cons_zero, List.set_cons_succ]
  refine take_at 3 (some 21) (v := ?_) rfl rfl (by kernel_rfl) (by kernel_rfl) (by kernel_rfl) (fun _ _ _ h => h) ⟨by rfl, ?_⟩ hS ?_
  rotate_left
  · intro wq hSw; obtain ⟨r0, r1, r2⟩ := hSw; have q := (r0.get 1 _ rfl).1; go_simp; try rfl
  simp only [Act.put, List.setIfInBounds_toArray, List.set_cons_zero, List.set_cons_succ]
  refine take_at 4 (some 22) (v := ?_) rfl rfl (by kernel_rfl) (by kernel_rfl) (by kernel_rfl) (fun _ _ _ h => h) ⟨by rfl, ?_⟩ hS ?_
  rotate_left
  · intro wq hSw; go_simp; try rfl
  simp only [Act.put, List.setIfInBounds_toArray, List.set_cons_zero, List.set_cons_succ]
  refine take_at 5 (some 23) (v := ?_) rfl rfl (by kernel_rfl) (by kernel_rfl) (by kernel_rfl) (fun _ _ _ h => h) ⟨by rfl, ?_⟩ hS ?_
  rotate_left
  · intro wq hSw; obtain ⟨r0, r1, r2⟩ := hSw; have q := (r1.get 1 _ rfl).1; go_simp; try rfl
  simp only [Act.put, List.setIfInBounds_toArray, List.set_cons_zero, List.set_cons_succ]
  refine take_at 6 (some 24) (v := ?_) rfl rfl (by kernel_rfl) (by kernel_rfl) (by kernel_rfl) (fun _ _ _ h => h) ⟨by rfl, ?_⟩ hS ?_
  rotate_left
  · intro wq hSw; obtain ⟨r0, r1, r2⟩ := hSw; have hr := any_run lawK Tryz.underlying105 zeroT r2 (keyI hgI); rw [HAT.out] at hr; go_simp; try rfl
  simp only [Act.put, List.setIfInBounds_toArray, List.set_cons_zero, List.set_cons_succ]
  refine take_at 7 (some 25) (v := ?_) rfl rfl (by kernel_rfl) (by kernel_rfl) (by kernel_rfl) (fun _ _ _ h => h) ⟨by rfl, ?_⟩ hS ?_
  rotate_left
  · intro wq hSw; go_simp; try rfl
  simp only [Act.put, List.setIfInBounds_toArray, List.set_cons_zero, List.set_cons_succ]
  refine take_at 8 (some 26) (v := ?_) rfl rfl (by kernel_rfl) (by kernel_rfl) (by kernel_rfl) (fun _ _ _ h => h) ⟨by rfl, ?_⟩ hS ?_
  rotate_left
  · intro wq hSw; obtain ⟨r0, r1, r2⟩ := hSw; have q := (r1.get 4 _ rfl).1; go_simp; try rfl
  simp only [Act.put, List.setIfInBounds_toArray, List.set_cons_zero, List.set_cons_succ]
  refine wpAnyH_ready (rs := [9, 13]) (by kernel_rfl) (by simp) ?_
  refine AllReadyH.cons rfl (fun K hK => ?_) (AllReadyH.cons rfl (fun K hK => ?_) AllReadyH.nil)
  · go_simp
    go_wp2_with fail
    refine (KG _).mono ?_
    rintro r x7 ⟨rfl, hh⟩
    have P7 := hide (P3.out.below hh)
    have C7 := hide (C3.out.below hh)
    have E7 := hide (E3.out.below hh)
    have Q7 := hide (Q3.out.below hh)
    have B7 := hide (B3.out.trans (hh.mono B3.out.size))
    have hz7 : eb + 1 ≤ x7.heap.size := by have := hh.size; omega
    clear hh P3 C3 E3 Q3 B3 KG hS
    go_wp2_with fail
    refine hK.out _ _ ⟨P7.out.box, C7.out, P7.out.gm⟩ (fun hS => ?_)
    clear hK K
    (try simp only [Act.put, List.setIfInBounds_toArray, List.set_cons_zero, List.set_cons_succ])
    refine take_at 10 (some 17) (v := ?_) rfl rfl (by kernel_rfl) (by kernel_rfl) (by kernel_rfl) (fun _ _ _ h => h) ⟨by rfl, ?_⟩ hS ?_
    rotate_left
    · intro wq hSw; go_simp; try rfl
    simp only [Act.put, List.setIfInBounds_toArray, List.set_cons_zero, List.set_cons_succ]
    refine take_at 11 (some 28) (v := ?_) rfl rfl (by kernel_rfl) (by kernel_rfl) (by kernel_rfl) (fun _ _ _ h => h) ⟨by rfl, ?_⟩ hS ?_
    rotate_left
    · intro wq hSw; go_simp; try rfl
    simp only [Act.put, List.setIfInBounds_toArray, List.set_cons_zero, List.set_cons_succ]
    refine take_at 12 (some 29) (v := ?_) rfl rfl (by kernel_rfl) (by kernel_rfl) (by kernel_rfl) (fun _ _ _ h => h) ⟨by rfl, ?_⟩ hS ?_
    rotate_left
    · intro wq hSw; go_simp; try rfl
    simp only [Act.put, List.setIfInBounds_toArray, List.set_cons_zero, List.set_cons_succ]
    have a8 := alloc_below x7 (.cells #[.int .i64 0, .int .i64 0, .int .i64 0] 125)
    have P8 := hide (P7.out.below a8)
    have C8 := hide (C7.out.below a8)
    have E8 := hide (E7.out.below a8)
    have Q8 := hide (Q7.out.below a8)
    have B8 := hide (B7.out.trans (a8.mono B7.out.size))
    have T8 := hide (Cells.new x7 #[.int .i64 0, .int .i64 0, .int .i64 0] 125)
    refine wpAnyH_ready (rs := [13]) (by kernel_rfl) (by simp) ?_
    refine AllReadyH.cons rfl (fun K hK => ?_) AllReadyH.nil
    go_simp
    go_wp2_with fail
    refine hK.out _ _ ⟨P8.out.box, C8.out, P8.out.gm⟩ (fun hS => ?_)
    clear hK K
    (try simp only [Act.put, List.setIfInBounds_toArray, List.set_cons_zero, List.set_cons_succ])
    clear a8 P7 C7 E7 Q7 B7
    generalize x7.alloc (.cells #[.int .i64 0, .int .i64 0, .int .i64 0] 125) = x8 at *
    generalize x7.heap.size = tb at *
    have hlt := NN tb (by omega)
    clear NN
    obtain ⟨t0, t0f⟩ := T8.out.get 0 _ rfl
    obtain ⟨t1, t1f⟩ := T8.out.get 1 _ rfl
    obtain ⟨t2, t2f⟩ := T8.out.get 2 _ rfl
    refine wpAnyH_ready (rs := [14]) (by kernel_rfl) (by simp) ?_
    refine AllReadyH.cons rfl (fun K hK => ?_) AllReadyH.nil
    go_simp
    go_wp2_with fail
    have K8 := (((Keep.refl (fun z => z = tb) x8).setCell (g := tb) (j := 0) (fun _ => rfl) (.int .i64 (s0 + v))).setCell (g := tb) (j := 1) (fun _ => rfl) (.int .i64 (s1 + v))).setCell (g := tb) (j := 2) (fun _ => rfl) (.int .i64 (s2 + v))
    have Px : Below tb x8 (((x8.setCell ⟨tb, 0, none⟩ (.int .i64 (s0 + v))).setCell ⟨tb, 1, none⟩ (.int .i64 (s1 + v))).setCell ⟨tb, 2, none⟩ (.int .i64 (s2 + v))) := K8.below (by have := T8.out.1; omega) (fun z hz q => by omega)
    have P9 := hide (plUnder P8.out Px hlt)
    have C9 := hide (C8.out.under (by omega) Px)
    have E9 := hide (E8.out.under (by omega) Px)
    have Q9 := hide (Q8.out.keep K8 (by omega) (by omega))
    have B9 := hide (B8.out.trans (Px.mono (by omega)))
    have T9 := hide (((T8.out.stored (j := 0) (by decide) (.int .i64 (s0 + v))).stored (j := 1) (by simp) (.int .i64 (s1 + v))).stored (j := 2) (by simp) (.int .i64 (s2 + v)))
    simp only [List.set_cons_zero, List.set_cons_succ] at T9
    refine hK.out _ _ ⟨P9.out.box, C9.out, P9.out.gm⟩ (fun hS => ?_)
    clear hK K
    (try simp only [Act.put, List.setIfInBounds_toArray, List.set_cons_zero, List.set_cons_succ])
    clear K8 Px P8 C8 E8 Q8 B8 T8 t0 t1 t2 t0f t1f t2f
    generalize ((x8.setCell ⟨tb, 0, none⟩ (.int .i64 (s0 + v))).setCell ⟨tb, 1, none⟩ (.int .i64 (s1 + v))).setCell ⟨tb, 2, none⟩ (.int .i64 (s2 + v)) = x9 at *
    refine take_at 15 (some 6) (v := ?_) rfl rfl (by kernel_rfl) (by kernel_rfl) (by kernel_rfl) (fun _ _ _ h => h) ⟨by rfl, ?_⟩ hS ?_
    rotate_left
    · intro wq hSw; go_simp; try rfl
    simp only [Act.put, List.setIfInBounds_toArray, List.set_cons_zero, List.set_cons_succ]
    refine wpAnyH_done (by kernel_rfl) ?_ _
    clear hS
    go_upto_region 7 with fail
    refine wp_region_held_drew (S := fun wq => Cells wq l.lb [.map (some l.mc), .map (some l.mg), .map (some l.mh)] ∧ Cells wq w.heap.size [.int .i64 id, .int .i64 grp, .int .i64 lo, .int .i64 hi, .int .i64 v] ∧ Cells wq eb [.int .i64 grp, ptr b] ∧ Cells wq tb [.int .i64 (s0 + v), .int .i64 (s1 + v), .int .i64 (s2 + v)]) (by kernel_rfl) ⟨P9.out.box, C9.out, E9.out, T9.out⟩ (fun hS => ?_)
    have Pa := hide (P9.out.below (Below.refl _ _).drew)
    have Ca := hide (C9.out.below (Below.refl _ _).drew)
    have Ea := hide (E9.out.below (Below.refl _ _).drew)
    have Qa := hide (Q9.out.below (Below.refl _ _).drew)
    have Ta := hide (T9.out.below (Below.refl _ _).drew)
    have Ba := hide B9.out.drew
    clear P9 C9 E9 Q9 T9 B9
    generalize x9.drew = xa at *
    refine take_at 0 (some 33) (v := ?_) rfl rfl (by kernel_rfl) (by kernel_rfl) (by kernel_rfl) (fun _ _ _ h => h) ⟨by rfl, ?_⟩ hS ?_
    rotate_left
    · intro wq hSw; go_simp; try rfl
    simp only [Act.put, List.setIfInBounds_toArray, List.set_cons_zero, List.set_cons_succ]
    refine take_at 1 (some 34) (v := ?_) rfl rfl (by kernel_rfl) (by kernel_rfl) (by kernel_rfl) (fun _ _ _ h => h) ⟨by rfl, ?_⟩ hS ?_
    rotate_left
    · intro wq hSw; go_simp; try rfl
    simp only [Act.put, List.setIfInBounds_toArray, List.set_cons_zero, List.set_cons_succ]
    refine take_at 2 (some 35) (v := ?_) rfl rfl (by kernel_rfl) (by kernel_rfl) (by kernel_rfl) (fun _ _ _ h => h) ⟨by rfl, ?_⟩ hS ?_
    rotate_left
    · intro wq hSw; go_simp; try rfl
    simp only [Act.put, List.setIfInBounds_toArray, List.set_cons_zero, List.set_cons_succ]
    refine take_at 3 (some 36) (v := ?_) rfl rfl (by kernel_rfl) (by kernel_rfl) (by kernel_rfl) (fun _ _ _ h => h) ⟨by rfl, ?_⟩ hS ?_
    rotate_left
    · intro wq hSw; obtain ⟨r0, r1, r2, r3⟩ := hSw; have q := (r0.get 0 _ rfl).1; go_simp; try rfl
    simp only [Act.put, List.setIfInBounds_toArray, List.set_cons_zero, List.set_cons_succ]
    refine take_at 4 (some 37) (v := ?_) rfl rfl (by kernel_rfl) (by kernel_rfl) (by kernel_rfl) (fun _ _ _ h => h) ⟨by rfl, ?_⟩ hS ?_
    rotate_left
    · intro wq hSw; go_simp; try rfl
    simp only [Act.put, List.setIfInBounds_toArray, List.set_cons_zero, List.set_cons_succ]
    refine take_at 5 (some 38) (v := ?_) rfl rfl (by kernel_rfl) (by kernel_rfl) (by kernel_rfl) (fun _ _ _ h => h) ⟨by rfl, ?_⟩ hS ?_
    rotate_left
    · intro wq hSw; obtain ⟨r0, r1, r2, r3⟩ := hSw; have q := (r1.get 0 _ rfl).1; go_simp; try rfl
    simp only [Act.put, List.setIfInBounds_toArray, List.set_cons_zero, List.set_cons_succ]
    refine take_at 6 (some 39) (v := ?_) rfl rfl (by kernel_rfl) (by kernel_rfl) (by kernel_rfl) (fun _ _ _ h => h) ⟨by rfl, ?_⟩ hS ?_
    rotate_left
    · intro wq hSw; go_simp; try rfl
    simp only [Act.put, List.setIfInBounds_toArray, List.set_cons_zero, List.set_cons_succ]
    refine take_at 7 (some 40) (v := ?_) rfl rfl (by kernel_rfl) (by kernel_rfl) (by kernel_rfl) (fun _ _ _ h => h) ⟨by rfl, ?_⟩ hS ?_
    rotate_left
    · intro wq hSw; go_simp; try rfl
    simp only [Act.put, List.setIfInBounds_toArray, List.set_cons_zero, List.set_cons_succ]
    refine take_at 8 (some 41) (v := ?_) rfl rfl (by kernel_rfl) (by kernel_rfl) (by kernel_rfl) (fun _ _ _ h => h) ⟨by rfl, ?_⟩ hS ?_
    rotate_left
    · intro wq hSw; go_simp; try rfl
    simp only [Act.put, List.setIfInBounds_toArray, List.set_cons_zero, List.set_cons_succ]
    refine take_at 9 (some 42) (v := ?_) rfl rfl (by kernel_rfl) (by kernel_rfl) (by kernel_rfl) (fun _ _ _ h => h) ⟨by rfl, ?_⟩ hS ?_
    rotate_left
    · intro wq hSw; obtain ⟨r0, r1, r2, r3⟩ := hSw; have q := (r0.get 1 _ rfl).1; go_simp; try rfl
    simp only [Act.put, List.setIfInBounds_toArray, List.set_cons_zero, List.set_cons_succ]
    refine take_at 10 (some 43) (v := ?_) rfl rfl (by kernel_rfl) (by kernel_rfl) (by kernel_rfl) (fun _ _ _ h => h) ⟨by rfl, ?_⟩ hS ?_
    rotate_left
    · intro wq hSw; go_simp; try rfl
    simp only [Act.put, List.setIfInBounds_toArray, List.set_cons_zero, List.set_cons_succ]
    refine take_at 11 (some 44) (v := ?_) rfl rfl (by kernel_rfl) (by kernel_rfl) (by kernel_rfl) (fun _ _ _ h => h) ⟨by rfl, ?_⟩ hS ?_
    rotate_left
    · intro wq hSw; obtain ⟨r0, r1, r2, r3⟩ := hSw; have q := (r1.get 1 _ rfl).1; go_simp; try rfl
    simp only [Act.put, List.setIfInBounds_toArray, List.set_cons_zero, List.set_cons_succ]
    refine take_at 12 (some 45) (v := ?_) rfl rfl (by kernel_rfl) (by kernel_rfl) (by kernel_rfl) (fun _ _ _ h => h) ⟨by rfl, ?_⟩ hS ?_
    rotate_left
    · intro wq hSw; obtain ⟨r0, r1, r2, r3⟩ := hSw; have q := (r2.get 0 _ rfl).1; have q1 := (r2.get 1 _ rfl).1; go_simp; try rfl
    simp only [Act.put, List.setIfInBounds_toArray, List.set_cons_zero, List.set_cons_succ]
    refine take_at 13 (some 46) (v := ?_) rfl rfl (by kernel_rfl) (by kernel_rfl) (by kernel_rfl) (fun _ _ _ h => h) ⟨by rfl, ?_⟩ hS ?_
    rotate_left
    · intro wq hSw; obtain ⟨r0, r1, r2, r3⟩ := hSw; have q := (r3.get 0 _ rfl).1; have q1 := (r3.get 1 _ rfl).1; have q2 := (r3.get 2 _ rfl).1; go_simp; try rfl
    simp only [Act.put, List.setIfInBounds_toArray, List.set_cons_zero, List.set_cons_succ]
    have ltt := Ta.out.1
    obtain ⟨v0, st, y1, hr1, hb1, hf1⟩ := AnyAt.entry lawK Tryz.underlying104 zeroE Pa.out.cm ((up_map entV).2 Pa.out.upK) (keyI hid) (by have := Pa.out.lenK; simp; omega)
    obtain ⟨y2, hr2, hm2, hb2⟩ := hf1 (.agg #[.int .i64 grp, ptr b]) y1 rfl
    have k1 : Keep (fun z => z = l.mc) xa y1 := (Keep.refl (fun z => z = l.mc) xa).grown hb1.1 (by rintro g ⟨⟩ _; rfl)
    have k2 : Keep (fun z => z = l.mc) xa y2 := k1.grown hb2.1 (by rintro g ⟨⟩ _; rfl)
    have gm2 := anyAt_keep Pa.out.gm k2 (by omega)
    obtain ⟨v1, st1, y3, hr3, hb3, hf3⟩ := AnyAt.entry lawK Tryz.underlying105 zeroT gm2 ((up_map totV).2 Pa.out.gup) (keyI hgI) (by have := Pa.out.lenG; simp; omega)
    obtain ⟨y4, hr4, hm4, hb4⟩ := hf3 (tot (s0 + v) (s1 + v) (s2 + v)) y3 rfl
    have k3 : Keep (fun z => z = l.mg) y2 y3 := (Keep.refl (fun z => z = l.mg) y2).grown hb3.1 (by rintro g ⟨⟩ _; rfl)
    have k4 : Keep (fun z => z = l.mg) y2 y4 := k3.grown hb4.1 (by rintro g ⟨⟩ _; rfl)
    have j3 : Keep (fun z => z = l.mc ∨ z = l.mg) xa y3 := (k2.mono (T := fun z => z = l.mc ∨ z = l.mg) (fun _ _ q => .inl q)).trans k3 (fun _ _ q => .inr q)
    have j4 : Keep (fun z => z = l.mc ∨ z = l.mg) xa y4 := (k2.mono (T := fun z => z = l.mc ∨ z = l.mg) (fun _ _ q => .inl q)).trans k4 (fun _ _ q => .inr q)
    have H1 := hide hr1
    have H2 := hide hr2
    have H3 := hide hr3
    have H4 := hide hr4
    have cm4 := anyAt_keep hm2 k4 (by omega)
    clear hr1 hr2 hr3 hr4 hf1 hf3 hb1 hb2 hb3 hb4 gm2 hm2 k3 k4
    refine wpAnyH_ready (rs := [14]) (by kernel_rfl) (by simp) ?_
    refine AllReadyH.cons rfl (fun K hK => ?_) AllReadyH.nil
    refine wp_entry 47 (.tmp 36) (.tmp 38) rfl rfl rfl rfl rfl H1.out ?_
    refine hK.out _ _ ⟨Pa.out.box.keep k1 (by omega), Ca.out.keep k1 (by omega), Ea.out.keep k1 (by omega), Ta.out.keep k1 (by omega)⟩ (fun hS => ?_)
    clear hK K
    (try simp only [Act.put, List.setIfInBounds_toArray, List.set_cons_zero, List.set_cons_succ])
    refine take_at 15 (some 48) (v := ?_) rfl rfl (by kernel_rfl) (by kernel_rfl) (by kernel_rfl) (fun _ _ _ h => h) ⟨by rfl, ?_⟩ hS ?_
    rotate_left
    · intro wq hSw; go_simp; try rfl
    simp only [Act.put, List.setIfInBounds_toArray, List.set_cons_zero, List.set_cons_succ]
    refine wpAnyH_ready (rs := [16]) (by kernel_rfl) (by simp) ?_
    refine AllReadyH.cons rfl (fun K hK => ?_) AllReadyH.nil
    refine wp_fill (.tmp 36) (.tmp 48) (.tmp 45) rfl rfl rfl rfl rfl H2.out ?_
    refine hK.out _ _ ⟨Pa.out.box.keep k2 (by omega), Ca.out.keep k2 (by omega), Ea.out.keep k2 (by omega), Ta.out.keep k2 (by omega)⟩ (fun hS => ?_)
    clear hK K
    (try simp only [Act.put, List.setIfInBounds_toArray, List.set_cons_zero, List.set_cons_succ])
    refine wpAnyH_ready (rs := [17]) (by kernel_rfl) (by simp) ?_
    refine AllReadyH.cons rfl (fun K hK => ?_) AllReadyH.nil
    refine wp_entry 49 (.tmp 42) (.tmp 44) rfl rfl rfl rfl rfl H3.out ?_
    refine hK.out _ _ ⟨Pa.out.box.keep j3 (by omega), Ca.out.keep j3 (by omega), Ea.out.keep j3 (by omega), Ta.out.keep j3 (by omega)⟩ (fun hS => ?_)
    clear hK K
    (try simp only [Act.put, List.setIfInBounds_toArray, List.set_cons_zero, List.set_cons_succ])
    refine take_at 18 (some 50) (v := ?_) rfl rfl (by kernel_rfl) (by kernel_rfl) (by kernel_rfl) (fun _ _ _ h => h) ⟨by rfl, ?_⟩ hS ?_
    rotate_left
    · intro wq hSw; go_simp; try rfl
    simp only [Act.put, List.setIfInBounds_toArray, List.set_cons_zero, List.set_cons_succ]
    refine wpAnyH_ready (rs := [19]) (by kernel_rfl) (by simp) ?_
    refine AllReadyH.cons rfl (fun K hK => ?_) AllReadyH.nil
    refine wp_fill (.tmp 42) (.tmp 50) (.tmp 46) rfl rfl rfl rfl rfl H4.out ?_
    refine hK.out _ _ ⟨Pa.out.box.keep j4 (by omega), Ca.out.keep j4 (by omega), Ea.out.keep j4 (by omega), Ta.out.keep j4 (by omega)⟩ (fun hS => ?_)
    clear hK K
    (try simp only [Act.put, List.setIfInBounds_toArray, List.set_cons_zero, List.set_cons_succ])
    refine wpAnyH_done (by kernel_rfl) ?_ _
    go_wp2_with fail
    go_ret
    exact ⟨rfl, b, m, PM xa y4 b m Pa.out hb0 hm0 (Qa.out.keep j4 (by omega) (by omega)) j4 cm4 hm4, (Keep.of_below (S := fun z => z = l.mc ∨ z = l.mg) Ba.out).trans j4 (fun _ _ q => q), hb0, hm0⟩
  · have a7 := alloc_below x3 (.cells #[.int .i64 0, .int .i64 0, .int .i64 0] 125)
    have P7 := hide (P3.out.below a7)
    have C7 := hide (C3.out.below a7)
    have E7 := hide (E3.out.below a7)
    have Q7 := hide (Q3.out.below a7)
    have B7 := hide (B3.out.trans (a7.mono B3.out.size))
    have t7 := Cells.new x3 #[.int .i64 0, .int .i64 0, .int .i64 0] 125
    rw [hs3] at t7
    have T7 := hide t7
    clear t7
    go_simp
    go_wp2_with fail
    refine hK.out _ _ ⟨P7.out.box, C7.out, P7.out.gm⟩ (fun hS => ?_)
    clear hK K
    (try simp only [Act.put, List.setIfInBounds_toArray, List.set_cons_zero, List.set_cons_succ])
    clear a7 P3 C3 E3 Q3 B3
    generalize x3.alloc (.cells #[.int .i64 0, .int .i64 0, .int .i64 0] 125) = x7 at *
    generalize htb : eb + 1 = tb at *
    have hz7 : eb + 1 ≤ tb := by omega
    clear htb hs3
    refine wpAnyH_ready (rs := [9]) (by kernel_rfl) (by simp) ?_
    refine AllReadyH.cons rfl (fun K hK => ?_) AllReadyH.nil
    go_simp
    go_wp2_with fail
    refine (KG _).mono ?_
    rintro r x8 ⟨rfl, hh⟩
    have P8 := hide (P7.out.below hh)
    have C8 := hide (C7.out.below hh)
    have E8 := hide (E7.out.below hh)
    have Q8 := hide (Q7.out.below hh)
    have B8 := hide (B7.out.trans (hh.mono B7.out.size))
    have T8 := hide (T7.out.below hh)
    clear hh P7 C7 E7 Q7 B7 T7 KG hS
    go_wp2_with fail
    refine hK.out _ _ ⟨P8.out.box, C8.out, P8.out.gm⟩ (fun hS => ?_)
    clear hK K
    (try simp only [Act.put, List.setIfInBounds_toArray, List.set_cons_zero, List.set_cons_succ])
    refine take_at 10 (some 17) (v := ?_) rfl rfl (by kernel_rfl) (by kernel_rfl) (by kernel_rfl) (fun _ _ _ h => h) ⟨by rfl, ?_⟩ hS ?_
    rotate_left
    · intro wq hSw; go_simp; try rfl
    simp only [Act.put, List.setIfInBounds_toArray, List.set_cons_zero, List.set_cons_succ]
    refine take_at 11 (some 28) (v := ?_) rfl rfl (by kernel_rfl) (by kernel_rfl) (by kernel_rfl) (fun _ _ _ h => h) ⟨by rfl, ?_⟩ hS ?_
    rotate_left
    · intro wq hSw; go_simp; try rfl
    simp only [Act.put, List.setIfInBounds_toArray, List.set_cons_zero, List.set_cons_succ]
    refine take_at 12 (some 29) (v := ?_) rfl rfl (by kernel_rfl) (by kernel_rfl) (by kernel_rfl) (fun _ _ _ h => h) ⟨by rfl, ?_⟩ hS ?_
    rotate_left
    · intro wq hSw; go_simp; try rfl
    simp only [Act.put, List.setIfInBounds_toArray, List.set_cons_zero, List.set_cons_succ]
    have hlt := NN tb (by omega)
    clear NN
    obtain ⟨t0, t0f⟩ := T8.out.get 0 _ rfl
    obtain ⟨t1, t1f⟩ := T8.out.get 1 _ rfl
    obtain ⟨t2, t2f⟩ := T8.out.get 2 _ rfl
    refine wpAnyH_ready (rs := [14]) (by kernel_rfl) (by simp) ?_
    refine AllReadyH.cons rfl (fun K hK => ?_) AllReadyH.nil
    go_simp
    go_wp2_with fail
    have K8 := (((Keep.refl (fun z => z = tb) x8).setCell (g := tb) (j := 0) (fun _ => rfl) (.int .i64 (s0 + v))).setCell (g := tb) (j := 1) (fun _ => rfl) (.int .i64 (s1 + v))).setCell (g := tb) (j := 2) (fun _ => rfl) (.int .i64 (s2 + v))
    have Px : Below tb x8 (((x8.setCell ⟨tb, 0, none⟩ (.int .i64 (s0 + v))).setCell ⟨tb, 1, none⟩ (.int .i64 (s1 + v))).setCell ⟨tb, 2, none⟩ (.int .i64 (s2 + v))) := K8.below (by have := T8.out.1; omega) (fun z hz q => by omega)
    have P9 := hide (plUnder P8.out Px hlt)
    have C9 := hide (C8.out.under (by omega) Px)
    have E9 := hide (E8.out.under (by omega) Px)
    have Q9 := hide (Q8.out.keep K8 (by omega) (by omega))
    have B9 := hide (B8.out.trans (Px.mono (by omega)))
    have T9 := hide (((T8.out.stored (j := 0) (by decide) (.int .i64 (s0 + v))).stored (j := 1) (by simp) (.int .i64 (s1 + v))).stored (j := 2) (by simp) (.int .i64 (s2 + v)))
    simp only [List.set_cons_zero, List.set_cons_succ] at T9
    refine hK.out _ _ ⟨P9.out.box, C9.out, P9.out.gm⟩ (fun hS => ?_)
    clear hK K
    (try simp only [Act.put, List.setIfInBounds_toArray, List.set_cons_zero, List.set_cons_succ])
    clear K8 Px P8 C8 E8 Q8 B8 T8 t0 t1 t2 t0f t1f t2f
    generalize ((x8.setCell ⟨tb, 0, none⟩ (.int .i64 (s0 + v))).setCell ⟨tb, 1, none⟩ (.int .i64 (s1 + v))).setCell ⟨tb, 2, none⟩ (.int .i64 (s2 + v)) = x9 at *
    refine take_at 15 (some 6) (v := ?_) rfl rfl (by kernel_rfl) (by kernel_rfl) (by kernel_rfl) (fun _ _ _ h => h) ⟨by rfl, ?_⟩ hS ?_
    rotate_left
    · intro wq hSw; go_simp; try rfl
    simp only [Act.put, List.setIfInBounds_toArray, List.set_cons_zero, List.set_cons_succ]
    refine wpAnyH_done (by kernel_rfl) ?_ _
    clear hS
    go_upto_region 7 with fail
    refine wp_region_held_drew (S := fun wq => Cells wq l.lb [.map (some l.mc), .map (some l.mg), .map (some l.mh)] ∧ Cells wq w.heap.size [.int .i64 id, .int .i64 grp, .int .i64 lo, .int .i64 hi, .int .i64 v] ∧ Cells wq eb [.int .i64 grp, ptr b] ∧ Cells wq tb [.int .i64 (s0 + v), .int .i64 (s1 + v), .int .i64 (s2 + v)]) (by kernel_rfl) ⟨P9.out.box, C9.out, E9.out, T9.out⟩ (fun hS => ?_)
    have Pa := hide (P9.out.below (Below.refl _ _).drew)
    have Ca := hide (C9.out.below (Below.refl _ _).drew)
    have Ea := hide (E9.out.below (Below.refl _ _).drew)
    have Qa := hide (Q9.out.below (Below.refl _ _).drew)
    have Ta := hide (T9.out.below (Below.refl _ _).drew)
    have Ba := hide B9.out.drew
    clear P9 C9 E9 Q9 T9 B9
    generalize x9.drew = xa at *
    refine take_at 0 (some 33) (v := ?_) rfl rfl (by kernel_rfl) (by kernel_rfl) (by kernel_rfl) (fun _ _ _ h => h) ⟨by rfl, ?_⟩ hS ?_
    rotate_left
    · intro wq hSw; go_simp; try rfl
    simp only [Act.put, List.setIfInBounds_toArray, List.set_cons_zero, List.set_cons_succ]
    refine take_at 1 (some 34) (v := ?_) rfl rfl (by kernel_rfl) (by kernel_rfl) (by kernel_rfl) (fun _ _ _ h => h) ⟨by rfl, ?_⟩ hS ?_
    rotate_left
    · intro wq hSw; go_simp; try rfl
    simp only [Act.put, List.setIfInBounds_toArray, List.set_cons_zero, List.set_cons_succ]
    refine take_at 2 (some 35) (v := ?_) rfl rfl (by kernel_rfl) (by kernel_rfl) (by kernel_rfl) (fun _ _ _ h => h) ⟨by rfl, ?_⟩ hS ?_
    rotate_left
    · intro wq hSw; go_simp; try rfl
    simp only [Act.put, List.setIfInBounds_toArray, List.set_cons_zero, List.set_cons_succ]
    refine take_at 3 (some 36) (v := ?_) rfl rfl (by kernel_rfl) (by kernel_rfl) (by kernel_rfl) (fun _ _ _ h => h) ⟨by rfl, ?_⟩ hS ?_
    rotate_left
    · intro wq hSw; obtain ⟨r0, r1, r2, r3⟩ := hSw; have q := (r0.get 0 _ rfl).1; go_simp; try rfl
    simp only [Act.put, List.setIfInBounds_toArray, List.set_cons_zero, List.set_cons_succ]
    refine take_at 4 (some 37) (v := ?_) rfl rfl (by kernel_rfl) (by kernel_rfl) (by kernel_rfl) (fun _ _ _ h => h) ⟨by rfl, ?_⟩ hS ?_
    rotate_left
    · intro wq hSw; go_simp; try rfl
    simp only [Act.put, List.setIfInBounds_toArray, List.set_cons_zero, List.set_cons_succ]
    refine take_at 5 (some 38) (v := ?_) rfl rfl (by kernel_rfl) (by kernel_rfl) (by kernel_rfl) (fun _ _ _ h => h) ⟨by rfl, ?_⟩ hS ?_
    rotate_left
    · intro wq hSw; obtain ⟨r0, r1, r2, r3⟩ := hSw; have q := (r1.get 0 _ rfl).1; go_simp; try rfl
    simp only [Act.put, List.setIfInBounds_toArray, List.set_cons_zero, List.set_cons_succ]
    refine take_at 6 (some 39) (v := ?_) rfl rfl (by kernel_rfl) (by kernel_rfl) (by kernel_rfl) (fun _ _ _ h => h) ⟨by rfl, ?_⟩ hS ?_
    rotate_left
    · intro wq hSw; go_simp; try rfl
    simp only [Act.put, List.setIfInBounds_toArray, List.set_cons_zero, List.set_cons_succ]
    refine take_at 7 (some 40) (v := ?_) rfl rfl (by kernel_rfl) (by kernel_rfl) (by kernel_rfl) (fun _ _ _ h => h) ⟨by rfl, ?_⟩ hS ?_
    rotate_left
    · intro wq hSw; go_simp; try rfl
    simp only [Act.put, List.setIfInBounds_toArray, List.set_cons_zero, List.set_cons_succ]
    refine take_at 8 (some 41) (v := ?_) rfl rfl (by kernel_rfl) (by kernel_rfl) (by kernel_rfl) (fun _ _ _ h => h) ⟨by rfl, ?_⟩ hS ?_
    rotate_left
    · intro wq hSw; go_simp; try rfl
    simp only [Act.put, List.setIfInBounds_toArray, List.set_cons_zero, List.set_cons_succ]
    refine take_at 9 (some 42) (v := ?_) rfl rfl (by kernel_rfl) (by kernel_rfl) (by kernel_rfl) (fun _ _ _ h => h) ⟨by rfl, ?_⟩ hS ?_
    rotate_left
    · intro wq hSw; obtain ⟨r0, r1, r2, r3⟩ := hSw; have q := (r0.get 1 _ rfl).1; go_simp; try rfl
    simp only [Act.put, List.setIfInBounds_toArray, List.set_cons_zero, List.set_cons_succ]
    refine take_at 10 (some 43) (v := ?_) rfl rfl (by kernel_rfl) (by kernel_rfl) (by kernel_rfl) (fun _ _ _ h => h) ⟨by rfl, ?_⟩ hS ?_
    rotate_left
    · intro wq hSw; go_simp; try rfl
    simp only [Act.put, List.setIfInBounds_toArray, List.set_cons_zero, List.set_cons_succ]
    refine take_at 11 (some 44) (v := ?_) rfl rfl (by kernel_rfl) (by kernel_rfl) (by kernel_rfl) (fun _ _ _ h => h) ⟨by rfl, ?_⟩ hS ?_
    rotate_left
    · intro wq hSw; obtain ⟨r0, r1, r2, r3⟩ := hSw; have q := (r1.get 1 _ rfl).1; go_simp; try rfl
    simp only [Act.put, List.setIfInBounds_toArray, List.set_cons_zero, List.set_cons_succ]
    refine take_at 12 (some 45) (v := ?_) rfl rfl (by kernel_rfl) (by kernel_rfl) (by kernel_rfl) (fun _ _ _ h => h) ⟨by rfl, ?_⟩ hS ?_
    rotate_left
    · intro wq hSw; obtain ⟨r0, r1, r2, r3⟩ := hSw; have q := (r2.get 0 _ rfl).1; have q1 := (r2.get 1 _ rfl).1; go_simp; try rfl
    simp only [Act.put, List.setIfInBounds_toArray, List.set_cons_zero, List.set_cons_succ]
    refine take_at 13 (some 46) (v := ?_) rfl rfl (by kernel_rfl) (by kernel_rfl) (by kernel_rfl) (fun _ _ _ h => h) ⟨by rfl, ?_⟩ hS ?_
    rotate_left
    · intro wq hSw; obtain ⟨r0, r1, r2, r3⟩ := hSw; have q := (r3.get 0 _ rfl).1; have q1 := (r3.get 1 _ rfl).1; have q2 := (r3.get 2 _ rfl).1; go_simp; try rfl
    simp only [Act.put, List.setIfInBounds_toArray, List.set_cons_zero, List.set_cons_succ]
    have ltt := Ta.out.1
    obtain ⟨v0, st, y1, hr1, hb1, hf1⟩ := AnyAt.entry lawK Tryz.underlying104 zeroE Pa.out.cm ((up_map entV).2 Pa.out.upK) (keyI hid) (by have := Pa.out.lenK; simp; omega)
    obtain ⟨y2, hr2, hm2, hb2⟩ := hf1 (.agg #[.int .i64 grp, ptr b]) y1 rfl
    have k1 : Keep (fun z => z = l.mc) xa y1 := (Keep.refl (fun z => z = l.mc) xa).grown hb1.1 (by rintro g ⟨⟩ _; rfl)
    have k2 : Keep (fun z => z = l.mc) xa y2 := k1.grown hb2.1 (by rintro g ⟨⟩ _; rfl)
    have gm2 := anyAt_keep Pa.out.gm k2 (by omega)
    obtain ⟨v1, st1, y3, hr3, hb3, hf3⟩ := AnyAt.entry lawK Tryz.underlying105 zeroT gm2 ((up_map totV).2 Pa.out.gup) (keyI hgI) (by have := Pa.out.lenG; simp; omega)
    obtain ⟨y4, hr4, hm4, hb4⟩ := hf3 (tot (s0 + v) (s1 + v) (s2 + v)) y3 rfl
    have k3 : Keep (fun z => z = l.mg) y2 y3 := (Keep.refl (fun z => z = l.mg) y2).grown hb3.1 (by rintro g ⟨⟩ _; rfl)
    have k4 : Keep (fun z => z = l.mg) y2 y4 := k3.grown hb4.1 (by rintro g ⟨⟩ _; rfl)
    have j3 : Keep (fun z => z = l.mc ∨ z = l.mg) xa y3 := (k2.mono (T := fun z => z = l.mc ∨ z = l.mg) (fun _ _ q => .inl q)).trans k3 (fun _ _ q => .inr q)
    have j4 : Keep (fun z => z = l.mc ∨ z = l.mg) xa y4 := (k2.mono (T := fun z => z = l.mc ∨ z = l.mg) (fun _ _ q => .inl q)).trans k4 (fun _ _ q => .inr q)
    have H1 := hide hr1
    have H2 := hide hr2
    have H3 := hide hr3
    have H4 := hide hr4
    have cm4 := anyAt_keep hm2 k4 (by omega)
    clear hr1 hr2 hr3 hr4 hf1 hf3 hb1 hb2 hb3 hb4 gm2 hm2 k3 k4
    refine wpAnyH_ready (rs := [14]) (by kernel_rfl) (by simp) ?_
    refine AllReadyH.cons rfl (fun K hK => ?_) AllReadyH.nil
    refine wp_entry 47 (.tmp 36) (.tmp 38) rfl rfl rfl rfl rfl H1.out ?_
    refine hK.out _ _ ⟨Pa.out.box.keep k1 (by omega), Ca.out.keep k1 (by omega), Ea.out.keep k1 (by omega), Ta.out.keep k1 (by omega)⟩ (fun hS => ?_)
    clear hK K
    (try simp only [Act.put, List.setIfInBounds_toArray, List.set_cons_zero, List.set_cons_succ])
    refine take_at 15 (some 48) (v := ?_) rfl rfl (by kernel_rfl) (by kernel_rfl) (by kernel_rfl) (fun _ _ _ h => h) ⟨by rfl, ?_⟩ hS ?_
    rotate_left
    · intro wq hSw; go_simp; try rfl
    simp only [Act.put, List.setIfInBounds_toArray, List.set_cons_zero, List.set_cons_succ]
    refine wpAnyH_ready (rs := [16]) (by kernel_rfl) (by simp) ?_
    refine AllReadyH.cons rfl (fun K hK => ?_) AllReadyH.nil
    refine wp_fill (.tmp 36) (.tmp 48) (.tmp 45) rfl rfl rfl rfl rfl H2.out ?_
    refine hK.out _ _ ⟨Pa.out.box.keep k2 (by omega), Ca.out.keep k2 (by omega), Ea.out.keep k2 (by omega), Ta.out.keep k2 (by omega)⟩ (fun hS => ?_)
    clear hK K
    (try simp only [Act.put, List.setIfInBounds_toArray, List.set_cons_zero, List.set_cons_succ])
    refine wpAnyH_ready (rs := [17]) (by kernel_rfl) (by simp) ?_
    refine AllReadyH.cons rfl (fun K hK => ?_) AllReadyH.nil
    refine wp_entry 49 (.tmp 42) (.tmp 44) rfl rfl rfl rfl rfl H3.out ?_
    refine hK.out _ _ ⟨Pa.out.box.keep j3 (by omega), Ca.out.keep j3 (by omega), Ea.out.keep j3 (by omega), Ta.out.keep j3 (by omega)⟩ (fun hS => ?_)
    clear hK K
    (try simp only [Act.put, List.setIfInBounds_toArray, List.set_cons_zero, List.set_cons_succ])
    refine take_at 18 (some 50) (v := ?_) rfl rfl (by kernel_rfl) (by kernel_rfl) (by kernel_rfl) (fun _ _ _ h => h) ⟨by rfl, ?_⟩ hS ?_
    rotate_left
    · intro wq hSw; go_simp; try rfl
    simp only [Act.put, List.setIfInBounds_toArray, List.set_cons_zero, List.set_cons_succ]
    refine wpAnyH_ready (rs := [19]) (by kernel_rfl) (by simp) ?_
    refine AllReadyH.cons rfl (fun K hK => ?_) AllReadyH.nil
    refine wp_fill (.tmp 42) (.tmp 50) (.tmp 46) rfl rfl rfl rfl rfl H4.out ?_
    refine hK.out _ _ ⟨Pa.out.box.keep j4 (by omega), Ca.out.keep j4 (by omega), Ea.out.keep j4 (by omega), Ta.out.keep j4 (by omega)⟩ (fun hS => ?_)
    clear hK K
    (try simp only [Act.put, List.setIfInBounds_toArray, List.set_cons_zero, List.set_cons_succ])
    refine wpAnyH_done (by kernel_rfl) ?_ _
    go_wp2_with fail
    go_ret
    exact ⟨rfl, b, m, PM xa y4 b m Pa.out hb0 hm0 (Qa.out.keep j4 (by omega) (by omega)) j4 cm4 hm4, (Keep.of_below (S := fun z => z = l.mc ∨ z = l.mg) Ba.out).trans j4 (fun _ _ q => q), hb0, hm0⟩
end Go.Proofs.YtaohdmaenplbpaaGreat
