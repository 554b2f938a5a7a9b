import Derived.Test.YtllpfojkbeloeaaDoorReads2
namespace Go.Proofs.YtllpfojkbeloeaaDoor
open Go.RowKit Go.QK
theorem bytes_under {w w' : World} {B : Nat} {a : Option Addr} {x : List Nat} (h : Bytes w a x) (hl : x ≠ [] → ∀ ad, a = some ad → ad.block < B) (k : Below B w w') : Bytes w' a x := by
  by_cases hx : x = []
  · subst hx; exact .inl rfl
  · rcases h with q | ⟨b, off, q, hlt, hc⟩
    · exact .inl q
    · exact .inr ⟨b, off, q, Nat.lt_of_lt_of_le hlt k.size, fun i hi => (k.cell (p := ⟨b, off + i, none⟩) (show b < B from hl hx ⟨b, off, none⟩ q)).trans (hc i hi)⟩
/-- A store into memory that bears none of the table's labels. -/
theorem Tb.aside {w w' : World} {lab : Nat → Nat} {B t g : Nat} {sd : Nat → Side} {vL vM : Value} {Ls Ms : List Value} (h : Tb w lab B t sd vL vM Ls Ms) (hg : lab g = 9) (hk : Keep (fun b => b = g) w w') : Tb w' lab B t sd vL vM Ls Ms ∧ Below B w w' := by
  have q := h.keep (Y := fun L => L = 9) (lab' := lab) hk (fun _ _ => rfl) (fun b hb => by rw [hb]; exact hg)
  exact ⟨⟨q.base, q.tB, q.lt, q.tl, fun _ => q.tb (nY (by omega)), fun i hi _ => q.wr i hi (nY (by omega)), fun i hi _ => q.sa i hi (nY (by omega)), fun i hi _ => q.rd i hi (nY (by omega)), fun i hi _ => q.rr i hi (nY (by omega)), fun _ => q.rL (nY (by omega)), fun _ => q.rM (nY (by omega)), q.len, q.low, fun k h1 h2 _ => q.en k h1 h2 (nY (by omega))⟩,
    hk.below h.base (fun b hb e => by have := h.low b hb; have e : b = g := e; rw [e, hg] at this; omega)⟩
section
variable {w w2 : World} {lab : Nat → Nat} {B t : Nat} {sd : Nat → Side} {vL vM : Value} {Ls Ms : List Value}
theorem Tb.putReader' (h : Tb w lab B t sd vL vM Ls Ms) (i : Nat) (hi : i < 2) {r : Nat} {a : Option Addr} {c : Nat} {x : List Nat} {p e : Nat} (hk : Below w.heap.size w w2) (hr : Rd w2 r a c x p e) (hn : w.heap.size ≤ r) (hn2 : ∀ ad, a = some ad → w.heap.size ≤ ad.block) :
    (∃ lab', Tb (w2.setCell ⟨t, 4 + i, none⟩ (ptrAt r)) lab' B t (upd sd i (fun s => { s with r := r, ra := a, rc := c, x := x, pos := p, e := e })) vL vM Ls Ms ∧ ∀ b, b < w.heap.size → lab' b = lab b) ∧ Below B w (w2.setCell ⟨t, 4 + i, none⟩ (ptrAt r)) := by
  have tb2 := (h.tb id).below hk
  have kt : Keep (fun b => b = t) w2 (w2.setCell ⟨t, 4 + i, none⟩ (ptrAt r)) := (Keep.refl (fun b => b = t) w2).setCell (fun _ => rfl) _
  have kk : Keep (fun b => b = t) w (w2.setCell ⟨t, 4 + i, none⟩ (ptrAt r)) := (Keep.of_below hk).trans kt (fun _ _ q => q)
  have q := h.keep (Y := fun L => L = 0 ∨ L = 10 * i + 3) kk (relab_old w lab (10 * i + 3)) (fun b hb => .inl (by rw [hb]; exact h.lt))
  refine ⟨⟨_, Tb.turn q i _ ?_ ?_ ?_ ?_ ?_ ?_ ?_ (nY0 (by omega) (by omega)) (nY0 (by omega) (by omega)) (fun k => nY0 (by omega) (by omega)), relab_old w lab (10 * i + 3)⟩, kk.below h.base (fun b hb r => by have := h.tB; have : b = t := r; omega)⟩
  · rw [tcs_reader sd i hi]
    exact tb2.stored (by rw [tcs_len]; omega) _
  · intro j hj hY
    exact ⟨upd_fix sd i j _ (·.p) (fun _ => rfl), upd_fix sd i j _ (·.v) (fun _ => rfl), upd_fix sd i j _ (·.l) (fun _ => rfl)⟩
  · intro j hj hY; omega
  · intro j hj hY
    exact ⟨upd_fix sd i j _ (·.s) (fun _ => rfl), upd_fix sd i j _ (·.sl) (fun _ => rfl)⟩
  · intro j hj hY; omega
  · intro j hj
    by_cases hji : j = i
    · subst hji
      rw [upd_same]
      have := h.tl
      have := h.base
      exact ⟨hr.keep kt (fun e => by have : r = t := e; omega) (fun ad had e => by have := hn2 ad had; have : ad.block = t := e; omega), relab_new _ _ _ _ hn, by dsimp only; omega, fun _ ad had => ⟨relab_new _ _ _ _ (hn2 ad had), by have := hn2 ad had; omega⟩⟩
    · rw [upd_other _ _ _ _ hji]
      exact q.rd j hj (nY2 (by omega) (by omega))
  · intro j hj
    have := q.rr j hj (nY2 (by omega) (by omega))
    unfold upd
    split <;> exact this

theorem Tb.putRReader' (h : Tb w lab B t sd vL vM Ls Ms) (i : Nat) (hi : i < 2) {r : Nat} {a : Option Addr} {c : Nat} {x : List Nat} {p e : Nat} (hk : Below w.heap.size w w2) (hr : Rd w2 r a c x p e) (hn : w.heap.size ≤ r) (hn2 : ∀ ad, a = some ad → w.heap.size ≤ ad.block) :
    (∃ lab', Tb (w2.setCell ⟨t, 6 + i, none⟩ (ptrAt r)) lab' B t (upd sd i (fun s => { s with d := r, da := a, dc := c, y := x, qos := p, f := e })) vL vM Ls Ms ∧ ∀ b, b < w.heap.size → lab' b = lab b) ∧ Below B w (w2.setCell ⟨t, 6 + i, none⟩ (ptrAt r)) := by
  have tb2 := (h.tb id).below hk
  have kt : Keep (fun b => b = t) w2 (w2.setCell ⟨t, 6 + i, none⟩ (ptrAt r)) := (Keep.refl (fun b => b = t) w2).setCell (fun _ => rfl) _
  have kk : Keep (fun b => b = t) w (w2.setCell ⟨t, 6 + i, none⟩ (ptrAt r)) := (Keep.of_below hk).trans kt (fun _ _ q => q)
  have q := h.keep (Y := fun L => L = 0 ∨ L = 10 * i + 4) kk (relab_old w lab (10 * i + 4)) (fun b hb => .inl (by rw [hb]; exact h.lt))
  refine ⟨⟨_, Tb.turn q i _ ?_ ?_ ?_ ?_ ?_ ?_ ?_ (nY0 (by omega) (by omega)) (nY0 (by omega) (by omega)) (fun k => nY0 (by omega) (by omega)), relab_old w lab (10 * i + 4)⟩, kk.below h.base (fun b hb r => by have := h.tB; have : b = t := r; omega)⟩
  · rw [tcs_rreader sd i hi]
    exact tb2.stored (by rw [tcs_len]; omega) _
  · intro j hj hY
    exact ⟨upd_fix sd i j _ (·.p) (fun _ => rfl), upd_fix sd i j _ (·.v) (fun _ => rfl), upd_fix sd i j _ (·.l) (fun _ => rfl)⟩
  · intro j hj hY; omega
  · intro j hj hY
    exact ⟨upd_fix sd i j _ (·.s) (fun _ => rfl), upd_fix sd i j _ (·.sl) (fun _ => rfl)⟩
  · intro j hj hY; omega
  · intro j hj
    have := q.rd j hj (nY2 (by omega) (by omega))
    unfold upd
    split <;> exact this
  · intro j hj
    by_cases hji : j = i
    · subst hji
      rw [upd_same]
      have := h.tl
      have := h.base
      exact ⟨hr.keep kt (fun e => by have : r = t := e; omega) (fun ad had e => by have := hn2 ad had; have : ad.block = t := e; omega), relab_new _ _ _ _ hn, by dsimp only; omega, fun _ ad had => ⟨relab_new _ _ _ _ (hn2 ad had), by have := hn2 ad had; omega⟩⟩
    · rw [upd_other _ _ _ _ hji]
      exact q.rr j hj (nY2 (by omega) (by omega))
end
/-- Two new readers over the same bytes. -/
theorem Tbl.opened {w3 : World} {lab : Nat → Nat} {B t m : Nat} {sd : Nat → Side} {vL vM : Value} {Ls Ms : List Value} {j r d c c' : Nat} {a a' : Option Addr} {x : List Nat} (T : Tb w3 lab B t (upd (upd sd j (fun s => { s with r := r, ra := a, rc := c, x := x, pos := 0, e := 0 })) j (fun s => { s with d := d, da := a', dc := c', y := x, qos := 0, f := 0 })) vL vM Ls Ms) (hls : Ls.length ≤ 2 * m)
    (hsd : ∀ i, i < 2 → (sd i).sl = (sd i).l ∧ (sd i).l.length ≤ 10 * m ∧ (sd i).y = (sd i).x ∧ (sd i).qos = (sd i).pos ∧ (sd i).f = (sd i).e ∧ AllB (sd i).l) : Tbl w3 B t (m + 1) := by
  refine ⟨lab, _, vL, vM, Ls, Ms, T, by omega, fun i hi => ?_⟩
  obtain ⟨e1, e2, e3, e4, e5, e6⟩ := hsd i hi
  by_cases hij : i = j
  · subst hij
    rw [upd_same, upd_same]
    exact ⟨e1, by dsimp only; omega, rfl, rfl, rfl, e6⟩
  · rw [upd_other _ _ _ _ hij, upd_other _ _ _ _ hij]
    exact ⟨e1, by omega, e3, e4, e5, e6⟩

set_option maxHeartbeats 1000000 in
set_option maxRecDepth 100000 in
theorem reads_6 (wh : Bool) (n : Nat) (i at_ size : Int) (ab : Option Addr) (cb : Nat) (ap : Option Addr) (lp cp : Nat) (w : World) (B t m : Nat) (h : Tbl w B t m) (xb : List Nat) (hbx : Bytes w ab xb) (bb : AllB xb) (hxl : xb.length ≤ 4000) (hnb : ab = none → cb = 0) (_hcb : xb.length ≤ cb) (hlow : xb ≠ [] → ∀ ad, ab = some ad → ad.block < B) :
    Calls Tryd.prog 37 #[.pointer (some ⟨t, 0, none⟩), .agg (opC 6 wh n i at_ size ab xb.length cb ap lp cp)] w fun e w' => e = .returned (.bool true) ∧ Tbl w' B t (m + 1) ∧ Below B w w' := by
  obtain ⟨lab, sd, vL, vM, Ls, Ms, tb, hls, hsd⟩ := h
  have R0 := hide (Row8.new w (.int .i64 6) (.bool wh) (.int .u64 (n : Int)) (.int .i64 i) (.int .i64 at_) (.int .i64 size) (.slice ab xb.length cb) (.slice ap lp cp) 69)
  have B0 : Below w.heap.size w (w.alloc (.cells #[.int .i64 6, .bool wh, .int .u64 (n : Int), .int .i64 i, .int .i64 at_, .int .i64 size, .slice ab xb.length cb, .slice ap lp cp] 69)) := (Below.refl _ _).alloc (Nat.le_refl _) _
  have T0 := hide (tb.below B0 (relab_old w lab 8))
  have hB := tb.base
  have HSD := hide hsd
  clear hsd tb
  go_enter Tryd.func37, Tryd.ntmps37
  go_wp2_with fail
  refine (which_any _ _ _ _ _ _ _ _ _ _ _ _ _).mono ?_
  rintro e w1 ⟨rfl, b1⟩
  have R1 := hide (Row8.below R0.out b1)
  have T1 := hide (T0.out.below b1 (fun _ _ => rfl))
  have B1 : Below B w w1 := (B0.mono hB).trans (b1.mono (by simp; omega))
  have hb0 : relab w lab 8 w.heap.size = 8 := relab_new _ _ _ _ (Nat.le_refl _)
  obtain ⟨j, hj⟩ : ∃ j : Nat, j = (if wh then 1 else 0) := ⟨_, rfl⟩
  have hj2 : j < 2 := by rw [hj]; split <;> omega
  rw [← hj]
  clear hj R0 T0 B0 b1
  generalize relab w lab 8 = lab1 at *
  generalize w.heap.size = s0 at *
  obtain ⟨z, q0, q1, q2, q3, q4, q5, q6, q7⟩ := R1.out
  obtain ⟨c1, c2, c3, c4⟩ := tcs_at sd vL vM j hj2
  have tw1 := T1.out.tl
  have k3 := ((T1.out.tb id).get _ _ c3).1
  have k4 := ((T1.out.tb id).get _ _ c4).1
  unfold ptrAt at k3 k4
  have hj3 : (j : Int) < 2 := by omega
  have lr := (T1.out.rd j hj2 id).2.1
  have ld := (T1.out.rr j hj2 id).2.1
  have lt := T1.out.lt
  have nrt : ¬ t = (sd j).r := fun e => by rw [← e, lt] at lr; omega
  have ndt : ¬ t = (sd j).d := fun e => by rw [← e, lt] at ld; omega
  have nrs : ¬ s0 = (sd j).r := fun e => by rw [← e, hb0] at lr; omega
  have nds : ¬ s0 = (sd j).d := fun e => by rw [← e, hb0] at ld; omega
  have HB := hide hbx
  have HB1 := hide (bytes_under HB.out hlow B1)
  have hBw1 := T1.out.base
  clear hbx nrt ndt nrs nds k3 k4 lr ld
  go_wp2_with fail
  refine (lent_any ab xb cb _ HB1.out hnb (by omega)).mono ?_
  rintro e w2 ⟨g, c, rfl, o2, hc, hcm, b2⟩
  have T2 := hide (T1.out.below b2 (relab_old w1 lab1 9))
  have lg : relab w1 lab1 9 g = 9 := relab_new _ _ _ _ (World.ownsRow.lt o2 g rfl).1
  have ls0 : relab w1 lab1 9 s0 = 8 := (relab_old _ _ _ _ z).trans hb0
  have hgl := (World.ownsRow.lt o2 g rfl).2
  generalize relab w1 lab1 9 = lab2 at *
  have HO2 := hide o2
  have BL2 := B1.trans (b2.mono hBw1)
  have q6' := (b2.cell (p := ⟨s0, 6, none⟩) z).trans q6
  have z2 := Nat.lt_of_lt_of_le z b2.size
  have T2d := hide (T2.out.below (Below.refl _ _).drew (fun _ _ => rfl))
  have s2 : Bytes w2 (some ⟨g, 0, none⟩) xb := by
    have := Bytes.take (Owns.seen_at o2) xb.length
    rw [List.take_left] at this
    exact this
  have HS2 := hide s2
  clear s2 o2 b2 q0 q1 q2 q3 q4 q5 q6 q7 R1 T1 HB1 c1 c2 c3 c4 lt hb0
  go_upto_region 5 with fail
  refine wp_region_held_drew (S := fun _ => True) (by kernel_rfl) trivial (fun hS => ?_)
  refine take_at 0 (some 21) (v := ?_) rfl rfl (by kernel_rfl) (by kernel_rfl) (by kernel_rfl) (fun _ _ _ h => h) ⟨by rfl, ?_⟩ hS ?_
  rotate_left
  · intro wq hSw; (try dsimp only at hSw); go_simp; try rfl
  simp only [Act.put, List.setIfInBounds_toArray, List.set_cons_zero, List.set_cons_succ]
  refine take_at 1 (some 22) (v := ?_) rfl rfl (by kernel_rfl) (by kernel_rfl) (by kernel_rfl) (fun _ _ _ h => h) ⟨by rfl, ?_⟩ hS ?_
  rotate_left
  · intro wq hSw; (try dsimp only at hSw); go_simp; try rfl
  simp only [Act.put, List.setIfInBounds_toArray, List.set_cons_zero, List.set_cons_succ]
  refine take_at 2 (some 23) (v := ?_) rfl rfl (by kernel_rfl) (by kernel_rfl) (by kernel_rfl) (fun _ _ _ h => h) ⟨by rfl, ?_⟩ hS ?_
  rotate_left
  · intro wq hSw; (try dsimp only at hSw); go_simp; try rfl
  simp only [Act.put, List.setIfInBounds_toArray, List.set_cons_zero, List.set_cons_succ]
  refine take_at 4 (some 25) (v := ?_) rfl rfl (by kernel_rfl) (by kernel_rfl) (by kernel_rfl) (fun _ _ _ h => h) ⟨by rfl, ?_⟩ hS ?_
  rotate_left
  · intro wq hSw; (try dsimp only at hSw); go_simp; try rfl
  simp only [Act.put, List.setIfInBounds_toArray, List.set_cons_zero, List.set_cons_succ]
  refine take_at 5 (some 26) (v := ?_) rfl rfl (by kernel_rfl) (by kernel_rfl) (by kernel_rfl) (fun _ _ _ h => h) ⟨by rfl, ?_⟩ hS ?_
  rotate_left
  · intro wq hSw; (try dsimp only at hSw); go_simp; try rfl
  simp only [Act.put, List.setIfInBounds_toArray, List.set_cons_zero, List.set_cons_succ]
  refine wpAnyH_ready (rs := [3]) (by kernel_rfl) (by simp) ?_
  refine AllReadyH.cons rfl (fun K hK => ?_) AllReadyH.nil
  go_simp
  go_wp2_with fail
  refine (newReader_any _ xb c w2.drew HS2.out (by omega) nofun (by omega) bb).mono ?_
  rintro e w3 ⟨r, a3, c3, rfl, hr, ha, hR, b3⟩
  go_wp2_with fail
  obtain ⟨u3, f3⟩ := ((T2d.out.tb id).below b3).get _ _ (tcs_at _ vL vM j hj2).2.2.1
  unfold ptrAt at u3
  obtain ⟨⟨lab4, T4, l4⟩, B4⟩ := T2d.out.putReader' j hj2 b3 hR hr ha
  unfold ptrAt at T4 B4
  have kk : Keep (fun b => b = t) w2 (w3.setCell ⟨t, 4 + j, none⟩ (.pointer (some ⟨r, 0, none⟩))) := (Keep.of_below (S := fun b => b = t) (below_undrew b3)).setCell (fun _ => rfl) _
  have HT4 := hide T4
  have BL4 := BL2.drew.trans B4
  refine hK.out _ _ trivial (fun _ => ?_)
  clear hK K hR T4 B4 hr ha
  refine take_at 6 (some 27) (v := ?_) rfl rfl (by kernel_rfl) (by kernel_rfl) (by kernel_rfl) (fun _ _ _ h => h) ⟨by rfl, ?_⟩ hS ?_
  rotate_left
  · intro wq hSw; (try dsimp only at hSw); go_simp; try rfl
  simp only [Act.put, List.setIfInBounds_toArray, List.set_cons_zero, List.set_cons_succ]
  refine wpAnyH_ready (rs := [7]) (by kernel_rfl) (by simp) ?_
  refine AllReadyH.cons rfl (fun K hK => ?_) AllReadyH.nil
  go_simp
  go_wp2_with fail
  refine hK.out _ _ trivial (fun _ => ?_)
  clear hK K
  refine wpAnyH_done (by kernel_rfl) ?_ _
  have tlab := T2.out.lt
  have ngt : ¬ g = t := fun e => by rw [e, tlab] at lg; omega
  have nst : ¬ s0 = t := fun e => by rw [e, tlab] at ls0; omega
  have HO4 := hide (Owns.keep HO2.out kk (fun b hb e => ngt ((Option.some.inj hb).trans e)))
  have q64 := (kk.cell (p := ⟨s0, 6, none⟩) z2 nst).trans q6'
  have z4 := Nat.lt_of_lt_of_le z2 kk.size
  have lg4 := (l4 g hgl).trans lg
  have ls4 := (l4 s0 z2).trans ls0
  have gl4 := Nat.lt_of_lt_of_le hgl kk.size
  generalize w3.setCell ⟨t, 4 + j, none⟩ (.pointer (some ⟨r, 0, none⟩)) = w4 at *
  clear u3 f3 b3 kk HS2 HO2 T2 T2d q6' BL2 l4 lg ls0 hgl tlab z2
  have HB4 := hide (bytes_under HB.out hlow BL4)
  have T4d := hide (HT4.out.below (Below.refl _ _).drew (fun _ _ => rfl))
  go_upto_region 6 with fail
  refine wp_region_held_drew (S := fun x => x.cell? ⟨s0, 6, none⟩ = some (.slice ab xb.length cb)) (by kernel_rfl) q64 (fun hS => ?_)
  refine take_at 0 (some 28) (v := ?_) rfl rfl (by kernel_rfl) (by kernel_rfl) (by kernel_rfl) (fun _ _ _ h => h) ⟨by rfl, ?_⟩ hS ?_
  rotate_left
  · intro wq hSw; (try dsimp only at hSw); go_simp; try rfl
  simp only [Act.put, List.setIfInBounds_toArray, List.set_cons_zero, List.set_cons_succ]
  refine take_at 1 (some 29) (v := ?_) rfl rfl (by kernel_rfl) (by kernel_rfl) (by kernel_rfl) (fun _ _ _ h => h) ⟨by rfl, ?_⟩ hS ?_
  rotate_left
  · intro wq hSw; (try dsimp only at hSw); go_simp; try rfl
  simp only [Act.put, List.setIfInBounds_toArray, List.set_cons_zero, List.set_cons_succ]
  refine take_at 2 (some 30) (v := ?_) rfl rfl (by kernel_rfl) (by kernel_rfl) (by kernel_rfl) (fun _ _ _ h => h) ⟨by rfl, ?_⟩ hS ?_
  rotate_left
  · intro wq hSw; (try dsimp only at hSw); go_simp; try rfl
  simp only [Act.put, List.setIfInBounds_toArray, List.set_cons_zero, List.set_cons_succ]
  refine take_at 3 (some 31) (v := ?_) rfl rfl (by kernel_rfl) (by kernel_rfl) (by kernel_rfl) (fun _ _ _ h => h) ⟨by rfl, ?_⟩ hS ?_
  rotate_left
  · intro wq hSw; (try dsimp only at hSw); go_simp; try rfl
  simp only [Act.put, List.setIfInBounds_toArray, List.set_cons_zero, List.set_cons_succ]
  refine take_at 5 (some 33) (v := ?_) rfl rfl (by kernel_rfl) (by kernel_rfl) (by kernel_rfl) (fun _ _ _ h => h) ⟨by rfl, ?_⟩ hS ?_
  rotate_left
  · intro wq hSw; (try dsimp only at hSw); go_simp; try rfl
  simp only [Act.put, List.setIfInBounds_toArray, List.set_cons_zero, List.set_cons_succ]
  refine take_at 6 (some 34) (v := ?_) rfl rfl (by kernel_rfl) (by kernel_rfl) (by kernel_rfl) (fun _ _ _ h => h) ⟨by rfl, ?_⟩ hS ?_
  rotate_left
  · intro wq hSw; (try dsimp only at hSw); go_simp; try rfl
  simp only [Act.put, List.setIfInBounds_toArray, List.set_cons_zero, List.set_cons_succ]
  refine wpAnyH_ready (rs := [4]) (by kernel_rfl) (by simp) ?_
  refine AllReadyH.cons rfl (fun K hK => ?_) AllReadyH.nil
  go_simp
  go_wp2_with fail
  refine (rNew_any ab xb cb w4.drew HB4.out hnb (by omega) bb).mono ?_
  rintro e w5 ⟨d, a5, c5, rfl, hd, ha, hD, b5⟩
  go_wp2_with fail
  obtain ⟨u5, f5⟩ := ((T4d.out.tb id).below b5).get _ _ (tcs_at _ vL vM j hj2).2.2.2
  unfold ptrAt at u5
  obtain ⟨⟨lab6, T6, l6⟩, B6⟩ := T4d.out.putRReader' j hj2 b5 hD hd ha
  unfold ptrAt at T6 B6
  have b45 := below_undrew b5
  have kk : Keep (fun b => b = t) w4 (w5.setCell ⟨t, 6 + j, none⟩ (.pointer (some ⟨d, 0, none⟩))) := (Keep.of_below (S := fun b => b = t) b45).setCell (fun _ => rfl) _
  have HT6 := hide T6
  have BL6 := BL4.drew.trans B6
  have x5 := (b45.cell (p := ⟨s0, 6, none⟩) z4).trans hS
  have x6 := (kk.cell (p := ⟨s0, 6, none⟩) z4 nst).trans hS
  refine hK.out _ _ x5 (fun _ => ?_)
  clear hK K hD T6 B6 hd ha hS
  have hS := x5
  refine take_at 7 (some 35) (v := ?_) rfl rfl (by kernel_rfl) (by kernel_rfl) (by kernel_rfl) (fun _ _ _ h => h) ⟨by rfl, ?_⟩ hS ?_
  rotate_left
  · intro wq hSw; (try dsimp only at hSw); go_simp; try rfl
  simp only [Act.put, List.setIfInBounds_toArray, List.set_cons_zero, List.set_cons_succ]
  refine wpAnyH_ready (rs := [8]) (by kernel_rfl) (by simp) ?_
  refine AllReadyH.cons rfl (fun K hK => ?_) AllReadyH.nil
  go_simp
  go_wp2_with fail
  refine hK.out _ _ x6 (fun _ => ?_)
  clear hK K hS x5
  refine wpAnyH_done (by kernel_rfl) ?_ _
  have HO6 := hide (Owns.keep HO4.out kk (fun b hb e => ngt ((Option.some.inj hb).trans e)))
  have lg6 := (l6 g gl4).trans lg4
  have gl6 := Nat.lt_of_lt_of_le gl4 kk.size
  have HB6 := hide (bytes_under HB.out hlow BL6)
  have k36 := ((HT6.out.tb id).get _ _ (tcs_at _ vL vM j hj2).2.2.1).1
  rw [upd_same, upd_same] at k36
  dsimp only [ptrAt] at k36
  have k46 := ((HT6.out.tb id).get _ _ (tcs_at _ vL vM j hj2).2.2.2).1
  rw [upd_same, upd_same] at k46
  dsimp only [ptrAt] at k46
  generalize w5.setCell ⟨t, 6 + j, none⟩ (.pointer (some ⟨d, 0, none⟩)) = w6 at *
  clear u5 f5 b5 b45 kk HO4 T4d HT4 q64 BL4 l6 lg4 ls4 gl4 z4 HB4
  have KK := kept_any g xb.length c (xb ++ marks) xb ab cb w6 (Owns.seen_at HO6.out) (by simp [marks]) (by omega) HB6.out hnb (by omega) (bb.append marks_b) bb
  rw [decide_eq_true rfl] at KK
  have HKK := hide KK
  clear KK
  have tl6 := HT6.out.tl
  go_wp2_with (go_at_call 46; refine (Hid.out HKK).mono ?_; rintro e w7 ⟨rfl, b7⟩)
  have HX : ∃ sdX, Tb w7 lab6 B t sdX vL vM Ls Ms ∧ (∀ wz, Tb wz lab6 B t sdX vL vM Ls Ms → Tbl wz B t (m + 1)) ∧ (sdX j).r = r ∧ (sdX j).d = d ∧ (sdX j).pos = 0 ∧ (sdX j).e = 0 ∧ (sdX j).qos = 0 ∧ (sdX j).f = 0 :=
    ⟨_, HT6.out.below b7 (fun _ _ => rfl), fun wz T => Tbl.opened T hls HSD.out, by rw [upd_same, upd_same], by rw [upd_same], by rw [upd_same, upd_same], by rw [upd_same, upd_same], by rw [upd_same], by rw [upd_same]⟩
  obtain ⟨sdX, T7, fin, x1, x2, x3, x4, x5', x6'⟩ := HX
  have HFIN := hide fin
  have HXX := hide (And.intro x1 (And.intro x2 (And.intro x3 (And.intro x4 (And.intro x5' x6')))))
  have HT7 := hide T7
  have HO7 := hide (Owns.below HO6.out b7)
  have BL7 := BL6.trans (b7.mono HT6.out.base)
  clear fin x1 x2 x3 x4 x5' x6' T7 b7 HKK HT6 HO6 k36 k46 BL6 HB6 x6 gl6 tl6
  go_loopw [7] (fun q wr => ∃ (k : Nat) (L : List Nat), q = .int .i64 (k : Int) ∧ k ≤ xb.length ∧ L.length = xb.length + 3 ∧ OwnB wr w1.heap.size (.slice (some ⟨g, 0, none⟩) (xb.length + 3) c) L ∧ Tb wr lab6 B t sdX vL vM Ls Ms ∧ Below B w wr) (fun q _ => xb.length - (intOf q).toNat)
  case atStart => exact ⟨0, xb ++ marks, rfl, by omega, by simp [marks], HO7.out, HT7.out, BL7⟩
  case round =>
    clear HO7 HT7 BL7
    obtain ⟨k, L, rfl, hk, hL, ho, hT, hb⟩ := hrel
    have HO := hide ho
    have HTr := hide hT
    have HLL := hide hL
    clear ho hT hL
    by_cases hlt : k < xb.length
    · have d1 : decide ((k : Int) < (xb.length : Int)) = true := decide_eq_true (by omega)
      have d2 : (k : Int) < (xb.length : Int) := by omega
      have ew : IntKind.i64.wrap ((k : Int) + 1) = (k : Int) + 1 := by rw [IntKind.wrap_i64]; omega
      have fz := Owns.frozen HO.out k
      obtain ⟨b1, off1, e2, -, hcell⟩ := Bytes.at (Owns.seen_at HO.out) (i := k) (by have := HLL.out; omega)
      cases e2
      rw [Nat.zero_add] at hcell
      obtain ⟨y0, hy0⟩ : ∃ y0, y0 = L.getD k 0 := ⟨_, rfl⟩
      rw [← hy0] at hcell
      clear hy0
      obtain ⟨y1, hy1⟩ : ∃ y1, y1 = (y0 + 1) % 256 := ⟨_, rfl⟩
      have ew8 : IntKind.u8.wrap ((y0 : Int) + 1) = ((y1 : Nat) : Int) := by rw [IntKind.wrap_u8, hy1]; omega
      clear hy1
      have st := Owns.stored HO.out k (y1 : Int)
      rw [← ints_set] at st
      obtain ⟨T8, B8⟩ := HTr.out.aside lg6 ((Keep.refl (fun b => b = g) wr).setCell (g := g) (j := k) (fun _ => rfl) (.int .u8 (y1 : Int)))
      have HST := hide st
      have HT8 := hide T8
      have BL8 := hb.trans B8
      clear st T8 B8 HO HTr
      go_wp2_with fail
      go_roundw
      case rel => exact ⟨k + 1, _, by go_num, by omega, by rw [List.length_set]; exact HLL.out, HST.out, HT8.out, BL8⟩
      case measure => simp [intOf]; omega
    · have d1 : decide ((k : Int) < (xb.length : Int)) = false := decide_eq_false (by omega)
      obtain ⟨x1, x2, x3, x4, x5, x6⟩ := HXX.out
      have k3 := ((HTr.out.tb id).get _ _ (tcs_at _ vL vM j hj2).2.2.1).1
      have k4 := ((HTr.out.tb id).get _ _ (tcs_at _ vL vM j hj2).2.2.2).1
      have rd := (HTr.out.rd j hj2 id).1
      have rr := (HTr.out.rr j hj2 id).1
      rw [x1] at k3 rd
      rw [x2] at k4 rr
      rw [x3, x4] at rd
      rw [x5, x6] at rr
      unfold ptrAt at k3 k4
      have HRD := hide rd
      have HRR := hide rr
      have tw := HTr.out.tl
      clear rd rr x1 x2 x3 x4 x5 x6 HO
      go_wp2_with fail
      refine (fault_any _ _ _ _ _ _ _ HRD.out).mono ?_
      rintro e w8 ⟨rfl, b8⟩
      have k4' := (b8.cell (p := ⟨t, 6 + j, none⟩) tw).trans k4
      have HRR2 := hide (Rd.below HRR.out b8)
      have T8 := hide (HTr.out.below b8 (fun _ _ => rfl))
      have BL8 := hb.trans (b8.mono HTr.out.base)
      clear k3 k4 HRR HRD HTr
      go_wp2_with fail
      refine (rFault_any _ _ _ _ _ _ _ HRR2.out).mono ?_
      rintro e w9 ⟨rfl, b9⟩
      have T9 := hide (T8.out.below b9 (fun _ _ => rfl))
      have BL9 := BL8.trans (b9.mono T8.out.base)
      clear k4' HRR2
      go_wp2_with (go_at_call 17; refine (num_any _ _).mono ?_; rintro e w' ⟨rfl, rfl⟩)
      go_ret
      exact ⟨rfl, HFIN.out _ T9.out, BL9⟩
end Go.Proofs.YtllpfojkbeloeaaDoor
