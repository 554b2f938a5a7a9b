import Derived.Test.YtoocbpbaieedmaaAp34
namespace Go.Proofs.Ytoocbpbaieedmaa
open Go.RowKit Go.QK Quota
set_option maxRecDepth 100000
theorem mark_at {α : Type} {f : α → List Value} {sz : Nat} (hf : ∀ x, (f x).length = sz) (xs : List α) (m : α) (v : Value) (hm : (f m)[0]? = some v) : (rowsC f xs ++ f m)[xs.length * sz]? = some v := by
  have hl : (rowsC f xs).length = xs.length * sz := by
    induction xs with
    | nil => simp [rowsC]
    | cons x xs ih => simp only [rowsC, List.flatMap_cons, List.length_append, List.length_cons] at *; rw [ih, hf, Nat.succ_mul, Nat.add_comm]
  rw [List.getElem?_append_right (by omega), hl, Nat.sub_self, hm]
theorem Lent.marks {w : World} {B : Nat} {p : Pg} {t : At} {g1 g2 : Nat} (h : Lent w B p t g1 g2) : w.cell? ⟨g1, p.cs.length * 5, none⟩ = some (.int .i64 23130) ∧ w.cell? ⟨g2, p.gs.length * 2, none⟩ = some (.int .i64 23130) ∧ g1 < w.heap.size ∧ g2 < w.heap.size ∧ p.cs.length + 1 ≤ t.c ∧ p.gs.length + 1 ≤ t.d := by
  obtain ⟨a1, c1, e1, l1, n1, -⟩ := GRow.lies h.r1
  obtain ⟨a2, c2, e2, l2, n2, -⟩ := GRow.lies h.r2
  rw [h.ta] at e1
  rw [h.tb] at e2
  simp only [Value.slice.injEq, true_and] at e1 e2
  obtain ⟨x1, y1⟩ := e1
  obtain ⟨x2, y2⟩ := e2
  obtain ⟨b1, o1, z1, s1, u1⟩ := l1.cellAt _ _ (mark_at (sz := 5) (fun x => rfl) p.cs ⟨23130, 0, 0, 0, 0⟩ (.int .i64 23130) rfl)
  obtain ⟨b2, o2, z2, s2, u2⟩ := l2.cellAt _ _ (mark_at (sz := 2) (fun x => rfl) p.gs ⟨23130, 0⟩ (.int .i64 23130) rfl)
  rw [← x1] at z1
  rw [← x2] at z2
  cases z1
  cases z2
  rw [Nat.zero_add] at u1 u2
  exact ⟨u1, u2, s1, s2, by omega, by omega⟩
set_option maxHeartbeats 8000000 in
theorem kept_any (p : Pg) (t u : At) (B g1 g2 : Nat) (w : World) (h : Lent w B p u g1 g2) (ht : PIn w p t) (hl1 : p.cs.length ≤ 1000) (hl2 : p.gs.length ≤ 1000) :
    Calls Try.prog 27 #[pgV p u, pgV p t] w fun e w' => e = .returned (.bool true) ∧ Below w.heap.size w w' := by
  obtain ⟨m1, m2, s1, s2, k1, k2⟩ := h.marks
  have hin := h.in_
  have e1 := h.ta
  have e2 := h.tb
  clear h
  have KB := hide (fun w' => back_any p u w')
  have KS := hide (fun w' (h1 : PIn w' p u) (h2 : PIn w' p t) => same_true p u t w' h1 h2 (by omega) (by omega))
  obtain ⟨num, lsn, cs, gs⟩ := p
  obtain ⟨ta, tc, tb, td⟩ := t
  obtain ⟨ua, uc, ub, ud⟩ := u
  simp only at e1 e2 m1 m2 k1 k2
  subst e1 e2
  simp only [pgV, pgA] at *
  have I1 := hide hin
  have I2 := hide ht
  have M1 := hide m1
  have M2 := hide m2
  clear hin ht m1 m2
  go_enter Try.func27, Try.ntmps27
  go_upto_region 3 with fail
  refine named (P := Code.wp _ _ _ _) ?_
  intro w0 hw0
  obtain ⟨nb, hnb⟩ : ∃ nb, nb = w.heap.size := ⟨_, rfl⟩
  rw [← hnb]
  have b0 : Below w.heap.size w w0 := by rw [hw0]; exact Below.trans (alloc_below _ _) ((alloc_below _ _).mono (alloc_below _ _).size)
  have CO := hide (show Cells w0 nb [.int .i64 num, .int .i64 lsn, .slice (some ⟨g1, 0, none⟩) cs.length uc, .slice (some ⟨g2, 0, none⟩) gs.length ud] by rw [hw0, hnb]; exact (Cells.new w _ _).below (alloc_below _ _))
  have CP := hide (show Cells w0 (nb + 1) [.int .i64 num, .int .i64 lsn, .slice ta cs.length tc, .slice tb gs.length td] by rw [hw0, hnb, show w.heap.size + 1 = (w.alloc (.cells (#[.int .i64 num, .int .i64 lsn, .slice (some ⟨g1, 0, none⟩) cs.length uc, .slice (some ⟨g2, 0, none⟩) gs.length ud]) 40)).heap.size from (Array.size_push _).symm]; exact Cells.new _ _ _)
  have J1 := hide (I1.out.below b0)
  have J2 := hide (I2.out.below b0)
  have C1 := hide (show w0.cell? ⟨g1, cs.length * 5, none⟩ = some (.int .i64 23130) by rw [b0.cell s1]; exact M1.out)
  have C2 := hide (show w0.cell? ⟨g2, gs.length * 2, none⟩ = some (.int .i64 23130) by rw [b0.cell s2]; exact M2.out)
  have S1 := hide (show g1 < w0.heap.size from Nat.lt_of_lt_of_le s1 b0.size)
  have S2 := hide (show g2 < w0.heap.size from Nat.lt_of_lt_of_le s2 b0.size)
  have B0 := hide b0
  clear hw0 hnb b0 I1 I2 M1 M2 s1 s2
  refine wp_region_held_drew (S := fun wq => Below w0.heap.size w0 wq) (by kernel_rfl) (Below.refl _ _).drew (fun hS => ?_)
  refine take_at 0 (some 21) (v := ?_) rfl rfl (by kernel_rfl) (by kernel_rfl) (by kernel_rfl) (fun _ _ _ h => h) ⟨by rfl, ?_⟩ hS ?_
  rotate_left
  · intro wq hSw; have qq := (CO.out.below hSw); obtain ⟨q0, _⟩ := qq.get 0 _ rfl; obtain ⟨q1, _⟩ := qq.get 1 _ rfl; obtain ⟨q2, _⟩ := qq.get 2 _ rfl; obtain ⟨q3, _⟩ := qq.get 3 _ rfl; clear qq; go_simp; try rfl
  simp only [Act.put, List.setIfInBounds_toArray, List.set_cons_zero, List.set_cons_succ]
  refine take_at 2 (some 23) (v := ?_) rfl rfl (by kernel_rfl) (by kernel_rfl) (by kernel_rfl) (fun _ _ _ h => h) ⟨by rfl, ?_⟩ hS ?_
  rotate_left
  · intro wq hSw; have qq := (CP.out.below hSw); obtain ⟨q0, _⟩ := qq.get 0 _ rfl; obtain ⟨q1, _⟩ := qq.get 1 _ rfl; obtain ⟨q2, _⟩ := qq.get 2 _ rfl; obtain ⟨q3, _⟩ := qq.get 3 _ rfl; clear qq; go_simp; try rfl
  simp only [Act.put, List.setIfInBounds_toArray, List.set_cons_zero, List.set_cons_succ]
  refine wpAnyH_ready (rs := [1]) (by kernel_rfl) (by simp) ?_
  refine AllReadyH.cons rfl (fun K hK => ?_) AllReadyH.nil
  go_simp
  go_wp2_with fail
  refine (KB.out _).mono ?_
  rintro e x1 ⟨rfl, hh⟩
  go_wp2_with fail
  refine hK.out _ _ (hS.trans (hh.mono hS.size)) (fun hS => ?_)
  clear hK K
  (try simp only [Act.put, List.setIfInBounds_toArray, List.set_cons_zero, List.set_cons_succ])
  refine wpAnyH_ready (rs := [3]) (by kernel_rfl) (by simp) ?_
  refine AllReadyH.cons rfl (fun K hK => ?_) AllReadyH.nil
  go_simp
  go_wp2_with fail
  refine (KS.out _ (J1.out.below hS) (J2.out.below hS)).mono ?_
  rintro e x2 ⟨rfl, hh2⟩
  go_wp2_with fail
  refine hK.out _ _ (hS.trans (hh2.mono hS.size)) (fun hS => ?_)
  clear hK K
  (try simp only [Act.put, List.setIfInBounds_toArray, List.set_cons_zero, List.set_cons_succ])
  refine take_at 4 (some 25) (v := ?_) rfl rfl (by kernel_rfl) (by kernel_rfl) (by kernel_rfl) (fun _ _ _ h => h) ⟨by rfl, ?_⟩ hS ?_
  rotate_left
  · intro wq hSw; go_simp; try rfl
  simp only [Act.put, List.setIfInBounds_toArray, List.set_cons_zero, List.set_cons_succ]
  refine take_at 5 (some 26) (v := ?_) rfl rfl (by kernel_rfl) (by kernel_rfl) (by kernel_rfl) (fun _ _ _ h => h) ⟨by rfl, ?_⟩ hS ?_
  rotate_left
  · intro wq hSw; go_simp; try rfl
  simp only [Act.put, List.setIfInBounds_toArray, List.set_cons_zero, List.set_cons_succ]
  refine take_at 6 (some 27) (v := ?_) rfl rfl (by kernel_rfl) (by kernel_rfl) (by kernel_rfl) (fun _ _ _ h => h) ⟨by rfl, ?_⟩ hS ?_
  rotate_left
  · intro wq hSw; go_simp; try rfl
  simp only [Act.put, List.setIfInBounds_toArray, List.set_cons_zero, List.set_cons_succ]
  refine take_at 7 (some 28) (v := ?_) rfl rfl (by kernel_rfl) (by kernel_rfl) (by kernel_rfl) (fun _ _ _ h => h) ⟨by rfl, ?_⟩ hS ?_
  rotate_left
  · intro wq hSw; obtain ⟨q2, _⟩ := (CP.out.below hSw).get 2 _ rfl; go_simp; try rfl
  simp only [Act.put, List.setIfInBounds_toArray, List.set_cons_zero, List.set_cons_succ]
  refine take_at 8 (some 29) (v := ?_) rfl rfl (by kernel_rfl) (by kernel_rfl) (by kernel_rfl) (fun _ _ _ h => h) ⟨by rfl, ?_⟩ hS ?_
  rotate_left
  · intro wq hSw; go_simp; try rfl
  simp only [Act.put, List.setIfInBounds_toArray, List.set_cons_zero, List.set_cons_succ]
  refine take_at 9 (some 30) (v := ?_) rfl rfl (by kernel_rfl) (by kernel_rfl) (by kernel_rfl) (fun _ _ _ h => h) ⟨by rfl, ?_⟩ hS ?_
  rotate_left
  · intro wq hSw; have q : ((cs.length : Int) < (cs.length : Int) + 1) := (by omega); go_simp; try rfl
  simp only [Act.put, List.setIfInBounds_toArray, List.set_cons_zero, List.set_cons_succ]
  refine take_at 10 (some 31) (v := ?_) rfl rfl (by kernel_rfl) (by kernel_rfl) (by kernel_rfl) (fun _ _ _ h => h) ⟨by rfl, ?_⟩ hS ?_
  rotate_left
  · intro wq hSw; go_simp; try rfl
  simp only [Act.put, List.setIfInBounds_toArray, List.set_cons_zero, List.set_cons_succ]
  refine take_at 11 (some 32) (v := ?_) rfl rfl (by kernel_rfl) (by kernel_rfl) (by kernel_rfl) (fun _ _ _ h => h) ⟨by rfl, ?_⟩ hS ?_
  rotate_left
  · intro wq hSw; have q := (hSw.cell S1.out).trans C1.out; go_simp; try rfl
  simp only [Act.put, List.setIfInBounds_toArray, List.set_cons_zero, List.set_cons_succ]
  refine take_at 12 (some 33) (v := ?_) rfl rfl (by kernel_rfl) (by kernel_rfl) (by kernel_rfl) (fun _ _ _ h => h) ⟨by rfl, ?_⟩ hS ?_
  rotate_left
  · intro wq hSw; go_simp; try rfl
  simp only [Act.put, List.setIfInBounds_toArray, List.set_cons_zero, List.set_cons_succ]
  refine take_at 13 (some 34) (v := ?_) rfl rfl (by kernel_rfl) (by kernel_rfl) (by kernel_rfl) (fun _ _ _ h => h) ⟨by rfl, ?_⟩ hS ?_
  rotate_left
  · intro wq hSw; go_simp; try rfl
  simp only [Act.put, List.setIfInBounds_toArray, List.set_cons_zero, List.set_cons_succ]
  refine take_at 14 (some 35) (v := ?_) rfl rfl (by kernel_rfl) (by kernel_rfl) (by kernel_rfl) (fun _ _ _ h => h) ⟨by rfl, ?_⟩ hS ?_
  rotate_left
  · intro wq hSw; go_simp; try rfl
  simp only [Act.put, List.setIfInBounds_toArray, List.set_cons_zero, List.set_cons_succ]
  refine take_at 15 (some 36) (v := ?_) rfl rfl (by kernel_rfl) (by kernel_rfl) (by kernel_rfl) (fun _ _ _ h => h) ⟨by rfl, ?_⟩ hS ?_
  rotate_left
  · intro wq hSw; go_simp; try rfl
  simp only [Act.put, List.setIfInBounds_toArray, List.set_cons_zero, List.set_cons_succ]
  refine take_at 16 (some 37) (v := ?_) rfl rfl (by kernel_rfl) (by kernel_rfl) (by kernel_rfl) (fun _ _ _ h => h) ⟨by rfl, ?_⟩ hS ?_
  rotate_left
  · intro wq hSw; go_simp; try rfl
  simp only [Act.put, List.setIfInBounds_toArray, List.set_cons_zero, List.set_cons_succ]
  refine take_at 17 (some 38) (v := ?_) rfl rfl (by kernel_rfl) (by kernel_rfl) (by kernel_rfl) (fun _ _ _ h => h) ⟨by rfl, ?_⟩ hS ?_
  rotate_left
  · intro wq hSw; obtain ⟨q2, _⟩ := (CP.out.below hSw).get 3 _ rfl; go_simp; try rfl
  simp only [Act.put, List.setIfInBounds_toArray, List.set_cons_zero, List.set_cons_succ]
  refine take_at 18 (some 39) (v := ?_) rfl rfl (by kernel_rfl) (by kernel_rfl) (by kernel_rfl) (fun _ _ _ h => h) ⟨by rfl, ?_⟩ hS ?_
  rotate_left
  · intro wq hSw; go_simp; try rfl
  simp only [Act.put, List.setIfInBounds_toArray, List.set_cons_zero, List.set_cons_succ]
  refine take_at 19 (some 40) (v := ?_) rfl rfl (by kernel_rfl) (by kernel_rfl) (by kernel_rfl) (fun _ _ _ h => h) ⟨by rfl, ?_⟩ hS ?_
  rotate_left
  · intro wq hSw; have q : ((gs.length : Int) < (gs.length : Int) + 1) := (by omega); go_simp; try rfl
  simp only [Act.put, List.setIfInBounds_toArray, List.set_cons_zero, List.set_cons_succ]
  refine take_at 20 (some 41) (v := ?_) rfl rfl (by kernel_rfl) (by kernel_rfl) (by kernel_rfl) (fun _ _ _ h => h) ⟨by rfl, ?_⟩ hS ?_
  rotate_left
  · intro wq hSw; go_simp; try rfl
  simp only [Act.put, List.setIfInBounds_toArray, List.set_cons_zero, List.set_cons_succ]
  refine take_at 21 (some 42) (v := ?_) rfl rfl (by kernel_rfl) (by kernel_rfl) (by kernel_rfl) (fun _ _ _ h => h) ⟨by rfl, ?_⟩ hS ?_
  rotate_left
  · intro wq hSw; have q := (hSw.cell S2.out).trans C2.out; go_simp; try rfl
  simp only [Act.put, List.setIfInBounds_toArray, List.set_cons_zero, List.set_cons_succ]
  refine take_at 22 (some 43) (v := ?_) rfl rfl (by kernel_rfl) (by kernel_rfl) (by kernel_rfl) (fun _ _ _ h => h) ⟨by rfl, ?_⟩ hS ?_
  rotate_left
  · intro wq hSw; go_simp; try rfl
  simp only [Act.put, List.setIfInBounds_toArray, List.set_cons_zero, List.set_cons_succ]
  refine take_at 23 (some 44) (v := ?_) rfl rfl (by kernel_rfl) (by kernel_rfl) (by kernel_rfl) (fun _ _ _ h => h) ⟨by rfl, ?_⟩ hS ?_
  rotate_left
  · intro wq hSw; go_simp; try rfl
  simp only [Act.put, List.setIfInBounds_toArray, List.set_cons_zero, List.set_cons_succ]
  refine take_at 24 (some 4) (v := ?_) rfl rfl (by kernel_rfl) (by kernel_rfl) (by kernel_rfl) (fun _ _ _ h => h) ⟨by rfl, ?_⟩ hS ?_
  rotate_left
  · intro wq hSw; go_simp; try rfl
  simp only [Act.put, List.setIfInBounds_toArray, List.set_cons_zero, List.set_cons_succ]
  have SS := hide hS
  clear hS
  refine wpAnyH_done (by kernel_rfl) ?_ _
  go_wp2_with fail
  go_ret
  exact ⟨rfl, B0.out.trans (SS.out.mono B0.out.size)⟩
end Go.Proofs.Ytoocbpbaieedmaa
